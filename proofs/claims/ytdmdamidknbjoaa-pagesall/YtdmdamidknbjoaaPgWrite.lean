/- Write: what it answers, and what it leaves. -/
import Derived.Test.YtdmdamidknbjoaaPgMapTo
import Derived.Test.YtdmdamidknbjoaaPlain
namespace Go.Proofs.Ytdmdamidknbjoaa
open Go.RowKit
set_option maxRecDepth 100000

def slt (a : Act) (i : Nat) : Value := a.tmps.getD i undef
/-- The bytes bs are put over f from off on. -/
def fW (f : Nat → Int) (off : Nat) (bs : List Int) (k : Nat) : Nat → Int := fun j => if off ≤ j ∧ j < off + k then bs.getD (j - off) 0 else f j
theorem fW_zero (f : Nat → Int) (off : Nat) (bs : List Int) : fW f off bs 0 = f := by
  funext j
  unfold fW
  rw [if_neg (by omega)]
theorem fW_next (f : Nat → Int) (off : Nat) (bs : List Int) (k : Nat) : upd (fW f off bs k) (off + k) (bs.getD k 0) = fW f off bs (k + 1) := by
  funext j
  unfold upd
  show (if j = off + k then bs.getD k 0 else fW f off bs k j) = _
  unfold fW
  by_cases h : j = off + k
  · subst h
    rw [if_pos rfl, if_pos (by omega), show off + k - off = k by omega]
  · rw [if_neg h]
    by_cases h2 : off ≤ j ∧ j < off + k
    · rw [if_pos h2, if_pos (by omega)]
    · rw [if_neg h2, if_neg (by omega)]
theorem Row.chg {w w' : World} {a : Option Addr} {n cap : Nat} {xs : List Int} (h : Row w a n cap xs) {S : Nat → Prop} (hc : Chg S w w') (hd : ∀ x, a = some x → 0 < n → ¬ S x.block) : Row w' a n cap xs := by
  obtain ⟨h1, h2, h3, h4, h5, h6, h7⟩ := h
  refine ⟨h1, h2, h3, h4, h5, h6, fun x hx i hi => ?_⟩
  have h8 := h7 x hx i hi
  have hl := lt_of_cell h8
  have hb : (x.add i).block = x.block := by unfold Addr.add; split <;> rfl
  have hk := hc.block x.block (by rw [← hb]; exact hl) (hd x hx (by omega))
  rw [← h8]
  unfold World.cell?
  rw [hb, hk]
section
variable {w w' : World} {S S0 : Nat → Prop} {q p K c free : Nat} {A : Mm} {g : Nat} {b : Nat → Nat} {m : Option Nat} {E : Int → Option Ent} {T : Txt}
/-- A byte of an id's is stored. -/
theorem Spr.store (h : Spr w S S0 q p K c A g b m E) {i : Int} {e : Ent} {j : Nat} (he : E i = some e) (hj : j < e.n) {F : Fr} {v : Int} (hF : A (e.fr (j / 16)) = some F) (hM : Mem w' S0 p K (upd A (e.fr (j / 16)) (some (upd F (j % 16) v))) g b) (hc : Chg S0 w w') :
    Spr w' S S0 q p K c (upd A (e.fr (j / 16)) (some (upd F (j % 16) v))) g b m (setI E i (some { e with f := upd e.f j v })) := by
  have hpj := pg_lt hj
  refine ⟨hM, (hc.block _ (h.lt _ h.sq.1) h.sq.2).trans h.box, (h.map.kept (fun x hx => hc.block x (h.lt x (h.sm x hx).1) (h.sm x hx).2)).congr fun l hl => ?_, fun l e' hl => ?_, fun l e' j' hl hj' => ?_, fun l e1 j1 l' e2 j2 hl hl' g1 g2 g3 => ?_, h.sq, h.sm, h.s0, fun x hx => Nat.lt_of_lt_of_le (h.lt x hx) hc.size⟩
  · by_cases e1 : l = i
    · subst e1; rw [setI_same, he]; rfl
    · rw [setI_other _ _ e1]
  · by_cases e1 : l = i
    · subst e1
      rw [setI_same] at hl
      obtain rfl := Option.some.inj hl
      obtain ⟨r1, r2, r3, r4⟩ := h.row l e he
      exact ⟨r1.of_block (hc.block _ (h.lt _ r2) r3), r2, r3, r4⟩
    · rw [setI_other _ _ e1] at hl
      obtain ⟨r1, r2, r3, r4⟩ := h.row l e' hl
      exact ⟨r1.of_block (hc.block _ (h.lt _ r2) r3), r2, r3, r4⟩
  · by_cases e1 : l = i
    · subst e1
      rw [setI_same] at hl
      obtain rfl := Option.some.inj hl
      simp only at hj' ⊢
      obtain ⟨F', hF', hv⟩ := h.byt l e j' he hj'
      by_cases e2 : j' / 16 = j / 16
      · rw [e2, upd_same]
        refine ⟨_, rfl, ?_⟩
        rw [e2, hF] at hF'
        obtain rfl := Option.some.inj hF'
        by_cases e3 : j' % 16 = j % 16
        · obtain rfl : j' = j := by omega
          rw [upd_same, upd_same]
        · rw [upd_other _ _ e3, upd_other _ _ (fun hh => e3 (by rw [hh]))]; exact hv
      · have hne : e.fr (j' / 16) ≠ e.fr (j / 16) := fun hh => e2 (h.inj _ _ _ _ _ _ he he (pg_lt hj') hpj hh).2
        rw [upd_other _ _ hne, upd_other _ _ (fun hh => e2 (by rw [hh]))]
        exact ⟨F', hF', hv⟩
    · rw [setI_other _ _ e1] at hl
      have hne : e'.fr (j' / 16) ≠ e.fr (j / 16) := fun hh => e1 (h.inj _ _ _ _ _ _ hl he (pg_lt hj') hpj hh).1
      rw [upd_other _ _ hne]
      exact h.byt l e' j' hl hj'
  · have key : ∀ l e' (hl : setI E i (some { e with f := upd e.f j v }) l = some e'), ∃ e0, E l = some e0 ∧ e0.n = e'.n ∧ e0.fr = e'.fr := fun l e' hl => by
      by_cases e1 : l = i
      · subst e1
        rw [setI_same] at hl
        obtain rfl := Option.some.inj hl
        exact ⟨e, he, rfl, rfl⟩
      · rw [setI_other _ _ e1] at hl
        exact ⟨e', hl, rfl, rfl⟩
    obtain ⟨x1, k1, k2, k3⟩ := key l e1 hl
    obtain ⟨x2, k4, k5, k6⟩ := key l' e2 hl'
    exact h.inj l x1 j1 l' x2 j2 k1 k4 (by rw [k2]; exact g1) (by rw [k5]; exact g2) (by rw [k3, k6]; exact g3)
end
theorem setI_setI {α : Type} (f : Int → α) (i : Int) (u v : α) : setI (setI f i u) i v = setI f i v := by
  funext l
  by_cases h : l = i
  · subst h; rw [setI_same, setI_same]
  · rw [setI_other _ _ h, setI_other _ _ h, setI_other _ _ h]
theorem setI_self {E : Int → Option Ent} {i : Int} {e : Ent} (he : E i = some e) : setI E i (some { e with f := e.f }) = E := by
  funext l
  by_cases h : l = i
  · subst h; rw [setI_same, he]
  · rw [setI_other _ _ h]
def tabC (e : Ent) : Obj := .cells #[.slice (some ⟨e.tb, 0, none⟩) (pg e.n) (pg e.n), .int .i64 e.n] 56
/-- Where Write stands behind k bytes. -/
def WAt (w : World) (S S0 : Nat → Prop) (q p K c : Nat) (A : Mm) (g : Nat) (b : Nat → Nat) (m : Option Nat) (E : Int → Option Ent) (i : Int) (e : Ent) (off : Nat) (a : Option Addr) (len cap : Nat) (bs : List Int) (a' : Act) (wr : World) : Prop :=
  ∃ (k : Nat) (A' : Mm) (V : Nat), a' = { tmps := #[.pointer (some ⟨q, 0, none⟩), .int .u64 i, .int .i64 off, .slice a len cap, slt a' 4, slt a' 5, slt a' 6, slt a' 7, .int .i64 0, .pointer (some ⟨V, 0, none⟩), .int .i64 0, .int .i64 k, slt a' 12, slt a' 13, slt a' 14, slt a' 15, slt a' 16, slt a' 17, slt a' 18, slt a' 19, slt a' 20, slt a' 21, slt a' 22, slt a' 23, slt a' 24, slt a' 25, slt a' 26, slt a' 27, slt a' 28, slt a' 29, slt a' 30, slt a' 31, slt a' 32, slt a' 33, slt a' 34, slt a' 35, slt a' 36, slt a' 37, slt a' 38, slt a' 39, slt a' 40, slt a' 41, slt a' 42, slt a' 43, slt a' 44, slt a' 45, slt a' 46, slt a' 47, slt a' 48, slt a' 49, slt a' 50], defers := [] } ∧ k ≤ len ∧
    Spr wr S S0 q p K c A' g b m (setI E i (some { e with f := fW e.f off bs k })) ∧ cnt A' K = cnt A K ∧ Chg S w wr ∧ wr.heap[V]? = some (tabC e) ∧ Hid (¬ S V)
set_option maxHeartbeats 2000000 in
theorem write_ok {w : World} {S : Nat → Prop} {q K c free : Nat} {T : Txt} (h : Spc w S q K c free T) (i : Int) (hi : U i) (N : Nat) (f : Nat → Int) (hT0 : T i = some (N, f)) (a : Option Addr) (len cap : Nat) (bs : List Int) (hr : Row w a len cap bs) (hd : ∀ x, a = some x → 0 < len → ¬ S x.block) (off : Nat) (hn : off + len ≤ N) :
    Calls Try.prog 11 #[.pointer (some ⟨q, 0, none⟩), .int .u64 i, .int .i64 off, .slice a len cap] w fun x w' => x = .returned (.int .i64 0) ∧ Spc w' S q K c free (setI T i (some (N, fW f off bs len))) ∧ Chg S w w' := by
  obtain ⟨S0, p, A, g, b, m, E, hR, hcnt, hT⟩ := h
  obtain ⟨e, he, rfl, rfl⟩ : ∃ e, E i = some e ∧ e.n = N ∧ e.f = f := by
    rw [hT i] at hT0
    cases hE : E i with
    | none => rw [hE] at hT0; cases hT0
    | some e => rw [hE] at hT0; simp only [Option.map_some, Option.some.injEq, Prod.mk.injEq] at hT0; exact ⟨e, rfl, hT0.1, hT0.2⟩
  have h64 := (hR.row i e he).2.2.2
  have HT : Hid (∀ l, T l = (E l).map fun e => (e.n, e.f)) := hT
  have HE : Hid (E i = some e) := he
  have HN : Hid (off + len ≤ e.n) := hn
  have hlt := hR.lt
  have hbyt := hr.byt
  have HL : Hid (bs.length = len) := hr.len
  have hcapl := hr.cap_le
  clear hT hT0
  go_enter Try.func11, Try.ntmps11
  go_wp2_with fail
  refine wp_scope_once 0 (WAt w S S0 q p K c A g b m E i e off a len cap bs) (fun a' _ => len - (intOf (a'.tmps.getD 11 undef)).toNat) rfl ?_ ?_
  · rintro a' wr ⟨k, A', V, hact, hk, hR, hcn, hC, hV, hVS⟩
    generalize slt a' = s at hact
    subst hact
    have hrr := hr.chg hC hd
    by_cases hz : k = len
    · obtain rfl : len = k := hz.symm
      go_wp2_with fail
      simp only [Exit.jump]
      go_ret
      refine ⟨rfl, ⟨S0, p, A', g, b, m, _, hR, by rw [hcn]; exact hcnt, fun l => (setI_ent T E i { e with f := fW e.f off bs len } l).2 (.inr (HT.out l))⟩, hC⟩
    · have hkl : k < len := by omega
      have hz1 : ((k : Int) == (len : Int)) = false := by simp; omega
      have hp : (k : Int) < (len : Int) := by omega
      obtain ⟨bb, bo, rfl, hcell⟩ := hrr.at (by omega)
      have hc0 := hcell k hkl
      have hbk : 0 ≤ bs.getD k 0 ∧ bs.getD k 0 < 256 := by
        have hkb : k < bs.length := by rw [HL.out]; exact hkl
        rw [show bs.getD k 0 = bs[k] by simp [List.getD, hkb]]
        exact hbyt _ (List.getElem_mem hkb)
      have hei : setI E i (some { e with f := fW e.f off bs k }) i = some { e with f := fW e.f off bs k } := setI_same _ _ _
      obtain ⟨t, ht⟩ : ∃ t, t = off + k := ⟨_, rfl⟩
      have htn : t < e.n := by have := HN.out; omega
      have ht2 : (off : Int) + (k : Int) = (t : Int) := by omega
      have HT2 : Hid (t = off + k) := ht
      obtain ⟨r1, r2, r3, _⟩ := hR.row i _ hei
      obtain ⟨F, hF, _⟩ := hR.byt i _ t hei htn
      clear ht
      unfold tabC at hV
      obtain ⟨c0, c1, _, _⟩ := var2 hV
      go_wp2_with fail
      refine (tplace_any { e with f := fW e.f off bs k } t htn h64 _ r1).mono ?_
      rintro x w2 ⟨rfl, hb2⟩
      have hR := hR.below hb2
      have hbS : ¬ S0 bb := fun hc => hd _ rfl (by omega) (hR.s0 _ hc)
      have hc0 := (hb2.cell (lt_of_cell hc0)).trans hc0
      have hbl : bb < w2.heap.size := lt_of_cell hc0
      have hV2 := (hb2.block V (Array.getElem?_eq_some_iff.1 hV).1).trans hV
      have hC2 := Chg.trans hC (Chg.of_below hb2 S) (fun x hx => .inl hx)
      have hRd : Hid (∀ W : World, (W.heap[q]? = w2.heap[q]? ∧ (∀ x, W.cell? ⟨bb, x, none⟩ = w2.cell? ⟨bb, x, none⟩)) → W.cell? ⟨q, 0, none⟩ = some (.pointer (some ⟨p, 0, none⟩)) ∧ W.cell? ⟨bb, bo + k, none⟩ = some (.int .u8 (bs.getD k 0))) := fun W hW => ⟨by simp [World.cell?, hW.1, hR.box], by rw [hW.2]; exact hc0⟩
      clear hcell hrr hb2 c0 c1 hV r1
      go_upto_region 8 with fail
      refine wp_region_noPanic ?_
      refine wp_region_held_drew (S := fun W => W.heap[q]? = w2.heap[q]? ∧ (∀ x, W.cell? ⟨bb, x, none⟩ = w2.cell? ⟨bb, x, none⟩)) (by kernel_rfl) ⟨rfl, fun _ => rfl⟩ fun hS => ?_
      refine take_to (i := 0) (v := ?_) 38 rfl rfl (by kernel_rfl) (by kernel_rfl) (by kernel_rfl) (fun _ _ _ h => h) (Or.inl ⟨by rfl, ?_⟩) hS ?_
      rotate_left
      · intro W hW
        obtain ⟨s0, s1⟩ := hRd.out W hW
        go_simp
        try with_reducible rfl
      simp only [List.setIfInBounds_toArray, List.set_cons_zero, List.set_cons_succ]
      refine take_to (i := 1) (v := ?_) 39 rfl rfl (by kernel_rfl) (by kernel_rfl) (by kernel_rfl) (fun _ _ _ h => h) (Or.inl ⟨by rfl, ?_⟩) hS ?_
      rotate_left
      · intro W hW
        obtain ⟨s0, s1⟩ := hRd.out W hW
        go_simp
        try with_reducible rfl
      simp only [List.setIfInBounds_toArray, List.set_cons_zero, List.set_cons_succ]
      refine take_to (i := 2) (v := ?_) 40 rfl rfl (by kernel_rfl) (by kernel_rfl) (by kernel_rfl) (fun _ _ _ h => h) (Or.inl ⟨by rfl, ?_⟩) hS ?_
      rotate_left
      · intro W hW
        obtain ⟨s0, s1⟩ := hRd.out W hW
        go_simp
        try with_reducible rfl
      simp only [List.setIfInBounds_toArray, List.set_cons_zero, List.set_cons_succ]
      refine take_to (i := 3) (v := ?_) 41 rfl rfl (by kernel_rfl) (by kernel_rfl) (by kernel_rfl) (fun _ _ _ h => h) (Or.inl ⟨by rfl, ?_⟩) hS ?_
      rotate_left
      · intro W hW
        obtain ⟨s0, s1⟩ := hRd.out W hW
        go_simp
        try with_reducible rfl
      simp only [List.setIfInBounds_toArray, List.set_cons_zero, List.set_cons_succ]
      refine take_to (i := 4) (v := ?_) 42 rfl rfl (by kernel_rfl) (by kernel_rfl) (by kernel_rfl) (fun _ _ _ h => h) (Or.inl ⟨by rfl, ?_⟩) hS ?_
      rotate_left
      · intro W hW
        obtain ⟨s0, s1⟩ := hRd.out W hW
        go_simp
        try with_reducible rfl
      simp only [List.setIfInBounds_toArray, List.set_cons_zero, List.set_cons_succ]
      refine take_to (i := 5) (v := ?_) 43 rfl rfl (by kernel_rfl) (by kernel_rfl) (by kernel_rfl) (fun _ _ _ h => h) (Or.inl ⟨by rfl, ?_⟩) hS ?_
      rotate_left
      · intro W hW
        obtain ⟨s0, s1⟩ := hRd.out W hW
        go_simp
        try with_reducible rfl
      simp only [List.setIfInBounds_toArray, List.set_cons_zero, List.set_cons_succ]
      refine take_to (i := 6) (v := ?_) 44 rfl rfl (by kernel_rfl) (by kernel_rfl) (by kernel_rfl) (fun _ _ _ h => h) (Or.inl ⟨by rfl, ?_⟩) hS ?_
      rotate_left
      · intro W hW
        obtain ⟨s0, s1⟩ := hRd.out W hW
        go_simp
        try with_reducible rfl
      simp only [List.setIfInBounds_toArray, List.set_cons_zero, List.set_cons_succ]
      refine take_to (i := 7) (v := ?_) 45 rfl rfl (by kernel_rfl) (by kernel_rfl) (by kernel_rfl) (fun _ _ _ h => h) (Or.inl ⟨by rfl, ?_⟩) hS ?_
      rotate_left
      · intro W hW
        obtain ⟨s0, s1⟩ := hRd.out W hW
        go_simp
        try with_reducible rfl
      simp only [List.setIfInBounds_toArray, List.set_cons_zero, List.set_cons_succ]
      refine take_to (i := 8) (v := ?_) 46 rfl rfl (by kernel_rfl) (by kernel_rfl) (by kernel_rfl) (fun _ _ _ h => h) (Or.inl ⟨by rfl, ?_⟩) hS ?_
      rotate_left
      · intro W hW
        obtain ⟨s0, s1⟩ := hRd.out W hW
        go_simp
        try with_reducible rfl
      simp only [List.setIfInBounds_toArray, List.set_cons_zero, List.set_cons_succ]
      refine take_to (i := 9) (v := ?_) 47 rfl rfl (by kernel_rfl) (by kernel_rfl) (by kernel_rfl) (fun _ _ _ h => h) (Or.inl ⟨by rfl, ?_⟩) hS ?_
      rotate_left
      · intro W hW
        obtain ⟨s0, s1⟩ := hRd.out W hW
        go_simp
        try with_reducible rfl
      simp only [List.setIfInBounds_toArray, List.set_cons_zero, List.set_cons_succ]
      refine wpAnyH_ready (rs := [10]) (by kernel_rfl) (by simp) ?_
      refine AllReadyH.cons rfl (fun K hK => ?_) AllReadyH.nil
      go_simp
      refine (store_ok (hR.mem.kept (w' := w2.drew) (fun _ _ => rfl) (Nat.le_refl _)) _ _ F hF (Nat.mod_lt _ (by omega)) (bs.getD k 0) hbk).mono ?_
      rintro x w3 ⟨rfl, hM3, hC3⟩
      refine hK.out _ _ ⟨hC3.block _ (hR.lt _ hR.sq.1) hR.sq.2, fun x => by unfold World.cell?; rw [hC3.block bb hbl hbS]; rfl⟩ fun hS => ?_
      clear hK K
      refine wpAnyH_done (by kernel_rfl) ?_ _
      refine NoPanic.normal ?_
      have hend := hR.store hei htn hF hM3 (show Chg S0 w2 w3 from ⟨hC3.os, hC3.tape, hC3.output, hC3.size, hC3.block⟩)
      have hcn3 : cnt (upd A' (e.fr (t / 16)) (some (upd F (t % 16) (bs.getD k 0)))) K = cnt A K := by rw [cnt_store hF, hcn]
      have hV3 := (hC3.block V (Array.getElem?_eq_some_iff.1 hV2).1 (fun hc => hVS.out (hR.s0 _ hc))).trans hV2
      have hC3' : Chg S w w3 := Chg.trans hC2 (show Chg S0 w2 w3 from ⟨hC3.os, hC3.tape, hC3.output, hC3.size, hC3.block⟩) (fun x hx => .inl (hR.s0 x hx))
      rw [setI_setI] at hend
      have hfw : upd (fW e.f off bs k) t (bs.getD k 0) = fW e.f off bs (k + 1) := by rw [HT2.out]; exact fW_next _ _ _ _
      rw [hfw] at hend
      clear hR hRd hM3 hC3 hV2 hC2 hfw
      go_wp2_with fail
      go_step3
      refine ⟨rfl, ⟨k + 1, _, V, rfl, by omega, hend, hcn3, hC3', hV3, hVS⟩, ?_⟩
      simp [intOf]
      omega
  · intro hpass
    go_wp2_with fail
    refine (span_ok hR i hi e he off len hn).mono ?_
    rintro x w2 ⟨rfl, hb2⟩
    have hR2 := hR.below hb2
    clear hR
    unfold tabV
    go_wp2_with fail
    go_step3
    rename_i hK
    refine hK _ _ ?_
    have hb3 := hb2.trans (pnew w2 (tabC e) hb2.size)
    exact hpass.out _ _ ⟨0, A, w2.heap.size, rfl, Nat.zero_le _, by rw [fW_zero, setI_self he]; exact hR2.below (below_alloc _ _), rfl, Chg.of_below hb3 S, hnew_at _ _ _ rfl, fun hc => by have := hlt _ hc; have := hb2.size; omega⟩
theorem write_nil (i off : Int) (w : World) (a : Option Addr) (len cap : Nat) :
    Calls Try.prog 11 #[.pointer none, .int .u64 i, .int .i64 off, .slice a len cap] w fun x w' => x = .returned (.int .i64 1) ∧ Below w.heap.size w w' := by
  go_enter Try.func11, Try.ntmps11
  go_wp2_with fail
  refine wp_scope_once 0 (fun _ _ => False) (fun _ _ => 0) rfl ?_ ?_
  · intro _ _ hc
    exact hc.elim
  · intro _
    go_wp2_with fail
    refine (span_nil i off len _).mono ?_
    rintro x w2 ⟨rfl, hb2⟩
    unfold noTab
    go_wp2_with fail
    simp only [Exit.jump]
    go_ret
    exact ⟨rfl, hb2.trans (pnew _ _ hb2.size)⟩
theorem write_none {w : World} {S S0 : Nat → Prop} {q p K c : Nat} {A : Mm} {g : Nat} {b : Nat → Nat} {m : Option Nat} {E : Int → Option Ent} (h : Spr w S S0 q p K c A g b m E) (i : Int) (hi : U i) (he : E i = none) (off : Int) (a : Option Addr) (len cap : Nat) :
    Calls Try.prog 11 #[.pointer (some ⟨q, 0, none⟩), .int .u64 i, .int .i64 off, .slice a len cap] w fun x w' => x = .returned (.int .i64 7) ∧ Below w.heap.size w w' := by
  go_enter Try.func11, Try.ntmps11
  go_wp2_with fail
  refine wp_scope_once 0 (fun _ _ => False) (fun _ _ => 0) rfl ?_ ?_
  · intro _ _ hc
    exact hc.elim
  · intro _
    go_wp2_with fail
    refine (span_none h i hi he off len).mono ?_
    rintro x w2 ⟨rfl, hb2⟩
    unfold noTab
    go_wp2_with fail
    simp only [Exit.jump]
    go_ret
    exact ⟨rfl, hb2.trans (pnew _ _ hb2.size)⟩
theorem write_range {w : World} {S S0 : Nat → Prop} {q p K c : Nat} {A : Mm} {g : Nat} {b : Nat → Nat} {m : Option Nat} {E : Int → Option Ent} (h : Spr w S S0 q p K c A g b m E) (i : Int) (hi : U i) (e : Ent) (he : E i = some e) (off : Int) (ho : -9223372036854775808 ≤ off ∧ off < 9223372036854775808) (a : Option Addr) (len cap : Nat) (hn : off < 0 ∨ (len : Int) < 0 ∨ (e.n : Int) < off + len) :
    Calls Try.prog 11 #[.pointer (some ⟨q, 0, none⟩), .int .u64 i, .int .i64 off, .slice a len cap] w fun x w' => x = .returned (.int .i64 11) ∧ Below w.heap.size w w' := by
  go_enter Try.func11, Try.ntmps11
  go_wp2_with fail
  refine wp_scope_once 0 (fun _ _ => False) (fun _ _ => 0) rfl ?_ ?_
  · intro _ _ hc
    exact hc.elim
  · intro _
    go_wp2_with fail
    refine (span_range h i hi e he off len ho hn).mono ?_
    rintro x w2 ⟨rfl, hb2⟩
    unfold noTab
    go_wp2_with fail
    simp only [Exit.jump]
    go_ret
    exact ⟨rfl, hb2.trans (pnew _ _ hb2.size)⟩
end Go.Proofs.Ytdmdamidknbjoaa
