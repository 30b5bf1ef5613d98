/- Unmap: what it answers, and what it leaves. -/
import Derived.Test.YtdmdamidknbjoaaPgWrite
namespace Go.Proofs.Ytdmdamidknbjoaa
open Go.RowKit
set_option maxRecDepth 100000

/-- The first j of these frames are freed. -/
def offN (A : Mm) (fr : Nat → Nat) : Nat → Mm
  | 0 => A
  | j + 1 => upd (offN A fr j) (fr j) none
theorem offN_keep (A : Mm) (fr : Nat → Nat) (j x : Nat) (h : ∀ l, l < j → x ≠ fr l) : offN A fr j x = A x := by
  induction j with
  | zero => rfl
  | succ j ih =>
    show upd (offN A fr j) (fr j) none x = A x
    rw [upd_other _ _ (h j (by omega))]
    exact ih (fun l hl => h l (by omega))
section
variable {w w3 w4 : World} {S S0 : Nat → Prop} {q p K c : Nat} {A A' : Mm} {g : Nat} {b : Nat → Nat} {m : Option Nat} {E : Int → Option Ent} {i : Int} {e : Ent}
theorem Spr.drop (h : Spr w S S0 q p K c A g b m E) (he : E i = some e) (hM : Mem w3 S0 p K (offN A e.fr (pg e.n)) g b) (hC : Chg S0 w w3) (hm : MapAt w4 m c (setI (fun l => (E l).map tabV) i none)) (hc : Chg (fun x => m = some x) w3 w4) :
    Spr w4 S S0 q p K c (offN A e.fr (pg e.n)) g b m (setI E i none) := by
  have hno : ∀ x, S x → ¬ S0 x → w3.heap[x]? = w.heap[x]? := fun x hx hn => hC.block x (h.lt x hx) hn
  have hq3 : w3.heap[q]? = _ := (hno q h.sq.1 h.sq.2).trans h.box
  have hm3 : MapAt w3 m c (fun l => (E l).map tabV) := h.map.kept (fun x hx => hno x (h.sm x hx).1 (h.sm x hx).2)
  have hmap : ∀ x, m = some x → ∃ es k, w3.heap[x]? = some (.map es k) := fun x hx => by
    subst hx
    exact hm3.cell
  have hlt3 : ∀ x, S x → x < w3.heap.size := fun x hx => Nat.lt_of_lt_of_le (h.lt x hx) hC.size
  refine ⟨hM.other hc (fun x hx hc => (h.sm x hc).2 hx), (hc.block q (hlt3 q h.sq.1) (fun hx => ?_)).trans hq3, hm.congr fun l hl => ?_, fun l e' hl => ?_, fun l e' j hl hj => ?_, fun l e1 j1 l' e2 j2 hl hl' g1 g2 g3 => ?_, h.sq, h.sm, h.s0, fun x hx => Nat.lt_of_lt_of_le (hlt3 x hx) hc.size⟩
  · obtain ⟨es, k, h1⟩ := hmap q hx
    rw [hq3] at h1
    cases h1
  · by_cases e1 : l = i
    · subst e1; rw [setI_same, setI_same]; rfl
    · rw [setI_other _ _ e1, setI_other _ _ e1]
  · by_cases e1 : l = i
    · subst e1; rw [setI_same] at hl; cases hl
    · rw [setI_other _ _ e1] at hl
      obtain ⟨r1, r2, r3, r4⟩ := h.row l e' hl
      have r5 := r1.of_block (hno _ r2 r3)
      refine ⟨r5.of_block (hc.block _ (hlt3 _ r2) (fun hx => ?_)), r2, r3, r4⟩
      obtain ⟨es, k, h1⟩ := hmap _ hx
      obtain ⟨cs, h2, _⟩ := r5
      rw [h2] at h1
      cases h1
  · by_cases e1 : l = i
    · subst e1; rw [setI_same] at hl; cases hl
    · rw [setI_other _ _ e1] at hl
      rw [offN_keep _ _ _ _ (fun l' hl' hh => e1 (h.inj _ _ _ _ _ _ hl he (pg_lt hj) hl' hh).1)]
      exact h.byt l e' j hl hj
  · by_cases x1 : l = i
    · subst x1; rw [setI_same] at hl; cases hl
    · by_cases x2 : l' = i
      · subst x2; rw [setI_same] at hl'; cases hl'
      · rw [setI_other _ _ x1] at hl
        rw [setI_other _ _ x2] at hl'
        exact h.inj _ _ _ _ _ _ hl hl' g1 g2 g3
end
theorem unmap_nil (i : Int) (w : World) : Calls Try.prog 10 #[.pointer none, .int .u64 i] w fun x w' => x = .returned (.int .i64 1) ∧ Below w.heap.size w w' := by
  go_enter Try.func10, Try.ntmps10
  go_wp2_with fail
  refine (table_nil i _).mono ?_
  rintro x w2 ⟨rfl, hb2⟩
  unfold noTab
  go_wp2_with fail
  go_ret
  exact ⟨rfl, hb2.trans (pnew _ _ hb2.size)⟩
section
variable {w : World} {S S0 : Nat → Prop} {q p K c free : Nat} {A : Mm} {g : Nat} {b : Nat → Nat} {m : Option Nat} {E : Int → Option Ent} {T : Txt}
theorem unmap_none (h : Spr w S S0 q p K c A g b m E) (i : Int) (hi : U i) (he : E i = none) : Calls Try.prog 10 #[.pointer (some ⟨q, 0, none⟩), .int .u64 i] w fun x w' => x = .returned (.int .i64 7) ∧ Below w.heap.size w w' := by
  go_enter Try.func10, Try.ntmps10
  go_wp2_with fail
  refine (table_none h i hi he).mono ?_
  rintro x w2 ⟨rfl, hb2⟩
  clear h
  unfold noTab
  go_wp2_with fail
  go_ret
  exact ⟨rfl, hb2.trans (pnew _ _ hb2.size)⟩
set_option maxHeartbeats 1000000 in
theorem unmap_ok (h : Spc w S q K c free T) (i : Int) (hi : U i) (N : Nat) (f : Nat → Int) (hT0 : T i = some (N, f)) : Calls Try.prog 10 #[.pointer (some ⟨q, 0, none⟩), .int .u64 i] w fun x w' => x = .returned (.int .i64 0) ∧
    Spc w' S q K c (free + pg N) (setI T i none) ∧ Chg S w w' := by
  obtain ⟨S0, p, A, g, b, m, E, hR, hcnt, hT⟩ := h
  obtain ⟨e, he, rfl, rfl⟩ : ∃ e, E i = some e ∧ e.n = N ∧ e.f = f := by
    rw [hT i] at hT0
    cases hE : E i with
    | none => rw [hE] at hT0; cases hT0
    | some e => rw [hE] at hT0; simp only [Option.map_some, Option.some.injEq, Prod.mk.injEq] at hT0; exact ⟨e, rfl, hT0.1, hT0.2⟩
  have HT : Hid (∀ l, T l = (E l).map fun e => (e.n, e.f)) := hT
  have HE : Hid (E i = some e) := he
  obtain ⟨P, hPn⟩ : ∃ P, pg e.n = P := ⟨_, rfl⟩
  have h64 := (hR.row i e he).2.2.2
  have hP4 := pg_64 h64
  have HP : Hid (pg e.n = P) := hPn
  go_enter Try.func10, Try.ntmps10
  go_wp2_with fail
  refine (table_some hR i hi e he).mono ?_
  rintro x w2 ⟨rfl, hb2⟩
  have hR2 := hR.below hb2
  have hb2 := Chg.of_below hb2 S
  unfold tabV
  rw [hPn]
  have hR3 := hR2.below (below_alloc w2 (.cells #[.slice (some ⟨e.tb, 0, none⟩) P P, .int .i64 e.n] 56))
  have hC3 : Chg S w (w2.alloc (.cells #[.slice (some ⟨e.tb, 0, none⟩) P P, .int .i64 e.n] 56)) := Chg.trans hb2 (Chg.of_below (below_alloc _ _) S) (fun x hx => .inl hx)
  clear hR hR2 hT hT0 hb2
  go_wp2_with fail
  obtain ⟨w3, hw3⟩ : ∃ w3, w3 = w2.alloc (.cells #[.slice (some ⟨e.tb, 0, none⟩) P P, .int .i64 e.n] 56) := ⟨_, rfl⟩
  rw [← hw3] at hR3 hC3 ⊢
  clear hw3
  go_loopw [8, 21] (fun v l wr => ∃ (j : Nat), j ≤ P ∧ (∃ z : Value, v = z) ∧ l = .int .i64 j ∧ Mem wr S0 p K (offN A e.fr j) g b ∧ Chg S0 w3 wr ∧ Hid (cnt (offN A e.fr j) K + j = cnt A K)) (fun _ l _ => P - (intOf l).toNat)
  case atStart => exact ⟨0, by omega, ⟨_, rfl⟩, rfl, hR3.mem, Chg.refl _ _, rfl⟩
  case round =>
    obtain ⟨j, hjP, ⟨z, rfl⟩, rfl, hM, hC, hcn⟩ := hrel
    obtain ⟨r1, r2, r3, _⟩ := hR3.row i e he
    rw [hPn] at r1
    have hbox := (hC.block q (hR3.lt _ hR3.sq.1) hR3.sq.2).trans hR3.box
    have f0 : wr.cell? ⟨q, 0, none⟩ = some (.pointer (some ⟨p, 0, none⟩)) := by simp [World.cell?, hbox]
    by_cases e1 : j < P
    · have hp : (j : Int) < (P : Int) := by omega
      have c0 := (r1.of_block (hC.block _ (hR3.lt _ r2) r3)).cell e1
      have hjn : j < pg e.n := by omega
      obtain ⟨F, hF⟩ := hR3.taken he hjn
      have hF2 : offN A e.fr j (e.fr j) = some F := by
        rw [offN_keep _ _ _ _ (fun l hl hh => by have := (hR3.inj _ _ _ _ _ _ he he hjn (show l < pg e.n by omega) hh).2; omega)]
        exact hF
      have hfl : e.fr j < K := hM.tab.lt_of hF2
      have hcn2 : Hid (cnt (offN A e.fr (j + 1)) K + (j + 1) = cnt A K) := by
        have := cnt_free (A := offN A e.fr j) hfl (by rw [hF2]; simp)
        have h2 := hcn.out
        show cnt (upd (offN A e.fr j) (e.fr j) none) K + (j + 1) = cnt A K
        omega
      go_wp2_with fail
      refine (free_ok hM (e.fr j) F hF2).mono ?_
      rintro x w4 ⟨rfl, hM4, hC4⟩
      have hC5 : Chg S0 w3 w4 := Chg.trans hC hC4 (fun x hx => .inl hx)
      clear hM hC hC4 hbox f0 c0 r1 r2 r3 hF2 hF
      go_wp2_with fail
      go_roundw
      case rel => exact ⟨j + 1, by omega, ⟨_, rfl⟩, by go_num, hM4, hC5, hcn2⟩
      case measure => simp [intOf]; omega
    · obtain rfl : P = j := by omega
      have f2 : wr.cell? ⟨q, 2, none⟩ = some (.map m) := by simp [World.cell?, hbox]
      have hm3 : MapAt wr m c (fun l => (E l).map tabV) := hR3.map.kept (fun x hx => hC.block x (hR3.lt _ (hR3.sm x hx).1) (hR3.sm x hx).2)
      obtain ⟨w4, hw4, hm4, hc4⟩ := map_del hm3 i hi 0
      have hM5 : Mem wr S0 p K (offN A e.fr (pg e.n)) g b := by rw [hPn]; exact hM
      have hend := hR3.drop he hM5 hC hm4 hc4
      have hz : Chg S w w4 := Chg.trans (Chg.trans hC3 hC (fun x hx => .inl (hR3.s0 x hx))) hc4 (fun x hx => .inl (hR3.sm x hx).1)
      have hcn3 : cnt (offN A e.fr (pg e.n)) K + (free + pg e.n) = K := by rw [hPn]; have := hcn.out; omega
      clear hM hC hC3 hR3 r1 r2 r3 hbox f0 hm3 hm4 hc4 hM5
      go_wp2_with fail
      go_ret
      refine ⟨rfl, ⟨S0, p, _, g, b, m, _, hend, hcn3, fun l => ?_⟩, hz⟩
      by_cases e2 : l = i
      · subst e2; rw [setI_same, setI_same]; rfl
      · rw [setI_other _ _ e2, setI_other _ _ e2]; exact HT.out l
end
end Go.Proofs.Ytdmdamidknbjoaa
