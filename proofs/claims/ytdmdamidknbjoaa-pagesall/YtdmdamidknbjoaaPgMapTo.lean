/- Map: what it answers, and what it leaves. -/
import Derived.Test.YtdmdamidknbjoaaPgLay
namespace Go.Proofs.Ytdmdamidknbjoaa
open Go.RowKit
set_option maxRecDepth 100000

section
variable {w w' w3 w4 : World} {S S0 S' : Nat → Prop} {q p K c n tb mb : Nat} {A A' : Mm} {g : Nat} {b b' : Nat → Nat} {m : Option Nat} {E : Int → Option Ent} {fr : Nat → Nat} {i : Int} {T : Txt}
theorem Spr.fz (h : Spr w S S0 q p K c A g b m E) : w.frozen? ⟨q, 2, none⟩ = false := by simp [World.frozen?, h.box]
theorem MapAt.cell {V : Int → Option Value} (h : MapAt w (some mb) c V) : ∃ es k, w.heap[mb]? = some (.map es k) := by
  rcases h with ⟨h, _⟩ | ⟨b, D, hb, ⟨es, k, h1, _⟩, _⟩
  · cases h
  · obtain rfl := Option.some.inj hb
    exact ⟨es, k, h1⟩
theorem Spr.apart (h : Spr w S S0 q p K c A g b (some mb) E) : ¬ q = mb := fun e => by
  obtain ⟨es, k, h1⟩ := h.map.cell
  rw [← e, h.box] at h1
  cases h1
theorem rowIs_map {t : TypeId} {l : Nat} {f : Nat → Value} (h : w.rowIs tb t l f) {V : Int → Option Value} (hm : MapAt w (some mb) c V) : ¬ tb = mb := fun e => by
  obtain ⟨es, k, h1⟩ := hm.cell
  obtain ⟨cs, h2, _⟩ := h
  rw [← e, h2] at h1
  cases h1
/-- The first id: the map is made. -/
theorem Spr.mkmap (h : Spr w S S0 q p K c A g b none E) : Spr ((w.alloc (.map #[] 0)).setCell ⟨q, 2, none⟩ (.map (some w.heap.size))) (fun x => S x ∨ x = w.heap.size) S0 q p K c A g b (some w.heap.size) E := by
  have hn : ∀ i, U i → E i = none := fun i hi => by
    rcases h.map with ⟨_, h0⟩ | ⟨b, D, hb, _⟩
    · have h1 : (E i).map tabV = none := h0 i hi
      cases he : E i with
      | none => rfl
      | some e => rw [he] at h1; cases h1
    · cases hb
  have hq := h.lt _ h.sq.1
  have h1 := h.below (below_alloc w (.map #[] 0))
  have hc : Chg (fun x => x = q) (w.alloc (.map #[] 0)) ((w.alloc (.map #[] 0)).setCell ⟨q, 2, none⟩ (.map (some w.heap.size))) := Chg.set _ _ _ _ _ rfl
  have hs : (w.alloc (.map #[] 0)).heap.size = w.heap.size + 1 := by simp
  refine ⟨h1.mem.other hc (fun x hx e => h.sq.2 (by rw [← e]; exact hx)), by rw [heap_setCell_same _ q 2 _ 51 _ h1.box]; rfl, ?_, fun j e he => ?_, h.byt, h.inj, ⟨.inl h.sq.1, h.sq.2⟩, fun x hx => ?_, fun x hx => .inl (h.s0 x hx), fun x hx => ?_⟩
  · refine ((map_new w c _ rfl).kept (fun x hx => hc.block x ?_ ?_)).congr fun j hj => by rw [hn j hj]; rfl
    · obtain rfl := Option.some.inj hx; omega
    · obtain rfl := Option.some.inj hx; omega
  · obtain ⟨r1, r2, r3, r4⟩ := h1.row j e he
    refine ⟨r1.of_block (hc.block _ (h1.lt _ r2) (fun e2 => ?_)), .inl r2, r3, r4⟩
    obtain ⟨cs, g1, g2, _⟩ := r1
    rw [e2, h1.box] at g1
    simp at g1
  · obtain rfl := Option.some.inj hx
    exact ⟨.inr rfl, fun hc => by have := h.lt _ (h.s0 _ hc); omega⟩
  · have : ((w.alloc (.map #[] 0)).setCell ⟨q, 2, none⟩ (.map (some w.heap.size))).heap.size = w.heap.size + 1 := by simp [World.setCell]
    exact hx.elim (fun hx => by have := h.lt x hx; omega) (fun hx => by omega)
/-- Frames were taken for a new table: the ids have what they had. -/
theorem Spr.laid (h : Spr w S S0 q p K c A g b m E) (hM : Mem w3 S' p K A' g b') (hL : Lay A A' fr n K) (hC : Chg S0 w.drew w3) (hg : ∀ x, S' x → S0 x ∨ w.heap.size ≤ x) (_hk : ∀ x, S0 x → S' x) :
    Spr w3 (fun x => S x ∨ S' x) S' q p K c A' g b' m E ∧ ∀ i e j j', E i = some e → j < pg e.n → j' < n → e.fr j ≠ fr j' := by
  have hne : ∀ i e j j', E i = some e → j < pg e.n → j' < n → e.fr j ≠ fr j' := fun i e j j' he hj hj' hh => by
    obtain ⟨F, hF⟩ := h.taken he hj
    rw [hh, (hL.new j' hj').1] at hF
    cases hF
  exact ⟨h.frames hM (show Chg S0 w w3 from ⟨hC.os, hC.tape, hC.output, hC.size, hC.block⟩) hg (fun i e j he hj => hL.old _ (fun l hl => hne i e j l he hj hl)), hne⟩
/-- The table is put into the map. -/
theorem Spr.put (h : Spr w S S0 q p K c A g b (some mb) E) (he : E i = none) (hn : n ≤ 64) (hr : w.rowIs tb 3 (pg n) (fun j => .int .i64 (fr j))) (ht : ¬ S0 tb) (hf : ∀ j, j < pg n → A (fr j) = some (fun _ => 0)) (hj : ∀ j l, j < pg n → l < pg n → fr j = fr l → j = l)
    (hne : ∀ i e j j', E i = some e → j < pg e.n → j' < pg n → e.fr j ≠ fr j') (hm : MapAt w4 (some mb) (c + 1) (setI (fun l => (E l).map tabV) i (some (tabV ⟨n, fun _ => 0, tb, fr⟩)))) (hc : Chg (fun x => x = mb) w w4) :
    Spr w4 (fun x => S x ∨ x = tb) S0 q p K (c + 1) A g b (some mb) (setI E i (some ⟨n, fun _ => 0, tb, fr⟩)) := by
  have htl : tb < w.heap.size := by
    obtain ⟨cs, h1, _⟩ := hr
    exact (Array.getElem?_eq_some_iff.1 h1).1
  refine ⟨h.mem.other hc (fun x hx e => (h.sm mb rfl).2 (by rw [← e]; exact hx)), (hc.block _ (h.lt _ h.sq.1) h.apart).trans h.box, hm.congr fun l hl => ?_, fun l e hl => ?_, fun l e j hl hj2 => ?_, fun l e j l' e' j' hl hl' g1 g2 g3 => ?_, ⟨.inl h.sq.1, h.sq.2⟩, fun x hx => ⟨.inl (h.sm x hx).1, (h.sm x hx).2⟩, fun x hx => .inl (h.s0 x hx), fun x hx => ?_⟩
  · by_cases e : l = i
    · subst e; rw [setI_same, setI_same]; rfl
    · rw [setI_other _ _ e, setI_other _ _ e]
  · by_cases e1 : l = i
    · subst e1
      rw [setI_same] at hl
      obtain rfl := Option.some.inj hl
      exact ⟨hr.of_block (hc.block _ htl (rowIs_map hr h.map)), .inr rfl, ht, hn⟩
    · rw [setI_other _ _ e1] at hl
      obtain ⟨r1, r2, r3, r4⟩ := h.row l e hl
      exact ⟨r1.of_block (hc.block _ (h.lt _ r2) (rowIs_map r1 h.map)), .inl r2, r3, r4⟩
  · by_cases e1 : l = i
    · subst e1
      rw [setI_same] at hl
      obtain rfl := Option.some.inj hl
      exact ⟨_, hf _ (pg_lt hj2), rfl⟩
    · rw [setI_other _ _ e1] at hl
      exact h.byt l e j hl hj2
  · by_cases e1 : l = i
    · by_cases e2 : l' = i
      · subst e1
        rw [setI_same] at hl
        rw [e2, setI_same] at hl'
        obtain rfl := Option.some.inj hl
        obtain rfl := Option.some.inj hl'
        exact ⟨e2.symm, hj _ _ g1 g2 g3⟩
      · subst e1
        rw [setI_same] at hl
        rw [setI_other _ _ e2] at hl'
        obtain rfl := Option.some.inj hl
        exact absurd g3.symm (hne _ _ _ _ hl' g2 g1)
    · by_cases e2 : l' = i
      · subst e2
        rw [setI_same] at hl'
        rw [setI_other _ _ e1] at hl
        obtain rfl := Option.some.inj hl'
        exact absurd g3 (hne _ _ _ _ hl g1 g2)
      · rw [setI_other _ _ e1] at hl
        rw [setI_other _ _ e2] at hl'
        exact h.inj _ _ _ _ _ _ hl hl' g1 g2 g3
  · exact hx.elim (fun hx => Nat.lt_of_lt_of_le (h.lt x hx) hc.size) (fun hx => by subst hx; exact Nat.lt_of_lt_of_le htl hc.size)
end
@[go_sem] theorem eql_map (m : Option Nat) (w : World) : (binOp .eql 49 (.map m) (.map none)).run Try.prog w = .ok (.bool m.isNone) w := by
  simp only [binOp]
  simp [Op.equal, Op.maxDepth, run_equalIn_map_nil w 9999 49 28 56 m Try.underlying49]
theorem map_nil_arg (i n : Int) (w : World) : Calls Try.prog 9 #[.pointer none, .int .u64 i, .int .i64 n] w fun x w' => x = .returned (.int .i64 1) ∧ Below w.heap.size w w' := by
  go_enter Try.func9, Try.ntmps9
  go_wp2_with fail
  go_ret
  exact ⟨rfl, Below.refl _ _⟩
section
variable {w : World} {S : Nat → Prop} {q K c free : Nat} {T : Txt}
theorem map_end {w5 w3 w4 : World} {S5 S0 S' : Nat → Prop} {p tb mb g : Nat} {A : Mm} {b : Nat → Nat} {E : Int → Option Ent} (hC5 : Chg S w w5) (hS5 : ∀ x, S5 x → S x ∨ w.heap.size ≤ x) (hR : Spr w5 S5 S0 q p K c A g b (some mb) E)
    (hC3 : Chg S0 w5.drew w3) (hg3 : ∀ x, S' x → S0 x ∨ w5.drew.heap.size ≤ x) (ht4 : w5.drew.heap.size ≤ tb) (hc4 : Chg (fun x => x = mb) w3 w4) : Chg S w w4 ∧ ∀ x, ((S5 x ∨ S' x) ∨ x = tb) → S x ∨ w.heap.size ≤ x := by
  have hsz : w5.drew.heap.size = w5.heap.size := rfl
  have hsz5 := hC5.size
  refine ⟨Chg.trans (Chg.trans hC5 (show Chg S0 w5 w3 from ⟨hC3.os, hC3.tape, hC3.output, hC3.size, hC3.block⟩) (fun x hx => hS5 x (hR.s0 x hx))) hc4 (fun x hx => hS5 x (by rw [hx]; exact (hR.sm mb rfl).1)), fun x hx => ?_⟩
  rcases hx with (hx | hx) | hx
  · exact hS5 x hx
  · exact (hg3 x hx).elim (fun h => hS5 x (hR.s0 x h)) (fun h => .inr (by omega))
  · exact .inr (by omega)
theorem setI_ent (T : Txt) (E : Int → Option Ent) (i : Int) (e : Ent) (l : Int) : setI T i (some (e.n, e.f)) l = (setI E i (some e) l).map (fun e => (e.n, e.f)) ↔ (l = i ∨ T l = (E l).map fun e => (e.n, e.f)) := by
  by_cases h : l = i
  · subst h; simp [setI]
  · simp [setI, h]
theorem map_arg (h : Spc w S q K c free T) (i : Int) (hi : U i) (n : Int) (hn : n < 0 ∨ 64 < n ∨ T i ≠ none) : Calls Try.prog 9 #[.pointer (some ⟨q, 0, none⟩), .int .u64 i, .int .i64 n] w fun x w' => x = .returned (.int .i64 1) ∧ Below w.heap.size w w' := by
  obtain ⟨S0, p, A, g, b, m, E, hR, hcnt, hT⟩ := h
  by_cases h1 : n < 0
  · clear hR
    go_enter Try.func9, Try.ntmps9
    go_wp2_with fail
    go_ret
    exact ⟨rfl, Below.refl _ _⟩
  · have y1 : decide (n < 0) = false := by simpa using h1
    by_cases h2 : 64 < n
    · clear hR h1
      go_enter Try.func9, Try.ntmps9
      go_wp2_with fail
      go_ret
      exact ⟨rfl, Below.refl _ _⟩
    · have y2 : decide (64 < n) = false := by simpa using h2
      have hE : (E i).isSome = true := by
        have : T i ≠ none := by rcases hn with h | h | h; exact absurd h h1; exact absurd h h2; exact h
        rw [hT i] at this
        cases he : E i with
        | none => rw [he] at this; exact absurd rfl this
        | some e => rfl
      clear hn h1 h2
      go_enter Try.func9, Try.ntmps9
      go_wp2_with fail
      refine (isMapped_any hR i hi true hE).mono ?_
      rintro x w1 ⟨rfl, hb1⟩
      clear hR
      go_wp2_with fail
      go_ret
      exact ⟨rfl, hb1⟩
theorem map_full (h : Spc w S q K c free T) (i : Int) (hi : U i) (hT0 : T i = none) (n : Nat) (hn : n ≤ 64) (hf : free < pg n) : Calls Try.prog 9 #[.pointer (some ⟨q, 0, none⟩), .int .u64 i, .int .i64 n] w fun x w' => x = .returned (.int .i64 9) ∧ Below w.heap.size w w' := by
  obtain ⟨S0, p, A, g, b, m, E, hR, hcnt, hT⟩ := h
  have y1 : decide ((n : Int) < 0) = false := by simp
  have y2 : decide (64 < (n : Int)) = false := by simp; omega
  have hE : (E i).isSome = false := by
    rw [hT i] at hT0
    cases he : E i with
    | none => rfl
    | some e => rw [he] at hT0; cases hT0
  have hf2 : (free : Int) < (pg n : Int) := by omega
  clear hf
  go_enter Try.func9, Try.ntmps9
  go_wp2_with fail
  refine (isMapped_any hR i hi false hE).mono ?_
  rintro x w1 ⟨rfl, hb1⟩
  have hR := hR.below hb1
  go_wp2_with fail
  refine (pagesOf_any n (by omega) _).mono ?_
  rintro x w1 ⟨rfl, rfl⟩
  go_wp2_with fail
  refine (pfree_any hR free hcnt).mono ?_
  rintro x w2 ⟨rfl, hb2⟩
  clear hR
  go_wp2_with fail
  go_ret
  exact ⟨rfl, ext_trans hb1 hb2⟩
set_option maxHeartbeats 1000000 in
theorem map_ok (h : Spc w S q K c free T) (i : Int) (hi : U i) (hT0 : T i = none) (n : Nat) (hn : n ≤ 64) (hf : pg n ≤ free) (hc : c < 1000000) : Calls Try.prog 9 #[.pointer (some ⟨q, 0, none⟩), .int .u64 i, .int .i64 n] w fun x w' => x = .returned (.int .i64 0) ∧
    ∃ S', Spc w' S' q K (c + 1) (free - pg n) (setI T i (some (n, fun _ => 0))) ∧ Chg S w w' ∧ ∀ x, S' x → S x ∨ w.heap.size ≤ x := by
  obtain ⟨S0, p, A, g, b, m, E, hR, hcnt, hT⟩ := h
  have y1 : decide ((n : Int) < 0) = false := by simp
  have y2 : decide (64 < (n : Int)) = false := by simp; omega
  have hE : E i = none := by
    rw [hT i] at hT0
    cases he : E i with
    | none => rfl
    | some e => rw [he] at hT0; cases hT0
  have hf2 : decide ((free : Int) < (pg n : Int)) = false := by simp; omega
  go_enter Try.func9, Try.ntmps9
  go_wp2_with fail
  refine (isMapped_any hR i hi false (by rw [hE]; rfl)).mono ?_
  rintro x w1 ⟨rfl, hb1⟩
  have hlt := hR.lt
  have hR := hR.below hb1
  go_wp2_with fail
  refine (pagesOf_any n (by omega) _).mono ?_
  rintro x w1 ⟨rfl, rfl⟩
  go_wp2_with fail
  refine (pfree_any hR free hcnt).mono ?_
  rintro x w2 ⟨rfl, hb2⟩
  have hR := hR.below hb2
  have hb2 := ext_trans hb1 hb2
  clear hb1
  have hf : cnt A K + pg n ≤ K := by omega
  have HT : Hid (∀ l, T l = (E l).map fun e => (e.n, e.f)) := hT
  have he := hE
  clear hT hT0 hE
  cases m with
  | some mb =>
    have hC5 : Chg S w w2 := Chg.of_below hb2 S
    have hS5 : ∀ x, S x → S x ∨ w.heap.size ≤ x := fun x hx => .inl hx
    have hRd : Hid (∀ W : World, W.heap[q]? = w2.heap[q]? → W.cell? ⟨q, 0, none⟩ = some (.pointer (some ⟨p, 0, none⟩)) ∧ W.cell? ⟨q, 2, none⟩ = some (.map (some mb))) := fun W hW => ⟨by simp [World.cell?, hW, hR.box], by simp [World.cell?, hW, hR.box]⟩
    have f2 := hR.f2
    go_upto_region 7 with fail
    refine wp_region_noPanic ?_
    refine wp_region_held_drew (S := fun W => W.heap[q]? = w2.heap[q]?) (by kernel_rfl) rfl fun hS => ?_
    refine take_to (i := 0) (v := ?_) 36 rfl rfl (by kernel_rfl) (by kernel_rfl) (by kernel_rfl) (fun _ _ _ h => h) (Or.inl ⟨by rfl, ?_⟩) hS ?_
    rotate_left
    · intro W hW
      obtain ⟨s0, s2⟩ := hRd.out W hW
      go_simp
      try with_reducible rfl
    simp only [List.setIfInBounds_toArray, List.set_cons_zero, List.set_cons_succ]
    refine take_to (i := 1) (v := ?_) 37 rfl rfl (by kernel_rfl) (by kernel_rfl) (by kernel_rfl) (fun _ _ _ h => h) (Or.inl ⟨by rfl, ?_⟩) hS ?_
    rotate_left
    · intro W hW
      obtain ⟨s0, s2⟩ := hRd.out W hW
      go_simp
      try with_reducible rfl
    simp only [List.setIfInBounds_toArray, List.set_cons_zero, List.set_cons_succ]
    refine take_to (i := 2) (v := ?_) 38 rfl rfl (by kernel_rfl) (by kernel_rfl) (by kernel_rfl) (fun _ _ _ h => h) (Or.inl ⟨by rfl, ?_⟩) hS ?_
    rotate_left
    · intro W hW
      obtain ⟨s0, s2⟩ := hRd.out W hW
      go_simp
      try with_reducible rfl
    simp only [List.setIfInBounds_toArray, List.set_cons_zero, List.set_cons_succ]
    refine take_to (i := 3) (v := ?_) 39 rfl rfl (by kernel_rfl) (by kernel_rfl) (by kernel_rfl) (fun _ _ _ h => h) (Or.inl ⟨by rfl, ?_⟩) hS ?_
    rotate_left
    · intro W hW
      obtain ⟨s0, s2⟩ := hRd.out W hW
      go_simp
      try with_reducible rfl
    simp only [List.setIfInBounds_toArray, List.set_cons_zero, List.set_cons_succ]
    refine take_to (i := 4) (v := ?_) 40 rfl rfl (by kernel_rfl) (by kernel_rfl) (by kernel_rfl) (fun _ _ _ h => h) (Or.inl ⟨by rfl, ?_⟩) hS ?_
    rotate_left
    · intro W hW
      obtain ⟨s0, s2⟩ := hRd.out W hW
      go_simp
      try with_reducible rfl
    simp only [List.setIfInBounds_toArray, List.set_cons_zero, List.set_cons_succ]
    refine take_to (i := 5) (v := ?_) 41 rfl rfl (by kernel_rfl) (by kernel_rfl) (by kernel_rfl) (fun _ _ _ h => h) (Or.inl ⟨by rfl, ?_⟩) hS ?_
    rotate_left
    · intro W hW
      obtain ⟨s0, s2⟩ := hRd.out W hW
      go_simp
      try with_reducible rfl
    simp only [List.setIfInBounds_toArray, List.set_cons_zero, List.set_cons_succ]
    refine take_to (i := 6) (v := ?_) 42 rfl rfl (by kernel_rfl) (by kernel_rfl) (by kernel_rfl) (fun _ _ _ h => h) (Or.inl ⟨by rfl, ?_⟩) hS ?_
    rotate_left
    · intro W hW
      obtain ⟨s0, s2⟩ := hRd.out W hW
      go_simp
      try with_reducible rfl
    simp only [List.setIfInBounds_toArray, List.set_cons_zero, List.set_cons_succ]
    refine wpAnyH_ready (rs := [7]) (by kernel_rfl) (by simp) ?_
    refine AllReadyH.cons rfl (fun K hK => ?_) AllReadyH.nil
    go_simp
    refine (lay_any (hR.mem.kept (w' := w2.drew) (fun _ _ => rfl) (Nat.le_refl _)) _ hR.box hR.sq.2 n hn hf).mono ?_
    rintro x w3 ⟨tb, fr, A', b', S', rfl, hM3, hrow3, hL3, hC3, hg3, hk3, ht3, ht4⟩
    obtain ⟨hF3, hE3⟩ := hR.laid hM3 hL3 hC3 hg3 hk3
    have hS3 : w3.heap[q]? = w2.heap[q]? := hC3.block _ (hR.lt _ hR.sq.1) hR.sq.2
    refine hK.out _ _ hS3 fun hS => ?_
    clear hK K
    obtain ⟨w4, hw4, hm4, hc4⟩ := map_put hF3.map hc i hi (tabV ⟨n, fun _ => 0, tb, fr⟩)
    have hqm := hF3.apart
    have hS4 : w4.heap[q]? = w2.heap[q]? := (hc4.block _ (hF3.lt _ hF3.sq.1) hqm).trans hS3
    refine wpAnyH_ready (rs := [8]) (by kernel_rfl) (by simp) ?_
    refine AllReadyH.cons rfl (fun K hK => ?_) AllReadyH.nil
    go_simp
    refine hK.out _ _ hS4 fun _ => ?_
    clear hK K
    refine wpAnyH_done (by kernel_rfl) ?_ _
    refine NoPanic.normal ?_
    have hend := hF3.put he hn hrow3 ht3 (fun j hj => (hL3.new j hj).2) hL3.inj hE3 hm4 hc4
    obtain ⟨hz1, hz2⟩ := map_end hC5 hS5 hR hC3 hg3 ht4 hc4
    clear hF3 hM3 hrow3 hR hRd hw4 hm4 hqm hS3 hS4 hC3 hc4 hg3 ht4 hE3
    go_wp2_with fail
    go_ret
    exact ⟨rfl, _, ⟨S', p, A', g, b', _, _, hend, by rw [hL3.cnt]; omega, fun l => (setI_ent T E i ⟨n, fun _ => 0, tb, fr⟩ l).2 (.inr (HT.out l))⟩, hz1, hz2⟩
  | none =>
    have f2 := hR.f2
    have f2' := ((hR.below (below_alloc w2 (.map #[] 0))).f2)
    have fz := ((hR.below (below_alloc w2 (.map #[] 0))).fz)
    have hmk : (Instr.makeMap 49 none).run Try.prog w2 = .ok (.map (some w2.heap.size)) (w2.alloc (.map #[] 0)) := run_makeMap 49 w2
    go_upto_region 7 with fail
    have hR5 := hR.mkmap
    have hC5 : Chg S w ((w2.alloc (.map #[] 0)).setCell ⟨q, 2, none⟩ (.map (some w2.heap.size))) := Chg.trans (Chg.of_below (hb2.trans (pnew _ _ hb2.size)) S) (Chg.set S _ _ _ _ hR.sq.1) (fun x hx => .inl hx)
    have hS5 : ∀ x, (S x ∨ x = w2.heap.size) → S x ∨ w.heap.size ≤ x := fun x hx => hx.imp id (fun e => by have := hb2.size; omega)
    obtain ⟨w5, hw5⟩ : ∃ w5, w5 = (w2.alloc (.map #[] 0)).setCell ⟨q, 2, none⟩ (.map (some w2.heap.size)) := ⟨_, rfl⟩
    rw [← hw5] at hR5 hC5 ⊢
    clear hR hw5 f2' fz hmk
    rename Spr w5 _ S0 q p K c A g b _ E => hR
    obtain ⟨mb, hmb⟩ : ∃ mb, mb = w2.heap.size := ⟨_, rfl⟩
    rw [← hmb] at hR ⊢
    rw [← hmb] at hS5
    clear hmb
    have hRd : Hid (∀ W : World, W.heap[q]? = w5.heap[q]? → W.cell? ⟨q, 0, none⟩ = some (.pointer (some ⟨p, 0, none⟩)) ∧ W.cell? ⟨q, 2, none⟩ = some (.map (some mb))) := fun W hW => ⟨by simp [World.cell?, hW, hR.box], by simp [World.cell?, hW, hR.box]⟩
    refine wp_region_noPanic ?_
    refine wp_region_held_drew (S := fun W => W.heap[q]? = w5.heap[q]?) (by kernel_rfl) rfl fun hS => ?_
    refine take_to (i := 0) (v := ?_) 36 rfl rfl (by kernel_rfl) (by kernel_rfl) (by kernel_rfl) (fun _ _ _ h => h) (Or.inl ⟨by rfl, ?_⟩) hS ?_
    rotate_left
    · intro W hW
      obtain ⟨s0, s2⟩ := hRd.out W hW
      go_simp
      try with_reducible rfl
    simp only [List.setIfInBounds_toArray, List.set_cons_zero, List.set_cons_succ]
    refine take_to (i := 1) (v := ?_) 37 rfl rfl (by kernel_rfl) (by kernel_rfl) (by kernel_rfl) (fun _ _ _ h => h) (Or.inl ⟨by rfl, ?_⟩) hS ?_
    rotate_left
    · intro W hW
      obtain ⟨s0, s2⟩ := hRd.out W hW
      go_simp
      try with_reducible rfl
    simp only [List.setIfInBounds_toArray, List.set_cons_zero, List.set_cons_succ]
    refine take_to (i := 2) (v := ?_) 38 rfl rfl (by kernel_rfl) (by kernel_rfl) (by kernel_rfl) (fun _ _ _ h => h) (Or.inl ⟨by rfl, ?_⟩) hS ?_
    rotate_left
    · intro W hW
      obtain ⟨s0, s2⟩ := hRd.out W hW
      go_simp
      try with_reducible rfl
    simp only [List.setIfInBounds_toArray, List.set_cons_zero, List.set_cons_succ]
    refine take_to (i := 3) (v := ?_) 39 rfl rfl (by kernel_rfl) (by kernel_rfl) (by kernel_rfl) (fun _ _ _ h => h) (Or.inl ⟨by rfl, ?_⟩) hS ?_
    rotate_left
    · intro W hW
      obtain ⟨s0, s2⟩ := hRd.out W hW
      go_simp
      try with_reducible rfl
    simp only [List.setIfInBounds_toArray, List.set_cons_zero, List.set_cons_succ]
    refine take_to (i := 4) (v := ?_) 40 rfl rfl (by kernel_rfl) (by kernel_rfl) (by kernel_rfl) (fun _ _ _ h => h) (Or.inl ⟨by rfl, ?_⟩) hS ?_
    rotate_left
    · intro W hW
      obtain ⟨s0, s2⟩ := hRd.out W hW
      go_simp
      try with_reducible rfl
    simp only [List.setIfInBounds_toArray, List.set_cons_zero, List.set_cons_succ]
    refine take_to (i := 5) (v := ?_) 41 rfl rfl (by kernel_rfl) (by kernel_rfl) (by kernel_rfl) (fun _ _ _ h => h) (Or.inl ⟨by rfl, ?_⟩) hS ?_
    rotate_left
    · intro W hW
      obtain ⟨s0, s2⟩ := hRd.out W hW
      go_simp
      try with_reducible rfl
    simp only [List.setIfInBounds_toArray, List.set_cons_zero, List.set_cons_succ]
    refine take_to (i := 6) (v := ?_) 42 rfl rfl (by kernel_rfl) (by kernel_rfl) (by kernel_rfl) (fun _ _ _ h => h) (Or.inl ⟨by rfl, ?_⟩) hS ?_
    rotate_left
    · intro W hW
      obtain ⟨s0, s2⟩ := hRd.out W hW
      go_simp
      try with_reducible rfl
    simp only [List.setIfInBounds_toArray, List.set_cons_zero, List.set_cons_succ]
    refine wpAnyH_ready (rs := [7]) (by kernel_rfl) (by simp) ?_
    refine AllReadyH.cons rfl (fun K hK => ?_) AllReadyH.nil
    go_simp
    refine (lay_any (hR.mem.kept (w' := w5.drew) (fun _ _ => rfl) (Nat.le_refl _)) _ hR.box hR.sq.2 n hn hf).mono ?_
    rintro x w3 ⟨tb, fr, A', b', S', rfl, hM3, hrow3, hL3, hC3, hg3, hk3, ht3, ht4⟩
    obtain ⟨hF3, hE3⟩ := hR.laid hM3 hL3 hC3 hg3 hk3
    have hS3 : w3.heap[q]? = w5.heap[q]? := hC3.block _ (hR.lt _ hR.sq.1) hR.sq.2
    refine hK.out _ _ hS3 fun hS => ?_
    clear hK K
    obtain ⟨w4, hw4, hm4, hc4⟩ := map_put hF3.map hc i hi (tabV ⟨n, fun _ => 0, tb, fr⟩)
    have hqm := hF3.apart
    have hS4 : w4.heap[q]? = w5.heap[q]? := (hc4.block _ (hF3.lt _ hF3.sq.1) hqm).trans hS3
    refine wpAnyH_ready (rs := [8]) (by kernel_rfl) (by simp) ?_
    refine AllReadyH.cons rfl (fun K hK => ?_) AllReadyH.nil
    go_simp
    refine hK.out _ _ hS4 fun _ => ?_
    clear hK K
    refine wpAnyH_done (by kernel_rfl) ?_ _
    refine NoPanic.normal ?_
    have hend := hF3.put he hn hrow3 ht3 (fun j hj => (hL3.new j hj).2) hL3.inj hE3 hm4 hc4
    obtain ⟨hz1, hz2⟩ := map_end hC5 hS5 hR hC3 hg3 ht4 hc4
    clear hF3 hM3 hrow3 hR hRd hw4 hm4 hqm hS3 hS4 hC3 hc4 hg3 ht4 hE3
    go_wp2_with fail
    go_ret
    exact ⟨rfl, _, ⟨S', p, A', g, b', _, _, hend, by rw [hL3.cnt]; omega, fun l => (setI_ent T E i ⟨n, fun _ => 0, tb, fr⟩ l).2 (.inr (HT.out l))⟩, hz1, hz2⟩
end
end Go.Proofs.Ytdmdamidknbjoaa
