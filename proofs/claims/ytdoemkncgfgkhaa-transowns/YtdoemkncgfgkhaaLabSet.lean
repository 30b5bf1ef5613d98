/- What Set answers of a label: a contract. -/
import Derived.Test.YtdoemkncgfgkhaaLabCat
import Derived.Test.YtdoemkncgfgkhaaLabRead2
namespace Go.Proofs.Ytdoemkncgfgkhaa
open Go.RowKit
set_option maxRecDepth 100000

theorem atL_append (d : Int) (A L : List (Int × Int)) (c : Int) : atL d (A ++ L) c = atL (atL d L c) A c := by
  induction A with
  | nil => rfl
  | cons p A ih => rw [List.cons_append, atL_cons, atL_cons, ih]
theorem unl_at_other (d x y c : Int) (L : List (Int × Int)) (h : c ≠ x) : atL d (unl x y d ++ L) c = atL d L c := by
  unfold unl
  split
  · rfl
  · rw [List.singleton_append, atL_cons, if_neg (fun e => h e.symm)]
theorem unl_at_same (d x y : Int) (L : List (Int × Int)) (h : ∀ p ∈ L, p.1 ≠ x) : atL d (unl x y d ++ L) x = y := by
  unfold unl
  split
  · rename_i e; rw [List.nil_append, atL_off d L x h, e]
  · rw [List.singleton_append, atL_cons, if_pos rfl]
theorem set_can {d c lev : Int} {A B : List (Int × Int)} (hA : CanL d A) (hB : CanL d B) (h1 : ∀ p ∈ A, p.1 < c) (h2 : ∀ p ∈ B, c < p.1) : CanL d (A ++ unl c lev d ++ B) := by
  refine ⟨?_, fun p hp => ?_⟩
  · rw [UpL, List.append_assoc, List.pairwise_append]
    refine ⟨hA.1, ?_, fun p hp q hq => ?_⟩
    · unfold unl
      split
      · exact hB.1
      · exact List.pairwise_cons.2 ⟨fun q hq => h2 q hq, hB.1⟩
    · have := h1 p hp
      unfold unl at hq
      split at hq
      · have := h2 q hq; omega
      · rcases List.mem_cons.1 hq with rfl | hq
        · exact this
        · have := h2 q hq; omega
  · rw [List.append_assoc, List.mem_append] at hp
    rcases hp with hp | hp
    · exact hA.2 p hp
    · unfold unl at hp
      split at hp
      · exact hB.2 p hp
      · rcases List.mem_cons.1 hp with rfl | hp
        · assumption
        · exact hB.2 p hp
theorem set_at {d c lev : Int} {A M B : List (Int × Int)} (h1 : ∀ p ∈ A, p.1 < c) (h2 : ∀ p ∈ B, c < p.1) (hM : ∀ p ∈ M, p.1 = c) (c' : Int) : atL d (A ++ unl c lev d ++ B) c' = if c' = c then lev else atL d (A ++ M ++ B) c' := by
  rw [List.append_assoc, atL_append]
  by_cases h : c' = c
  · subst h
    rw [if_pos rfl, unl_at_same d c' lev B (fun p hp => by have := h2 p hp; omega), atL_off _ A _ (fun p hp => by have := h1 p hp; omega)]
  · rw [if_neg h, unl_at_other d c lev c' B h, List.append_assoc, atL_append d A, atL_append d M, atL_off _ M c' (fun p hp e => h (by rw [← e, hM p hp]))]
theorem CanL.sub {d : Int} {xs ys : List (Int × Int)} (h : CanL d xs) (hs : ys.Sublist xs) : CanL d ys := ⟨List.Pairwise.sublist hs h.1, fun p hp => h.2 p (hs.subset hp)⟩
theorem set_no {d c lev : Int} {xs : List (Int × Int)} {p : Nat} (hc : CanL d xs) (hlo : ∀ t x y, xs[t]? = some (x, y) → t < p → x < c) (hhi : ∀ t x y, xs[t]? = some (x, y) → p ≤ t → c ≤ x) (hn : ¬ ∃ y, xs[p]? = some (c, y)) :
    CanL d (xs.take p ++ unl c lev d ++ xs.drop p) ∧ ∀ c', atL d (xs.take p ++ unl c lev d ++ xs.drop p) c' = if c' = c then lev else atL d xs c' := by
  have h1 : ∀ q ∈ xs.take p, q.1 < c := fun q hq => by
    obtain ⟨i, hi, rfl⟩ := List.mem_iff_getElem.1 hq
    have hl : i < p ∧ i < xs.length := by simp at hi; omega
    rw [List.getElem_take]
    exact hlo i _ _ (List.getElem?_eq_getElem hl.2) hl.1
  have h2 : ∀ q ∈ xs.drop p, c < q.1 := fun q hq => by
    obtain ⟨i, hi, rfl⟩ := List.mem_iff_getElem.1 hq
    have hl : p + i < xs.length := by simp at hi; omega
    rw [List.getElem_drop]
    have hx : xs[p + i]? = some (xs[p + i].1, xs[p + i].2) := List.getElem?_eq_getElem hl
    have h3 := hhi (p + i) _ _ hx (by omega)
    by_cases he : c = xs[p + i].1
    · exfalso
      by_cases h0 : i = 0
      · subst h0; exact hn ⟨xs[p].2, by rw [show xs[p]? = some (xs[p].1, xs[p].2) from List.getElem?_eq_getElem (by omega), he]; rfl⟩
      · have hp : xs[p]? = some (xs[p].1, xs[p].2) := List.getElem?_eq_getElem (by omega)
        have h4 := hhi p _ _ hp (Nat.le_refl _)
        have h5 := hc.1.lt (show p < p + i by omega) hp hx
        omega
    · omega
  refine ⟨set_can (hc.sub (List.take_sublist _ _)) (hc.sub (List.drop_sublist _ _)) h1 h2, fun c' => ?_⟩
  rw [set_at (M := []) h1 h2 (fun q hq => by simp at hq), List.append_nil, List.take_append_drop]
theorem set_yes {d c lev : Int} {xs : List (Int × Int)} {p : Nat} {y0 : Int} (hc : CanL d xs) (hlo : ∀ t x y, xs[t]? = some (x, y) → t < p → x < c) (hy : xs[p]? = some (c, y0)) :
    CanL d (xs.take p ++ unl c lev d ++ xs.drop (p + 1)) ∧ ∀ c', atL d (xs.take p ++ unl c lev d ++ xs.drop (p + 1)) c' = if c' = c then lev else atL d xs c' := by
  obtain ⟨hpl, hpe⟩ := List.getElem?_eq_some_iff.1 hy
  have h1 : ∀ q ∈ xs.take p, q.1 < c := fun q hq => by
    obtain ⟨i, hi, rfl⟩ := List.mem_iff_getElem.1 hq
    have hl : i < p ∧ i < xs.length := by simp at hi; omega
    rw [List.getElem_take]
    exact hlo i _ _ (List.getElem?_eq_getElem hl.2) hl.1
  have h2 : ∀ q ∈ xs.drop (p + 1), c < q.1 := fun q hq => by
    obtain ⟨i, hi, rfl⟩ := List.mem_iff_getElem.1 hq
    have hl : p + 1 + i < xs.length := by simp at hi; omega
    rw [List.getElem_drop]
    have hx : xs[p + 1 + i]? = some (xs[p + 1 + i].1, xs[p + 1 + i].2) := List.getElem?_eq_getElem hl
    exact hc.1.lt (show p < p + 1 + i by omega) hy hx
  refine ⟨set_can (hc.sub (List.take_sublist _ _)) (hc.sub (List.drop_sublist _ _)) h1 h2, fun c' => ?_⟩
  rw [set_at (M := [(c, y0)]) h1 h2 (fun q hq => by simp at hq; rw [hq])]
  rw [show xs.take p ++ [(c, y0)] ++ xs.drop (p + 1) = xs by rw [← take_snoc hy, List.take_append_drop]]

set_option maxHeartbeats 4000000 in
theorem set_any (d : Int) (a : Option Addr) (n cap : Nat) (xs : List (Int × Int)) (c lev : Int) (hc : 0 ≤ c ∧ c < 65536) (hlev : 0 ≤ lev ∧ lev < 256) (w : World) (hr : RowG PE w a n cap xs) (hcan : CanL d xs) (hbd : n ≤ 100000) :
    Calls Try.prog 34 #[.agg #[.int .u8 d, .slice a n cap], .int .u16 c, .int .u8 lev] w fun e w' => ∃ so k co zs, e = .returned (.agg #[.int .u8 d, .slice so k co]) ∧ OwnG PE 40 w' w.heap.size so k co zs ∧ Below w.heap.size w w' ∧ CanL d zs ∧ (∀ c', atL d zs c' = if c' = c then lev else atL d xs c') ∧ k ≤ n + 1 := by
  have hcap := hr.cap_le
  have hl := hr.len
  go_enter Try.func34, Try.ntmps34
  go_wp2_with fail
  refine (find_any a n cap xs c _ (hr.below (two_allocs _ _ _)) hcan.1 (by omega)).mono ?_
  rintro e w1 ⟨p, q, rfl, hp, hlo, hhi, hq, hb⟩
  have hbw : Below w.heap.size w w1 := ext_trans (two_allocs _ _ _) hb
  have k0 : w1.cell? ⟨w.heap.size, 0, none⟩ = some (.int .u8 d) := by rw [hb.cell (by simp <;> omega)]; simp
  have k1 : w1.cell? ⟨w.heap.size, 1, none⟩ = some (.slice a n cap) := by rw [hb.cell (by simp <;> omega)]; simp
  have hR1 : w1.heap[w.heap.size + 1]? = some (.cells #[.int .u8 0, .slice none 0 0] 24 (0, 0)) := by rw [hb.block _ (by simp)]; exact heap_new_at _ _ _ (by simp)
  clear hb
  have pc : (p : Int) ≤ (cap : Int) := by omega
  have pn : (p : Int) ≤ (n : Int) := by omega
  cases q
  · have HP : Hid (CanL d (xs.take p ++ unl c lev d ++ xs.drop p) ∧ ∀ c', atL d (xs.take p ++ unl c lev d ++ xs.drop p) c' = if c' = c then lev else atL d xs c') := set_no hcan hlo hhi (fun h => by simpa using hq.2 h)
    clear hq hlo hhi
    by_cases hcp : cap = p
    · subst hcp
      have hrest : RowG PE w a 0 0 (xs.drop cap) := by
        rw [List.drop_of_length_le (by omega)]
        cases a with
        | none => exact RowG.nil _ _
        | some x => exact RowG.none_of _ _ _ _ (by omega)
      go_wp2_with fail
      refine (appendUnlike_any none 0 0 [] c lev d ⟨hc, hlev⟩ w1 w1.heap.size (Nat.le_refl _) (OwnG.of_nil _ _ _ _) (by omega)).mono ?_
      rintro e w2 ⟨so, co, no, rfl, hown2, hno2, hg2⟩
      rw [List.nil_append] at hown2
      have hb2 : Below w1.heap.size w1 w2 := below_of_grown hg2 (Nat.le_refl _) (fun x hx => by simp [Value.ownBlock] at hx)
      have hbw2 := ext_trans hbw hb2
      have k0' : w2.cell? ⟨w.heap.size, 0, none⟩ = some (.int .u8 d) := by rw [hb2.cell (lt_of_cell k0)]; exact k0
      have k1' : w2.cell? ⟨w.heap.size, 1, none⟩ = some (.slice a n cap) := by rw [hb2.cell (lt_of_cell k1)]; exact k1
      have hR2 : w2.heap[w.heap.size + 1]? = some (.cells #[.int .u8 0, .slice none 0 0] 24 (0, 0)) := (hb2.block _ (Array.getElem?_eq_some_iff.1 hR1).1).trans hR1
      have hRne : w.heap.size ≠ w.heap.size + 1 := by omega
      have hRlt := (Array.getElem?_eq_some_iff.1 hR2).1
      obtain ⟨Wb, hWb⟩ : ∃ x, x = (w2.alloc (.cells #[.slice a cap cap, .slice so no co, .slice a 0 0] 22)).drew := ⟨_, rfl⟩
      have HWb : Hid (Wb = (w2.alloc (.cells #[.slice a cap cap, .slice so no co, .slice a 0 0] 22)).drew) := hWb
      have hB3 : Below w2.heap.size w2 Wb := hWb ▸ (below_alloc _ _).drew
      have q0 : Hid (Wb.cell? ⟨w2.heap.size, 0, none⟩ = some (.slice a cap cap)) := by rw [hWb]; exact cell_of_heap (heap_new_at w2 _ _ rfl) 0 _ rfl
      have q1 : Hid (Wb.cell? ⟨w2.heap.size, 1, none⟩ = some (.slice so no co)) := by rw [hWb]; exact cell_of_heap (heap_new_at w2 _ _ rfl) 1 _ rfl
      have q2 : Hid (Wb.cell? ⟨w2.heap.size, 2, none⟩ = some (.slice a 0 0)) := by rw [hWb]; exact cell_of_heap (heap_new_at w2 _ _ rfl) 2 _ rfl
      clear hWb
      have HS : Hid (∀ W, Below w2.heap.size w2 W → (fun W => W.cell? ⟨w.heap.size, 0, none⟩ = some (.int .u8 d) ∧ W.cell? ⟨w.heap.size, 1, none⟩ = some (.slice a n cap)) W) := fun W h => ⟨by rw [h.cell (lt_of_cell k0')]; exact k0', by rw [h.cell (lt_of_cell k1')]; exact k1'⟩
      go_wp2_with fail
      refine wp_region_noPanic ?_
      refine wp_region_held_drew (S := fun W => W.cell? ⟨w.heap.size, 0, none⟩ = some (.int .u8 d) ∧ W.cell? ⟨w.heap.size, 1, none⟩ = some (.slice a n cap)) (by kernel_rfl) (HS.out _ (ext_drew _)) fun hS => ?_
      refine take_to (i := 0) (v := ?_) 31 rfl rfl (by kernel_rfl) (by kernel_rfl) (by kernel_rfl) (fun _ _ _ h => h) (Or.inl ⟨by rfl, ?_⟩) hS ?_
      rotate_left
      · intro W hW
        obtain ⟨s0, s1⟩ := hW
        go_simp
        try with_reducible rfl
      simp only [List.setIfInBounds_toArray, List.set_cons_zero, List.set_cons_succ]
      refine take_to (i := 1) (v := ?_) 32 rfl rfl (by kernel_rfl) (by kernel_rfl) (by kernel_rfl) (fun _ _ _ h => h) (Or.inl ⟨by rfl, ?_⟩) hS ?_
      rotate_left
      · intro W hW
        obtain ⟨s0, s1⟩ := hW
        go_simp
        try with_reducible rfl
      simp only [List.setIfInBounds_toArray, List.set_cons_zero, List.set_cons_succ]
      refine take_to (i := 2) (v := ?_) 33 rfl rfl (by kernel_rfl) (by kernel_rfl) (by kernel_rfl) (fun _ _ _ h => h) (Or.inl ⟨by rfl, ?_⟩) hS ?_
      rotate_left
      · intro W hW
        obtain ⟨s0, s1⟩ := hW
        go_simp
        try with_reducible rfl
      simp only [List.setIfInBounds_toArray, List.set_cons_zero, List.set_cons_succ]
      refine take_to (i := 3) (v := ?_) 34 rfl rfl (by kernel_rfl) (by kernel_rfl) (by kernel_rfl) (fun _ _ _ h => h) (Or.inl ⟨by rfl, ?_⟩) hS ?_
      rotate_left
      · intro W hW
        obtain ⟨s0, s1⟩ := hW
        go_simp
        try with_reducible rfl
      simp only [List.setIfInBounds_toArray, List.set_cons_zero, List.set_cons_succ]
      refine take_to (i := 4) (v := ?_) 35 rfl rfl (by kernel_rfl) (by kernel_rfl) (by kernel_rfl) (fun _ _ _ h => h) (Or.inl ⟨by rfl, ?_⟩) hS ?_
      rotate_left
      · intro W hW
        obtain ⟨s0, s1⟩ := hW
        go_simp
        try with_reducible rfl
      simp only [List.setIfInBounds_toArray, List.set_cons_zero, List.set_cons_succ]
      refine take_to (i := 5) (v := ?_) 36 rfl rfl (by kernel_rfl) (by kernel_rfl) (by kernel_rfl) (fun _ _ _ h => h) (Or.inl ⟨by rfl, ?_⟩) hS ?_
      rotate_left
      · intro W hW
        obtain ⟨s0, s1⟩ := hW
        go_simp
        try with_reducible rfl
      simp only [List.setIfInBounds_toArray, List.set_cons_zero, List.set_cons_succ]
      refine take_to (i := 6) (v := ?_) 37 rfl rfl (by kernel_rfl) (by kernel_rfl) (by kernel_rfl) (fun _ _ _ h => h) (Or.inl ⟨by rfl, ?_⟩) hS ?_
      rotate_left
      · intro W hW
        obtain ⟨s0, s1⟩ := hW
        go_simp
        try with_reducible rfl
      simp only [List.setIfInBounds_toArray, List.set_cons_zero, List.set_cons_succ]
      refine take_to (i := 7) (v := ?_) 38 rfl rfl (by kernel_rfl) (by kernel_rfl) (by kernel_rfl) (fun _ _ _ h => h) (Or.inl ⟨by rfl, ?_⟩) hS ?_
      rotate_left
      · intro W hW
        obtain ⟨s0, s1⟩ := hW
        go_simp
        try with_reducible rfl
      simp only [List.setIfInBounds_toArray, List.set_cons_zero, List.set_cons_succ]
      refine wpAnyH_ready (rs := [8]) (by kernel_rfl) (by simp) ?_
      refine AllReadyH.cons rfl (fun K hK => ?_) AllReadyH.nil
      go_simp
      rw [← HWb.out]
      refine hK.out _ _ (HS.out _ hB3) fun _ => ?_
      clear hK K
      refine wpAnyH_ready (rs := [9]) (by kernel_rfl) (by simp) ?_
      refine AllReadyH.cons rfl (fun K hK => ?_) AllReadyH.nil
      go_simp
      refine (concat_three w2.heap.size _ _ _ cap cap no co 0 0 (xs.take cap) _ _ Wb q0.out q1.out q2.out ((hr.pre cap hp).below (ext_trans hbw2 hB3)) (hown2.row.below hB3) (hrest.below (ext_trans hbw2 hB3)) (by omega)).mono ?_
      rintro e w4 ⟨so4, co4, rfl, hown4, hb4⟩
      have hB4 := ext_trans hB3 hb4
      refine hK.out _ _ (HS.out _ hB4) fun _ => ?_
      clear hK K
      refine take_to (i := 10) (v := ?_) 41 rfl rfl (by kernel_rfl) (by kernel_rfl) (by kernel_rfl) (fun _ _ _ h => h) (Or.inl ⟨by rfl, ?_⟩) (HS.out _ hB4) ?_
      rotate_left
      · intro W hW
        obtain ⟨s0, s1⟩ := hW
        go_simp
        try with_reducible rfl
      simp only [List.setIfInBounds_toArray, List.set_cons_zero, List.set_cons_succ]
      have hR4 : w4.heap[w.heap.size + 1]? = some (.cells #[.int .u8 0, .slice none 0 0] 24 (0, 0)) := (hB4.block _ hRlt).trans hR2
      have r0 : w4.cell? ⟨w.heap.size + 1, 0, none⟩ = some (.int .u8 0) := cell_of_heap hR4 0 _ rfl
      have r1 : w4.cell? ⟨w.heap.size + 1, 1, none⟩ = some (.slice none 0 0) := cell_of_heap hR4 1 _ rfl
      have f0 : w4.frozen? ⟨w.heap.size + 1, 0, none⟩ = false := frozen_of_row w4 _ 0 _ 24 hR4
      have f1 : w4.frozen? ⟨w.heap.size + 1, 1, none⟩ = false := frozen_of_row w4 _ 1 _ 24 hR4
      have hres := ret_store (D := d) hR4 (show w.heap.size ≤ w.heap.size + 1 by omega) (Nat.lt_of_lt_of_le hRlt hB3.size) (ext_trans hbw2 hB4) hown4
      have hS4 := HS.out _ hB4
      refine wpAnyH_ready (rs := [11]) (by kernel_rfl) (by simp) ?_
      refine AllReadyH.cons rfl (fun K hK => ?_) AllReadyH.nil
      go_simp
      refine hK.out _ _ ⟨by rw [World.cell?_setCell_far _ _ _ _ (Ne.symm hRne), World.cell?_setCell_far _ _ _ _ (Ne.symm hRne)]; exact hS4.1, by rw [World.cell?_setCell_far _ _ _ _ (Ne.symm hRne), World.cell?_setCell_far _ _ _ _ (Ne.symm hRne)]; exact hS4.2⟩ fun _ => ?_
      clear hK K
      refine wpAnyH_done (by kernel_rfl) ?_ _
      refine NoPanic.normal ?_
      go_wp2_with fail
      obtain ⟨e1, e2, e3⟩ := hres
      try simp only [Exit.inBlock, Exit.then]
      refine bodyPost_ret (ret_lab rfl _ _ (w.heap.size + 1) d so4 _ co4 rfl e1) rfl ?_
      exact ⟨so4, _, co4, _, rfl, e2, e3, HP.out.1, HP.out.2, by omega⟩
    · have hrest : RowG PE w (Option.map (fun x => x.add (p * 2)) a) (n - p) (cap - p) (xs.drop p) := by
        by_cases h0 : n = 0
        · obtain rfl : p = 0 := by omega
          have : Option.map (fun x => x.add (0 * 2)) a = a := by cases a <;> simp [Addr.add]
          rw [this]
          simpa using hr
        · obtain ⟨b, off, rfl, _⟩ := hr.at (by omega)
          have := hr.tail p hp
          simpa [add_pl, PE] using this
      go_wp2_with fail
      refine (appendUnlike_any none 0 0 [] c lev d ⟨hc, hlev⟩ w1 w1.heap.size (Nat.le_refl _) (OwnG.of_nil _ _ _ _) (by omega)).mono ?_
      rintro e w2 ⟨so, co, no, rfl, hown2, hno2, hg2⟩
      rw [List.nil_append] at hown2
      have hb2 : Below w1.heap.size w1 w2 := below_of_grown hg2 (Nat.le_refl _) (fun x hx => by simp [Value.ownBlock] at hx)
      have hbw2 := ext_trans hbw hb2
      have k0' : w2.cell? ⟨w.heap.size, 0, none⟩ = some (.int .u8 d) := by rw [hb2.cell (lt_of_cell k0)]; exact k0
      have k1' : w2.cell? ⟨w.heap.size, 1, none⟩ = some (.slice a n cap) := by rw [hb2.cell (lt_of_cell k1)]; exact k1
      have hR2 : w2.heap[w.heap.size + 1]? = some (.cells #[.int .u8 0, .slice none 0 0] 24 (0, 0)) := (hb2.block _ (Array.getElem?_eq_some_iff.1 hR1).1).trans hR1
      have hRne : w.heap.size ≠ w.heap.size + 1 := by omega
      have hRlt := (Array.getElem?_eq_some_iff.1 hR2).1
      obtain ⟨Wb, hWb⟩ : ∃ x, x = (w2.alloc (.cells #[.slice a p cap, .slice so no co, .slice (Option.map (fun x => x.add (p * 2)) a) (n - p) (cap - p)] 22)).drew := ⟨_, rfl⟩
      have HWb : Hid (Wb = (w2.alloc (.cells #[.slice a p cap, .slice so no co, .slice (Option.map (fun x => x.add (p * 2)) a) (n - p) (cap - p)] 22)).drew) := hWb
      have hB3 : Below w2.heap.size w2 Wb := hWb ▸ (below_alloc _ _).drew
      have q0 : Hid (Wb.cell? ⟨w2.heap.size, 0, none⟩ = some (.slice a p cap)) := by rw [hWb]; exact cell_of_heap (heap_new_at w2 _ _ rfl) 0 _ rfl
      have q1 : Hid (Wb.cell? ⟨w2.heap.size, 1, none⟩ = some (.slice so no co)) := by rw [hWb]; exact cell_of_heap (heap_new_at w2 _ _ rfl) 1 _ rfl
      have q2 : Hid (Wb.cell? ⟨w2.heap.size, 2, none⟩ = some (.slice (Option.map (fun x => x.add (p * 2)) a) (n - p) (cap - p))) := by rw [hWb]; exact cell_of_heap (heap_new_at w2 _ _ rfl) 2 _ rfl
      clear hWb
      have HS : Hid (∀ W, Below w2.heap.size w2 W → (fun W => W.cell? ⟨w.heap.size, 0, none⟩ = some (.int .u8 d) ∧ W.cell? ⟨w.heap.size, 1, none⟩ = some (.slice a n cap)) W) := fun W h => ⟨by rw [h.cell (lt_of_cell k0')]; exact k0', by rw [h.cell (lt_of_cell k1')]; exact k1'⟩
      go_wp2_with fail
      refine wp_region_noPanic ?_
      refine wp_region_held_drew (S := fun W => W.cell? ⟨w.heap.size, 0, none⟩ = some (.int .u8 d) ∧ W.cell? ⟨w.heap.size, 1, none⟩ = some (.slice a n cap)) (by kernel_rfl) (HS.out _ (ext_drew _)) fun hS => ?_
      refine take_to (i := 0) (v := ?_) 31 rfl rfl (by kernel_rfl) (by kernel_rfl) (by kernel_rfl) (fun _ _ _ h => h) (Or.inl ⟨by rfl, ?_⟩) hS ?_
      rotate_left
      · intro W hW
        obtain ⟨s0, s1⟩ := hW
        go_simp
        try with_reducible rfl
      simp only [List.setIfInBounds_toArray, List.set_cons_zero, List.set_cons_succ]
      refine take_to (i := 1) (v := ?_) 32 rfl rfl (by kernel_rfl) (by kernel_rfl) (by kernel_rfl) (fun _ _ _ h => h) (Or.inl ⟨by rfl, ?_⟩) hS ?_
      rotate_left
      · intro W hW
        obtain ⟨s0, s1⟩ := hW
        go_simp
        try with_reducible rfl
      simp only [List.setIfInBounds_toArray, List.set_cons_zero, List.set_cons_succ]
      refine take_to (i := 2) (v := ?_) 33 rfl rfl (by kernel_rfl) (by kernel_rfl) (by kernel_rfl) (fun _ _ _ h => h) (Or.inl ⟨by rfl, ?_⟩) hS ?_
      rotate_left
      · intro W hW
        obtain ⟨s0, s1⟩ := hW
        go_simp
        try with_reducible rfl
      simp only [List.setIfInBounds_toArray, List.set_cons_zero, List.set_cons_succ]
      refine take_to (i := 3) (v := ?_) 34 rfl rfl (by kernel_rfl) (by kernel_rfl) (by kernel_rfl) (fun _ _ _ h => h) (Or.inl ⟨by rfl, ?_⟩) hS ?_
      rotate_left
      · intro W hW
        obtain ⟨s0, s1⟩ := hW
        go_simp
        try with_reducible rfl
      simp only [List.setIfInBounds_toArray, List.set_cons_zero, List.set_cons_succ]
      refine take_to (i := 4) (v := ?_) 35 rfl rfl (by kernel_rfl) (by kernel_rfl) (by kernel_rfl) (fun _ _ _ h => h) (Or.inl ⟨by rfl, ?_⟩) hS ?_
      rotate_left
      · intro W hW
        obtain ⟨s0, s1⟩ := hW
        go_simp
        try with_reducible rfl
      simp only [List.setIfInBounds_toArray, List.set_cons_zero, List.set_cons_succ]
      refine take_to (i := 5) (v := ?_) 36 rfl rfl (by kernel_rfl) (by kernel_rfl) (by kernel_rfl) (fun _ _ _ h => h) (Or.inl ⟨by rfl, ?_⟩) hS ?_
      rotate_left
      · intro W hW
        obtain ⟨s0, s1⟩ := hW
        go_simp
        try with_reducible rfl
      simp only [List.setIfInBounds_toArray, List.set_cons_zero, List.set_cons_succ]
      refine take_to (i := 6) (v := ?_) 37 rfl rfl (by kernel_rfl) (by kernel_rfl) (by kernel_rfl) (fun _ _ _ h => h) (Or.inl ⟨by rfl, ?_⟩) hS ?_
      rotate_left
      · intro W hW
        obtain ⟨s0, s1⟩ := hW
        go_simp
        try with_reducible rfl
      simp only [List.setIfInBounds_toArray, List.set_cons_zero, List.set_cons_succ]
      refine take_to (i := 7) (v := ?_) 38 rfl rfl (by kernel_rfl) (by kernel_rfl) (by kernel_rfl) (fun _ _ _ h => h) (Or.inl ⟨by rfl, ?_⟩) hS ?_
      rotate_left
      · intro W hW
        obtain ⟨s0, s1⟩ := hW
        go_simp
        try with_reducible rfl
      simp only [List.setIfInBounds_toArray, List.set_cons_zero, List.set_cons_succ]
      refine wpAnyH_ready (rs := [8]) (by kernel_rfl) (by simp) ?_
      refine AllReadyH.cons rfl (fun K hK => ?_) AllReadyH.nil
      go_simp
      rw [← HWb.out]
      refine hK.out _ _ (HS.out _ hB3) fun _ => ?_
      clear hK K
      refine wpAnyH_ready (rs := [9]) (by kernel_rfl) (by simp) ?_
      refine AllReadyH.cons rfl (fun K hK => ?_) AllReadyH.nil
      go_simp
      refine (concat_three w2.heap.size _ _ _ p cap no co (n - p) (cap - p) (xs.take p) _ _ Wb q0.out q1.out q2.out ((hr.pre p hp).below (ext_trans hbw2 hB3)) (hown2.row.below hB3) (hrest.below (ext_trans hbw2 hB3)) (by omega)).mono ?_
      rintro e w4 ⟨so4, co4, rfl, hown4, hb4⟩
      have hB4 := ext_trans hB3 hb4
      refine hK.out _ _ (HS.out _ hB4) fun _ => ?_
      clear hK K
      refine take_to (i := 10) (v := ?_) 41 rfl rfl (by kernel_rfl) (by kernel_rfl) (by kernel_rfl) (fun _ _ _ h => h) (Or.inl ⟨by rfl, ?_⟩) (HS.out _ hB4) ?_
      rotate_left
      · intro W hW
        obtain ⟨s0, s1⟩ := hW
        go_simp
        try with_reducible rfl
      simp only [List.setIfInBounds_toArray, List.set_cons_zero, List.set_cons_succ]
      have hR4 : w4.heap[w.heap.size + 1]? = some (.cells #[.int .u8 0, .slice none 0 0] 24 (0, 0)) := (hB4.block _ hRlt).trans hR2
      have r0 : w4.cell? ⟨w.heap.size + 1, 0, none⟩ = some (.int .u8 0) := cell_of_heap hR4 0 _ rfl
      have r1 : w4.cell? ⟨w.heap.size + 1, 1, none⟩ = some (.slice none 0 0) := cell_of_heap hR4 1 _ rfl
      have f0 : w4.frozen? ⟨w.heap.size + 1, 0, none⟩ = false := frozen_of_row w4 _ 0 _ 24 hR4
      have f1 : w4.frozen? ⟨w.heap.size + 1, 1, none⟩ = false := frozen_of_row w4 _ 1 _ 24 hR4
      have hres := ret_store (D := d) hR4 (show w.heap.size ≤ w.heap.size + 1 by omega) (Nat.lt_of_lt_of_le hRlt hB3.size) (ext_trans hbw2 hB4) hown4
      have hS4 := HS.out _ hB4
      refine wpAnyH_ready (rs := [11]) (by kernel_rfl) (by simp) ?_
      refine AllReadyH.cons rfl (fun K hK => ?_) AllReadyH.nil
      go_simp
      refine hK.out _ _ ⟨by rw [World.cell?_setCell_far _ _ _ _ (Ne.symm hRne), World.cell?_setCell_far _ _ _ _ (Ne.symm hRne)]; exact hS4.1, by rw [World.cell?_setCell_far _ _ _ _ (Ne.symm hRne), World.cell?_setCell_far _ _ _ _ (Ne.symm hRne)]; exact hS4.2⟩ fun _ => ?_
      clear hK K
      refine wpAnyH_done (by kernel_rfl) ?_ _
      refine NoPanic.normal ?_
      go_wp2_with fail
      obtain ⟨e1, e2, e3⟩ := hres
      try simp only [Exit.inBlock, Exit.then]
      refine bodyPost_ret (ret_lab rfl _ _ (w.heap.size + 1) d so4 _ co4 rfl e1) rfl ?_
      exact ⟨so4, _, co4, _, rfl, e2, e3, HP.out.1, HP.out.2, by omega⟩
  · obtain ⟨y0, hy⟩ := hq.1 rfl
    have hpn : p < n := by have := (List.getElem?_eq_some_iff.1 hy).1; omega
    have HP : Hid (CanL d (xs.take p ++ unl c lev d ++ xs.drop (p + 1)) ∧ ∀ c', atL d (xs.take p ++ unl c lev d ++ xs.drop (p + 1)) c' = if c' = c then lev else atL d xs c') := set_yes hcan hlo hy
    obtain ⟨b, off, rfl, _⟩ := hr.at (by omega)
    clear hq hlo hhi hy
    have hcp : ¬ cap = p := by omega
    have pn1 : (1 : Int) ≤ ((n - p : Nat) : Int) := by omega
    have pn2 : (1 : Int) ≤ ((cap - p : Nat) : Int) := by omega
    by_cases hc1 : cap - p = 1
    · have hrest : RowG PE w (some ⟨b, off + p * 2, none⟩) (n - p - 1) 0 (xs.drop (p + 1)) := by
        rw [List.drop_of_length_le (by omega), show n - p - 1 = 0 by omega]
        exact RowG.none_of _ _ _ _ (by omega)
      go_wp2_with fail
      refine (appendUnlike_any none 0 0 [] c lev d ⟨hc, hlev⟩ w1 w1.heap.size (Nat.le_refl _) (OwnG.of_nil _ _ _ _) (by omega)).mono ?_
      rintro e w2 ⟨so, co, no, rfl, hown2, hno2, hg2⟩
      rw [List.nil_append] at hown2
      have hb2 : Below w1.heap.size w1 w2 := below_of_grown hg2 (Nat.le_refl _) (fun x hx => by simp [Value.ownBlock] at hx)
      have hbw2 := ext_trans hbw hb2
      have k0' : w2.cell? ⟨w.heap.size, 0, none⟩ = some (.int .u8 d) := by rw [hb2.cell (lt_of_cell k0)]; exact k0
      have k1' : w2.cell? ⟨w.heap.size, 1, none⟩ = some (.slice (some ⟨b, off, none⟩) n cap) := by rw [hb2.cell (lt_of_cell k1)]; exact k1
      have hR2 : w2.heap[w.heap.size + 1]? = some (.cells #[.int .u8 0, .slice none 0 0] 24 (0, 0)) := (hb2.block _ (Array.getElem?_eq_some_iff.1 hR1).1).trans hR1
      have hRne : w.heap.size ≠ w.heap.size + 1 := by omega
      have hRlt := (Array.getElem?_eq_some_iff.1 hR2).1
      obtain ⟨Wb, hWb⟩ : ∃ x, x = (w2.alloc (.cells #[.slice (some ⟨b, off, none⟩) p cap, .slice so no co, .slice (some ⟨b, off + p * 2, none⟩) (n - p - 1) 0] 22)).drew := ⟨_, rfl⟩
      have HWb : Hid (Wb = (w2.alloc (.cells #[.slice (some ⟨b, off, none⟩) p cap, .slice so no co, .slice (some ⟨b, off + p * 2, none⟩) (n - p - 1) 0] 22)).drew) := hWb
      have hB3 : Below w2.heap.size w2 Wb := hWb ▸ (below_alloc _ _).drew
      have q0 : Hid (Wb.cell? ⟨w2.heap.size, 0, none⟩ = some (.slice (some ⟨b, off, none⟩) p cap)) := by rw [hWb]; exact cell_of_heap (heap_new_at w2 _ _ rfl) 0 _ rfl
      have q1 : Hid (Wb.cell? ⟨w2.heap.size, 1, none⟩ = some (.slice so no co)) := by rw [hWb]; exact cell_of_heap (heap_new_at w2 _ _ rfl) 1 _ rfl
      have q2 : Hid (Wb.cell? ⟨w2.heap.size, 2, none⟩ = some (.slice (some ⟨b, off + p * 2, none⟩) (n - p - 1) 0)) := by rw [hWb]; exact cell_of_heap (heap_new_at w2 _ _ rfl) 2 _ rfl
      clear hWb
      have HS : Hid (∀ W, Below w2.heap.size w2 W → (fun W => W.cell? ⟨w.heap.size, 0, none⟩ = some (.int .u8 d) ∧ W.cell? ⟨w.heap.size, 1, none⟩ = some (.slice (some ⟨b, off, none⟩) n cap)) W) := fun W h => ⟨by rw [h.cell (lt_of_cell k0')]; exact k0', by rw [h.cell (lt_of_cell k1')]; exact k1'⟩
      go_wp2_with fail
      refine wp_region_noPanic ?_
      refine wp_region_held_drew (S := fun W => W.cell? ⟨w.heap.size, 0, none⟩ = some (.int .u8 d) ∧ W.cell? ⟨w.heap.size, 1, none⟩ = some (.slice (some ⟨b, off, none⟩) n cap)) (by kernel_rfl) (HS.out _ (ext_drew _)) fun hS => ?_
      refine take_to (i := 0) (v := ?_) 31 rfl rfl (by kernel_rfl) (by kernel_rfl) (by kernel_rfl) (fun _ _ _ h => h) (Or.inl ⟨by rfl, ?_⟩) hS ?_
      rotate_left
      · intro W hW
        obtain ⟨s0, s1⟩ := hW
        go_simp
        try with_reducible rfl
      simp only [List.setIfInBounds_toArray, List.set_cons_zero, List.set_cons_succ]
      refine take_to (i := 1) (v := ?_) 32 rfl rfl (by kernel_rfl) (by kernel_rfl) (by kernel_rfl) (fun _ _ _ h => h) (Or.inl ⟨by rfl, ?_⟩) hS ?_
      rotate_left
      · intro W hW
        obtain ⟨s0, s1⟩ := hW
        go_simp
        try with_reducible rfl
      simp only [List.setIfInBounds_toArray, List.set_cons_zero, List.set_cons_succ]
      refine take_to (i := 2) (v := ?_) 33 rfl rfl (by kernel_rfl) (by kernel_rfl) (by kernel_rfl) (fun _ _ _ h => h) (Or.inl ⟨by rfl, ?_⟩) hS ?_
      rotate_left
      · intro W hW
        obtain ⟨s0, s1⟩ := hW
        go_simp
        try with_reducible rfl
      simp only [List.setIfInBounds_toArray, List.set_cons_zero, List.set_cons_succ]
      refine take_to (i := 3) (v := ?_) 34 rfl rfl (by kernel_rfl) (by kernel_rfl) (by kernel_rfl) (fun _ _ _ h => h) (Or.inl ⟨by rfl, ?_⟩) hS ?_
      rotate_left
      · intro W hW
        obtain ⟨s0, s1⟩ := hW
        go_simp
        try with_reducible rfl
      simp only [List.setIfInBounds_toArray, List.set_cons_zero, List.set_cons_succ]
      refine take_to (i := 4) (v := ?_) 35 rfl rfl (by kernel_rfl) (by kernel_rfl) (by kernel_rfl) (fun _ _ _ h => h) (Or.inl ⟨by rfl, ?_⟩) hS ?_
      rotate_left
      · intro W hW
        obtain ⟨s0, s1⟩ := hW
        go_simp
        try with_reducible rfl
      simp only [List.setIfInBounds_toArray, List.set_cons_zero, List.set_cons_succ]
      refine take_to (i := 5) (v := ?_) 36 rfl rfl (by kernel_rfl) (by kernel_rfl) (by kernel_rfl) (fun _ _ _ h => h) (Or.inl ⟨by rfl, ?_⟩) hS ?_
      rotate_left
      · intro W hW
        obtain ⟨s0, s1⟩ := hW
        go_simp
        try with_reducible rfl
      simp only [List.setIfInBounds_toArray, List.set_cons_zero, List.set_cons_succ]
      refine take_to (i := 6) (v := ?_) 37 rfl rfl (by kernel_rfl) (by kernel_rfl) (by kernel_rfl) (fun _ _ _ h => h) (Or.inl ⟨by rfl, ?_⟩) hS ?_
      rotate_left
      · intro W hW
        obtain ⟨s0, s1⟩ := hW
        go_simp
        try with_reducible rfl
      simp only [List.setIfInBounds_toArray, List.set_cons_zero, List.set_cons_succ]
      refine take_to (i := 7) (v := ?_) 38 rfl rfl (by kernel_rfl) (by kernel_rfl) (by kernel_rfl) (fun _ _ _ h => h) (Or.inl ⟨by rfl, ?_⟩) hS ?_
      rotate_left
      · intro W hW
        obtain ⟨s0, s1⟩ := hW
        go_simp
        try with_reducible rfl
      simp only [List.setIfInBounds_toArray, List.set_cons_zero, List.set_cons_succ]
      refine wpAnyH_ready (rs := [8]) (by kernel_rfl) (by simp) ?_
      refine AllReadyH.cons rfl (fun K hK => ?_) AllReadyH.nil
      go_simp
      rw [← HWb.out]
      refine hK.out _ _ (HS.out _ hB3) fun _ => ?_
      clear hK K
      refine wpAnyH_ready (rs := [9]) (by kernel_rfl) (by simp) ?_
      refine AllReadyH.cons rfl (fun K hK => ?_) AllReadyH.nil
      go_simp
      refine (concat_three w2.heap.size _ _ _ p cap no co (n - p - 1) 0 (xs.take p) _ _ Wb q0.out q1.out q2.out ((hr.pre p hp).below (ext_trans hbw2 hB3)) (hown2.row.below hB3) (hrest.below (ext_trans hbw2 hB3)) (by omega)).mono ?_
      rintro e w4 ⟨so4, co4, rfl, hown4, hb4⟩
      have hB4 := ext_trans hB3 hb4
      refine hK.out _ _ (HS.out _ hB4) fun _ => ?_
      clear hK K
      refine take_to (i := 10) (v := ?_) 41 rfl rfl (by kernel_rfl) (by kernel_rfl) (by kernel_rfl) (fun _ _ _ h => h) (Or.inl ⟨by rfl, ?_⟩) (HS.out _ hB4) ?_
      rotate_left
      · intro W hW
        obtain ⟨s0, s1⟩ := hW
        go_simp
        try with_reducible rfl
      simp only [List.setIfInBounds_toArray, List.set_cons_zero, List.set_cons_succ]
      have hR4 : w4.heap[w.heap.size + 1]? = some (.cells #[.int .u8 0, .slice none 0 0] 24 (0, 0)) := (hB4.block _ hRlt).trans hR2
      have r0 : w4.cell? ⟨w.heap.size + 1, 0, none⟩ = some (.int .u8 0) := cell_of_heap hR4 0 _ rfl
      have r1 : w4.cell? ⟨w.heap.size + 1, 1, none⟩ = some (.slice none 0 0) := cell_of_heap hR4 1 _ rfl
      have f0 : w4.frozen? ⟨w.heap.size + 1, 0, none⟩ = false := frozen_of_row w4 _ 0 _ 24 hR4
      have f1 : w4.frozen? ⟨w.heap.size + 1, 1, none⟩ = false := frozen_of_row w4 _ 1 _ 24 hR4
      have hres := ret_store (D := d) hR4 (show w.heap.size ≤ w.heap.size + 1 by omega) (Nat.lt_of_lt_of_le hRlt hB3.size) (ext_trans hbw2 hB4) hown4
      have hS4 := HS.out _ hB4
      refine wpAnyH_ready (rs := [11]) (by kernel_rfl) (by simp) ?_
      refine AllReadyH.cons rfl (fun K hK => ?_) AllReadyH.nil
      go_simp
      refine hK.out _ _ ⟨by rw [World.cell?_setCell_far _ _ _ _ (Ne.symm hRne), World.cell?_setCell_far _ _ _ _ (Ne.symm hRne)]; exact hS4.1, by rw [World.cell?_setCell_far _ _ _ _ (Ne.symm hRne), World.cell?_setCell_far _ _ _ _ (Ne.symm hRne)]; exact hS4.2⟩ fun _ => ?_
      clear hK K
      refine wpAnyH_done (by kernel_rfl) ?_ _
      refine NoPanic.normal ?_
      go_wp2_with fail
      obtain ⟨e1, e2, e3⟩ := hres
      try simp only [Exit.inBlock, Exit.then]
      refine bodyPost_ret (ret_lab rfl _ _ (w.heap.size + 1) d so4 _ co4 rfl e1) rfl ?_
      exact ⟨so4, _, co4, _, rfl, e2, e3, HP.out.1, HP.out.2, by omega⟩
    · have hrest : RowG PE w (some ⟨b, off + p * 2 + 2, none⟩) (n - p - 1) (cap - p - 1) (xs.drop (p + 1)) := by
        have := hr.tail (p + 1) (by omega)
        rw [show off + (p + 1) * PE.k = off + p * 2 + 2 by simp [PE]; omega, show n - (p + 1) = n - p - 1 by omega, show cap - (p + 1) = cap - p - 1 by omega] at this
        exact this
      go_wp2_with fail
      refine (appendUnlike_any none 0 0 [] c lev d ⟨hc, hlev⟩ w1 w1.heap.size (Nat.le_refl _) (OwnG.of_nil _ _ _ _) (by omega)).mono ?_
      rintro e w2 ⟨so, co, no, rfl, hown2, hno2, hg2⟩
      rw [List.nil_append] at hown2
      have hb2 : Below w1.heap.size w1 w2 := below_of_grown hg2 (Nat.le_refl _) (fun x hx => by simp [Value.ownBlock] at hx)
      have hbw2 := ext_trans hbw hb2
      have k0' : w2.cell? ⟨w.heap.size, 0, none⟩ = some (.int .u8 d) := by rw [hb2.cell (lt_of_cell k0)]; exact k0
      have k1' : w2.cell? ⟨w.heap.size, 1, none⟩ = some (.slice (some ⟨b, off, none⟩) n cap) := by rw [hb2.cell (lt_of_cell k1)]; exact k1
      have hR2 : w2.heap[w.heap.size + 1]? = some (.cells #[.int .u8 0, .slice none 0 0] 24 (0, 0)) := (hb2.block _ (Array.getElem?_eq_some_iff.1 hR1).1).trans hR1
      have hRne : w.heap.size ≠ w.heap.size + 1 := by omega
      have hRlt := (Array.getElem?_eq_some_iff.1 hR2).1
      obtain ⟨Wb, hWb⟩ : ∃ x, x = (w2.alloc (.cells #[.slice (some ⟨b, off, none⟩) p cap, .slice so no co, .slice (some ⟨b, off + p * 2 + 2, none⟩) (n - p - 1) (cap - p - 1)] 22)).drew := ⟨_, rfl⟩
      have HWb : Hid (Wb = (w2.alloc (.cells #[.slice (some ⟨b, off, none⟩) p cap, .slice so no co, .slice (some ⟨b, off + p * 2 + 2, none⟩) (n - p - 1) (cap - p - 1)] 22)).drew) := hWb
      have hB3 : Below w2.heap.size w2 Wb := hWb ▸ (below_alloc _ _).drew
      have q0 : Hid (Wb.cell? ⟨w2.heap.size, 0, none⟩ = some (.slice (some ⟨b, off, none⟩) p cap)) := by rw [hWb]; exact cell_of_heap (heap_new_at w2 _ _ rfl) 0 _ rfl
      have q1 : Hid (Wb.cell? ⟨w2.heap.size, 1, none⟩ = some (.slice so no co)) := by rw [hWb]; exact cell_of_heap (heap_new_at w2 _ _ rfl) 1 _ rfl
      have q2 : Hid (Wb.cell? ⟨w2.heap.size, 2, none⟩ = some (.slice (some ⟨b, off + p * 2 + 2, none⟩) (n - p - 1) (cap - p - 1))) := by rw [hWb]; exact cell_of_heap (heap_new_at w2 _ _ rfl) 2 _ rfl
      clear hWb
      have HS : Hid (∀ W, Below w2.heap.size w2 W → (fun W => W.cell? ⟨w.heap.size, 0, none⟩ = some (.int .u8 d) ∧ W.cell? ⟨w.heap.size, 1, none⟩ = some (.slice (some ⟨b, off, none⟩) n cap)) W) := fun W h => ⟨by rw [h.cell (lt_of_cell k0')]; exact k0', by rw [h.cell (lt_of_cell k1')]; exact k1'⟩
      go_wp2_with fail
      refine wp_region_noPanic ?_
      refine wp_region_held_drew (S := fun W => W.cell? ⟨w.heap.size, 0, none⟩ = some (.int .u8 d) ∧ W.cell? ⟨w.heap.size, 1, none⟩ = some (.slice (some ⟨b, off, none⟩) n cap)) (by kernel_rfl) (HS.out _ (ext_drew _)) fun hS => ?_
      refine take_to (i := 0) (v := ?_) 31 rfl rfl (by kernel_rfl) (by kernel_rfl) (by kernel_rfl) (fun _ _ _ h => h) (Or.inl ⟨by rfl, ?_⟩) hS ?_
      rotate_left
      · intro W hW
        obtain ⟨s0, s1⟩ := hW
        go_simp
        try with_reducible rfl
      simp only [List.setIfInBounds_toArray, List.set_cons_zero, List.set_cons_succ]
      refine take_to (i := 1) (v := ?_) 32 rfl rfl (by kernel_rfl) (by kernel_rfl) (by kernel_rfl) (fun _ _ _ h => h) (Or.inl ⟨by rfl, ?_⟩) hS ?_
      rotate_left
      · intro W hW
        obtain ⟨s0, s1⟩ := hW
        go_simp
        try with_reducible rfl
      simp only [List.setIfInBounds_toArray, List.set_cons_zero, List.set_cons_succ]
      refine take_to (i := 2) (v := ?_) 33 rfl rfl (by kernel_rfl) (by kernel_rfl) (by kernel_rfl) (fun _ _ _ h => h) (Or.inl ⟨by rfl, ?_⟩) hS ?_
      rotate_left
      · intro W hW
        obtain ⟨s0, s1⟩ := hW
        go_simp
        try with_reducible rfl
      simp only [List.setIfInBounds_toArray, List.set_cons_zero, List.set_cons_succ]
      refine take_to (i := 3) (v := ?_) 34 rfl rfl (by kernel_rfl) (by kernel_rfl) (by kernel_rfl) (fun _ _ _ h => h) (Or.inl ⟨by rfl, ?_⟩) hS ?_
      rotate_left
      · intro W hW
        obtain ⟨s0, s1⟩ := hW
        go_simp
        try with_reducible rfl
      simp only [List.setIfInBounds_toArray, List.set_cons_zero, List.set_cons_succ]
      refine take_to (i := 4) (v := ?_) 35 rfl rfl (by kernel_rfl) (by kernel_rfl) (by kernel_rfl) (fun _ _ _ h => h) (Or.inl ⟨by rfl, ?_⟩) hS ?_
      rotate_left
      · intro W hW
        obtain ⟨s0, s1⟩ := hW
        go_simp
        try with_reducible rfl
      simp only [List.setIfInBounds_toArray, List.set_cons_zero, List.set_cons_succ]
      refine take_to (i := 5) (v := ?_) 36 rfl rfl (by kernel_rfl) (by kernel_rfl) (by kernel_rfl) (fun _ _ _ h => h) (Or.inl ⟨by rfl, ?_⟩) hS ?_
      rotate_left
      · intro W hW
        obtain ⟨s0, s1⟩ := hW
        go_simp
        try with_reducible rfl
      simp only [List.setIfInBounds_toArray, List.set_cons_zero, List.set_cons_succ]
      refine take_to (i := 6) (v := ?_) 37 rfl rfl (by kernel_rfl) (by kernel_rfl) (by kernel_rfl) (fun _ _ _ h => h) (Or.inl ⟨by rfl, ?_⟩) hS ?_
      rotate_left
      · intro W hW
        obtain ⟨s0, s1⟩ := hW
        go_simp
        try with_reducible rfl
      simp only [List.setIfInBounds_toArray, List.set_cons_zero, List.set_cons_succ]
      refine take_to (i := 7) (v := ?_) 38 rfl rfl (by kernel_rfl) (by kernel_rfl) (by kernel_rfl) (fun _ _ _ h => h) (Or.inl ⟨by rfl, ?_⟩) hS ?_
      rotate_left
      · intro W hW
        obtain ⟨s0, s1⟩ := hW
        go_simp
        try with_reducible rfl
      simp only [List.setIfInBounds_toArray, List.set_cons_zero, List.set_cons_succ]
      refine wpAnyH_ready (rs := [8]) (by kernel_rfl) (by simp) ?_
      refine AllReadyH.cons rfl (fun K hK => ?_) AllReadyH.nil
      go_simp
      rw [← HWb.out]
      refine hK.out _ _ (HS.out _ hB3) fun _ => ?_
      clear hK K
      refine wpAnyH_ready (rs := [9]) (by kernel_rfl) (by simp) ?_
      refine AllReadyH.cons rfl (fun K hK => ?_) AllReadyH.nil
      go_simp
      refine (concat_three w2.heap.size _ _ _ p cap no co (n - p - 1) (cap - p - 1) (xs.take p) _ _ Wb q0.out q1.out q2.out ((hr.pre p hp).below (ext_trans hbw2 hB3)) (hown2.row.below hB3) (hrest.below (ext_trans hbw2 hB3)) (by omega)).mono ?_
      rintro e w4 ⟨so4, co4, rfl, hown4, hb4⟩
      have hB4 := ext_trans hB3 hb4
      refine hK.out _ _ (HS.out _ hB4) fun _ => ?_
      clear hK K
      refine take_to (i := 10) (v := ?_) 41 rfl rfl (by kernel_rfl) (by kernel_rfl) (by kernel_rfl) (fun _ _ _ h => h) (Or.inl ⟨by rfl, ?_⟩) (HS.out _ hB4) ?_
      rotate_left
      · intro W hW
        obtain ⟨s0, s1⟩ := hW
        go_simp
        try with_reducible rfl
      simp only [List.setIfInBounds_toArray, List.set_cons_zero, List.set_cons_succ]
      have hR4 : w4.heap[w.heap.size + 1]? = some (.cells #[.int .u8 0, .slice none 0 0] 24 (0, 0)) := (hB4.block _ hRlt).trans hR2
      have r0 : w4.cell? ⟨w.heap.size + 1, 0, none⟩ = some (.int .u8 0) := cell_of_heap hR4 0 _ rfl
      have r1 : w4.cell? ⟨w.heap.size + 1, 1, none⟩ = some (.slice none 0 0) := cell_of_heap hR4 1 _ rfl
      have f0 : w4.frozen? ⟨w.heap.size + 1, 0, none⟩ = false := frozen_of_row w4 _ 0 _ 24 hR4
      have f1 : w4.frozen? ⟨w.heap.size + 1, 1, none⟩ = false := frozen_of_row w4 _ 1 _ 24 hR4
      have hres := ret_store (D := d) hR4 (show w.heap.size ≤ w.heap.size + 1 by omega) (Nat.lt_of_lt_of_le hRlt hB3.size) (ext_trans hbw2 hB4) hown4
      have hS4 := HS.out _ hB4
      refine wpAnyH_ready (rs := [11]) (by kernel_rfl) (by simp) ?_
      refine AllReadyH.cons rfl (fun K hK => ?_) AllReadyH.nil
      go_simp
      refine hK.out _ _ ⟨by rw [World.cell?_setCell_far _ _ _ _ (Ne.symm hRne), World.cell?_setCell_far _ _ _ _ (Ne.symm hRne)]; exact hS4.1, by rw [World.cell?_setCell_far _ _ _ _ (Ne.symm hRne), World.cell?_setCell_far _ _ _ _ (Ne.symm hRne)]; exact hS4.2⟩ fun _ => ?_
      clear hK K
      refine wpAnyH_done (by kernel_rfl) ?_ _
      refine NoPanic.normal ?_
      go_wp2_with fail
      obtain ⟨e1, e2, e3⟩ := hres
      try simp only [Exit.inBlock, Exit.then]
      refine bodyPost_ret (ret_lab rfl _ _ (w.heap.size + 1) d so4 _ co4 rfl e1) rfl ?_
      exact ⟨so4, _, co4, _, rfl, e2, e3, HP.out.1, HP.out.2, by omega⟩
end Go.Proofs.Ytdoemkncgfgkhaa
