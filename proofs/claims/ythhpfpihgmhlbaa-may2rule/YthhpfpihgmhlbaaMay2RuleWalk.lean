/- May2Rule walked: it answers true, and turns nothing that was there. -/
import Derived.Test.YthhpfpihgmhlbaaM2Laws
namespace Go.Proofs.Ythhpfpihgmhlbaa
open Go.RowKit

theorem rule_sv (w w1 : World) (x y z : Sv) (W0 : World) (HC : ∀ W, Below W0.heap.size W0 W → W.heap[w.heap.size]? = some (.cells #[.slice x.a1 x.n1 x.c1, .slice x.a2 x.n2 x.c2, .slice x.a3 x.n3 x.c3] 24 (0, 0)) ∧ W.heap[w.heap.size + 1]? = some (.cells #[.slice y.a1 y.n1 y.c1, .slice y.a2 y.n2 y.c2, .slice y.a3 y.n3 y.c3] 24 (0, 0)) ∧ W.heap[w.heap.size + 1 + 1]? = some (.cells #[.slice z.a1 z.n1 z.c1, .slice z.a2 z.n2 z.c2, .slice z.a3 z.n3 z.c3] 24 (0, 0)) ∧ Below w.heap.size w W) (hb : Below W0.heap.size W0 w1) :
    ∀ W, Below ((w1.setCell ⟨w.heap.size + 1, 2, none⟩ (.slice none 0 0)).setCell ⟨w.heap.size + 1 + 1, 2, none⟩ (.slice none 0 0)).heap.size ((w1.setCell ⟨w.heap.size + 1, 2, none⟩ (.slice none 0 0)).setCell ⟨w.heap.size + 1 + 1, 2, none⟩ (.slice none 0 0)) W → (W.cell? ⟨w.heap.size, 0, none⟩ = some (.slice x.a1 x.n1 x.c1) ∧ W.cell? ⟨w.heap.size, 1, none⟩ = some (.slice x.a2 x.n2 x.c2) ∧ W.cell? ⟨w.heap.size, 2, none⟩ = some (.slice x.a3 x.n3 x.c3) ∧ W.cell? ⟨w.heap.size + 1, 0, none⟩ = some (.slice y.a1 y.n1 y.c1) ∧ W.cell? ⟨w.heap.size + 1, 1, none⟩ = some (.slice y.a2 y.n2 y.c2) ∧ W.cell? ⟨w.heap.size + 1, 2, none⟩ = some (.slice none 0 0) ∧ W.cell? ⟨w.heap.size + 1 + 1, 0, none⟩ = some (.slice z.a1 z.n1 z.c1) ∧ W.cell? ⟨w.heap.size + 1 + 1, 1, none⟩ = some (.slice z.a2 z.n2 z.c2) ∧ W.cell? ⟨w.heap.size + 1 + 1, 2, none⟩ = some (.slice none 0 0)) ∧ Below w.heap.size w W := fun W h => by
  obtain ⟨a0, a1, a2, hbw⟩ := HC w1 hb
  have b0 := (heap_else (g := w.heap.size + 1 + 1) (v := .slice none 0 0) (heap_else (g := w.heap.size + 1) (v := .slice none 0 0) a0 (by omega)) (by omega))
  have d0 := (h.block _ (Array.getElem?_eq_some_iff.1 b0).1).trans b0
  have b1 := (heap_else (g := w.heap.size + 1 + 1) (v := .slice none 0 0) (heap_opened a1) (by omega))
  have d1 := (h.block _ (Array.getElem?_eq_some_iff.1 b1).1).trans b1
  have b2 := (heap_opened (heap_else (g := w.heap.size + 1) (v := .slice none 0 0) a2 (by omega)))
  have d2 := (h.block _ (Array.getElem?_eq_some_iff.1 b2).1).trans b2
  have hv : Below w.heap.size w ((w1.setCell ⟨w.heap.size + 1, 2, none⟩ (.slice none 0 0)).setCell ⟨w.heap.size + 1 + 1, 2, none⟩ (.slice none 0 0)) := ((hbw.setCell (by first | exact Nat.le_refl _ | (simp <;> omega)) _).setCell (by first | exact Nat.le_refl _ | (simp <;> omega)) _)
  exact ⟨⟨sv_cell_of_heap d0 0 _ rfl, sv_cell_of_heap d0 1 _ rfl, sv_cell_of_heap d0 2 _ rfl, sv_cell_of_heap d1 0 _ rfl, sv_cell_of_heap d1 1 _ rfl, sv_cell_of_heap d1 2 _ rfl, sv_cell_of_heap d2 0 _ rfl, sv_cell_of_heap d2 1 _ rfl, sv_cell_of_heap d2 2 _ rfl⟩, ext_trans hv h⟩

set_option maxHeartbeats 8000000 in
theorem may2Rule_walk (x y z : Sv) (w : World) (hx : x.In w) (hy : y.In w) (hz : z.In w) :
    Calls Try.prog 4 #[.agg #[.slice x.a1 x.n1 x.c1, .slice x.a2 x.n2 x.c2, .slice x.a3 x.n3 x.c3], .agg #[.slice y.a1 y.n1 y.c1, .slice y.a2 y.n2 y.c2, .slice y.a3 y.n3 y.c3], .agg #[.slice z.a1 z.n1 z.c1, .slice z.a2 z.n2 z.c2, .slice z.a3 z.n3 z.c3]] w fun e w' => e = .returned (.bool true) ∧ Below w.heap.size w w' := by
  have HC : Hid _ := heap_boxes3 w x y z
  go_enter Try.func4, Try.ntmps4
  go_wp2_with fail
  refine (begun10_true _).mono ?_
  rintro e w1 ⟨rfl, hb1⟩
  have HV : Hid _ := rule_sv w w1 x y z _ HC.out hb1
  obtain ⟨a0, a1, a2, _⟩ := HC.out _ hb1
  clear hb1 HC
  have f1 : w1.frozen? ⟨w.heap.size + 1, 2, none⟩ = false := frozen_of_row w1 _ 2 _ 24 a1
  have f2 : w1.frozen? ⟨w.heap.size + 1 + 1, 2, none⟩ = false := frozen_of_row w1 _ 2 _ 24 a2
  have c00 := sv_cell_of_heap a0 0 _ rfl
  have c01 := sv_cell_of_heap a0 1 _ rfl
  have c02 := sv_cell_of_heap a0 2 _ rfl
  have c10 := sv_cell_of_heap a1 0 _ rfl
  have c11 := sv_cell_of_heap a1 1 _ rfl
  have c12 := sv_cell_of_heap a1 2 _ rfl
  have c20 := sv_cell_of_heap a2 0 _ rfl
  have c21 := sv_cell_of_heap a2 1 _ rfl
  have c22 := sv_cell_of_heap a2 2 _ rfl
  clear a0 a1 a2
  go_wp2_with fail
  clear c00 c01 c02 c10 c11 c12 c20 c21 c22 f1 f2
  obtain ⟨V, hV⟩ : ∃ V, V = ((w1.setCell ⟨w.heap.size + 1, 2, none⟩ (.slice none 0 0)).setCell ⟨w.heap.size + 1 + 1, 2, none⟩ (.slice none 0 0)) := ⟨_, rfl⟩
  rw [← hV] at HV ⊢
  clear hV
  have hu0 := Below.refl V.heap.size V
  obtain ⟨_, bw⟩ := HV.out _ hu0
  obtain ⟨m0, hm0⟩ : ∃ q, mayV x.xs x.ys x.zs = q := ⟨_, rfl⟩
  have HM0 : Hid (mayV x.xs x.ys x.zs = m0) := hm0
  clear hm0
  refine (refMay_is m0 (hx.below bw) HM0).mono ?_
  rintro e u1 ⟨rfl, hu1⟩
  replace hu1 := ext_trans hu0 hu1
  clear hu0 bw
  obtain ⟨⟨c00, c01, c02, c10, c11, c12, c20, c21, c22⟩, bw⟩ := HV.out _ hu1
  cases m0
  · go_wp2_with fail
    go_ret
    exact ⟨rfl, bw⟩
  have HP0 : Hid (MayP x.xs x.ys x.zs) := (mayV_iff _ _ _).1 HM0.out
  have hl0 : x.n1 + x.n2 + x.n3 ≤ 16 := HP0.out.len (hx.below bw)
  clear HM0
  go_wp2_with fail
  clear c00 c01 c02 c10 c11 c12 c20 c21 c22 bw
  obtain ⟨_, bw⟩ := HV.out _ hu1
  obtain ⟨m1, hm1⟩ : ∃ q, mayV y.opened.xs y.opened.ys y.opened.zs = q := ⟨_, rfl⟩
  have HM1 : Hid (mayV y.opened.xs y.opened.ys y.opened.zs = m1) := hm1
  clear hm1
  refine (refMay_is m1 (hy.below bw).opened HM1).mono ?_
  rintro e u2 ⟨rfl, hu2⟩
  replace hu2 := ext_trans hu1 hu2
  clear hu1 bw
  obtain ⟨⟨c00, c01, c02, c10, c11, c12, c20, c21, c22⟩, bw⟩ := HV.out _ hu2
  cases m1
  · go_wp2_with fail
    go_ret
    exact ⟨rfl, bw⟩
  have HP1 : Hid (MayP y.opened.xs y.opened.ys y.opened.zs) := (mayV_iff _ _ _).1 HM1.out
  have hl1 : y.n1 + y.n2 ≤ 16 := HP1.out.len (hy.below bw).opened
  clear HM1
  go_wp2_with fail
  clear c00 c01 c02 c10 c11 c12 c20 c21 c22 bw
  obtain ⟨_, bw⟩ := HV.out _ hu2
  obtain ⟨m2, hm2⟩ : ∃ q, mayV z.opened.xs z.opened.ys z.opened.zs = q := ⟨_, rfl⟩
  have HM2 : Hid (mayV z.opened.xs z.opened.ys z.opened.zs = m2) := hm2
  clear hm2
  refine (refMay_is m2 (hz.below bw).opened HM2).mono ?_
  rintro e u3 ⟨rfl, hu3⟩
  replace hu3 := ext_trans hu2 hu3
  clear hu2 bw
  obtain ⟨⟨c00, c01, c02, c10, c11, c12, c20, c21, c22⟩, bw⟩ := HV.out _ hu3
  cases m2
  · go_wp2_with fail
    go_ret
    exact ⟨rfl, bw⟩
  have HP2 : Hid (MayP z.opened.xs z.opened.ys z.opened.zs) := (mayV_iff _ _ _).1 HM2.out
  have hl2 : z.n1 + z.n2 ≤ 16 := HP2.out.len (hz.below bw).opened
  clear HM2
  go_wp2_with fail
  clear c00 c01 c02 c10 c11 c12 c20 c21 c22 bw
  obtain ⟨q1, Hq1⟩ := bool_for (SeesP x y.opened)
  obtain ⟨q2, Hq2⟩ := bool_for (TurnsP x z.opened)
  obtain ⟨_, bw⟩ := HV.out _ hu3
  refine (sees2_is q1 Hq1 _ (Sm.of (hx.below bw) HP0.out) (Sm.of (hy.below bw).opened HP1.out)).mono ?_
  rintro e u4 ⟨rfl, hu4⟩
  replace hu4 := ext_trans hu3 hu4
  clear hu3 bw
  obtain ⟨⟨c00, c01, c02, c10, c11, c12, c20, c21, c22⟩, bw⟩ := HV.out _ hu4
  cases q1
  · go_wp2_with fail
    go_ret
    exact ⟨rfl, bw⟩
  go_wp2_with fail
  clear c00 c01 c02 c10 c11 c12 c20 c21 c22 bw
  obtain ⟨_, bw⟩ := HV.out _ hu4
  refine (turns2_is q2 Hq2 _ (Sm.of (hx.below bw) HP0.out) (Sm.of (hz.below bw).opened HP2.out)).mono ?_
  rintro e u5 ⟨rfl, hu5⟩
  replace hu5 := ext_trans hu4 hu5
  clear hu4 bw
  obtain ⟨⟨c00, c01, c02, c10, c11, c12, c20, c21, c22⟩, bw⟩ := HV.out _ hu5
  cases q2
  · go_wp2_with fail
    go_ret
    exact ⟨rfl, bw⟩
  have HS : Hid (SeesP x y.opened) := Hq1.out.1 (by trivial)
  have HT : Hid (TurnsP x z.opened) := Hq2.out.1 (by trivial)
  clear Hq1 Hq2
  go_wp2_with fail
  clear c00 c01 c02 c10 c11 c12 c20 c21 c22 bw
  have hB5 := ext_trans hu5 (ext_drew u5)
  refine wp_region_noPanic ?_
  refine wp_region_held_drew (S := fun W => Below V.heap.size V W) (by kernel_rfl) hB5 fun hS => ?_
  refine take_to (i := 0) (v := ?_) 36 rfl rfl (by kernel_rfl) (by kernel_rfl) (by kernel_rfl) (fun _ _ _ h => h) (Or.inl ⟨by rfl, ?_⟩) hS ?_
  rotate_left
  · intro W hW
    obtain ⟨⟨c00, c01, c02, c10, c11, c12, c20, c21, c22⟩, _⟩ := HV.out W hW
    go_simp
    try with_reducible rfl
  simp only [List.setIfInBounds_toArray, List.set_cons_zero, List.set_cons_succ]
  refine take_to (i := 1) (v := ?_) 37 rfl rfl (by kernel_rfl) (by kernel_rfl) (by kernel_rfl) (fun _ _ _ h => h) (Or.inl ⟨by rfl, ?_⟩) hS ?_
  rotate_left
  · intro W hW
    obtain ⟨⟨c00, c01, c02, c10, c11, c12, c20, c21, c22⟩, _⟩ := HV.out W hW
    go_simp
    try with_reducible rfl
  simp only [List.setIfInBounds_toArray, List.set_cons_zero, List.set_cons_succ]
  refine take_to (i := 2) (v := ?_) 38 rfl rfl (by kernel_rfl) (by kernel_rfl) (by kernel_rfl) (fun _ _ _ h => h) (Or.inl ⟨by rfl, ?_⟩) hS ?_
  rotate_left
  · intro W hW
    obtain ⟨⟨c00, c01, c02, c10, c11, c12, c20, c21, c22⟩, _⟩ := HV.out W hW
    go_simp
    try with_reducible rfl
  simp only [List.setIfInBounds_toArray, List.set_cons_zero, List.set_cons_succ]
  refine take_to (i := 3) (v := ?_) 39 rfl rfl (by kernel_rfl) (by kernel_rfl) (by kernel_rfl) (fun _ _ _ h => h) (Or.inl ⟨by rfl, ?_⟩) hS ?_
  rotate_left
  · intro W hW
    obtain ⟨⟨c00, c01, c02, c10, c11, c12, c20, c21, c22⟩, _⟩ := HV.out W hW
    go_simp
    try with_reducible rfl
  simp only [List.setIfInBounds_toArray, List.set_cons_zero, List.set_cons_succ]
  refine take_to (i := 4) (v := ?_) 40 rfl rfl (by kernel_rfl) (by kernel_rfl) (by kernel_rfl) (fun _ _ _ h => h) (Or.inl ⟨by rfl, ?_⟩) hS ?_
  rotate_left
  · intro W hW
    obtain ⟨⟨c00, c01, c02, c10, c11, c12, c20, c21, c22⟩, _⟩ := HV.out W hW
    go_simp
    try with_reducible rfl
  simp only [List.setIfInBounds_toArray, List.set_cons_zero, List.set_cons_succ]
  refine take_to (i := 5) (v := ?_) 41 rfl rfl (by kernel_rfl) (by kernel_rfl) (by kernel_rfl) (fun _ _ _ h => h) (Or.inl ⟨by rfl, ?_⟩) hS ?_
  rotate_left
  · intro W hW
    obtain ⟨⟨c00, c01, c02, c10, c11, c12, c20, c21, c22⟩, _⟩ := HV.out W hW
    go_simp
    try with_reducible rfl
  simp only [List.setIfInBounds_toArray, List.set_cons_zero, List.set_cons_succ]
  refine take_to (i := 7) (v := ?_) 43 rfl rfl (by kernel_rfl) (by kernel_rfl) (by kernel_rfl) (fun _ _ _ h => h) (Or.inl ⟨by rfl, ?_⟩) hS ?_
  rotate_left
  · intro W hW
    obtain ⟨⟨c00, c01, c02, c10, c11, c12, c20, c21, c22⟩, _⟩ := HV.out W hW
    go_simp
    try with_reducible rfl
  simp only [List.setIfInBounds_toArray, List.set_cons_zero, List.set_cons_succ]
  refine take_to (i := 8) (v := ?_) 44 rfl rfl (by kernel_rfl) (by kernel_rfl) (by kernel_rfl) (fun _ _ _ h => h) (Or.inl ⟨by rfl, ?_⟩) hS ?_
  rotate_left
  · intro W hW
    obtain ⟨⟨c00, c01, c02, c10, c11, c12, c20, c21, c22⟩, _⟩ := HV.out W hW
    go_simp
    try with_reducible rfl
  simp only [List.setIfInBounds_toArray, List.set_cons_zero, List.set_cons_succ]
  refine wpAnyH_ready (rs := [6]) (by kernel_rfl) (by simp) ?_
  refine AllReadyH.cons rfl (fun K hK => ?_) AllReadyH.nil
  go_simp
  obtain ⟨_, bw⟩ := HV.out _ hB5
  refine (refLess_in y.a1 x.a3 y.n1 y.c1 x.n3 x.c3 y.xs x.zs _ (hy.r1.below bw) (hx.r3.below bw) (by omega)).mono ?_
  rintro e v1 ⟨so1, k1, co1, l1, rfl, hrow1, hk1, HL1, hv1⟩
  replace hv1 := ext_trans hB5 hv1
  clear bw
  refine hK.out _ _ hv1 fun hS => ?_
  clear hK K
  refine wpAnyH_ready (rs := [9]) (by kernel_rfl) (by simp) ?_
  refine AllReadyH.cons rfl (fun K hK => ?_) AllReadyH.nil
  go_simp
  obtain ⟨_, bw⟩ := HV.out _ hv1
  refine (refIn_true so1 z.a1 k1 co1 z.n1 z.c1 l1 z.xs _ hrow1 (hz.r1.below bw) (by omega) (fun u hu => ((HS.out.1 u (HL1.out u hu).1).elim (HT.out.1 u) fun h => absurd h (HL1.out u hu).2))).mono ?_
  rintro e v2 ⟨rfl, hv2⟩
  replace hv2 := ext_trans hv1 hv2
  clear bw
  refine hK.out _ _ hv2 fun hS => ?_
  clear hK K
  refine take_to (i := 10) (v := ?_) 46 rfl rfl (by kernel_rfl) (by kernel_rfl) (by kernel_rfl) (fun _ _ _ h => h) (Or.inl ⟨by rfl, ?_⟩) hS ?_
  rotate_left
  · intro W hW
    obtain ⟨⟨c00, c01, c02, c10, c11, c12, c20, c21, c22⟩, _⟩ := HV.out W hW
    go_simp
    try with_reducible rfl
  simp only [List.setIfInBounds_toArray, List.set_cons_zero, List.set_cons_succ]
  refine take_to (i := 11) (v := ?_) 47 rfl rfl (by kernel_rfl) (by kernel_rfl) (by kernel_rfl) (fun _ _ _ h => h) (Or.inl ⟨by rfl, ?_⟩) hS ?_
  rotate_left
  · intro W hW
    obtain ⟨⟨c00, c01, c02, c10, c11, c12, c20, c21, c22⟩, _⟩ := HV.out W hW
    go_simp
    try with_reducible rfl
  simp only [List.setIfInBounds_toArray, List.set_cons_zero, List.set_cons_succ]
  refine take_to (i := 12) (v := ?_) 48 rfl rfl (by kernel_rfl) (by kernel_rfl) (by kernel_rfl) (fun _ _ _ h => h) (Or.inl ⟨by rfl, ?_⟩) hS ?_
  rotate_left
  · intro W hW
    obtain ⟨⟨c00, c01, c02, c10, c11, c12, c20, c21, c22⟩, _⟩ := HV.out W hW
    go_simp
    try with_reducible rfl
  simp only [List.setIfInBounds_toArray, List.set_cons_zero, List.set_cons_succ]
  refine take_to (i := 13) (v := ?_) 49 rfl rfl (by kernel_rfl) (by kernel_rfl) (by kernel_rfl) (fun _ _ _ h => h) (Or.inl ⟨by rfl, ?_⟩) hS ?_
  rotate_left
  · intro W hW
    obtain ⟨⟨c00, c01, c02, c10, c11, c12, c20, c21, c22⟩, _⟩ := HV.out W hW
    go_simp
    try with_reducible rfl
  simp only [List.setIfInBounds_toArray, List.set_cons_zero, List.set_cons_succ]
  refine take_to (i := 14) (v := ?_) 50 rfl rfl (by kernel_rfl) (by kernel_rfl) (by kernel_rfl) (fun _ _ _ h => h) (Or.inl ⟨by rfl, ?_⟩) hS ?_
  rotate_left
  · intro W hW
    obtain ⟨⟨c00, c01, c02, c10, c11, c12, c20, c21, c22⟩, _⟩ := HV.out W hW
    go_simp
    try with_reducible rfl
  simp only [List.setIfInBounds_toArray, List.set_cons_zero, List.set_cons_succ]
  refine take_to (i := 15) (v := ?_) 51 rfl rfl (by kernel_rfl) (by kernel_rfl) (by kernel_rfl) (fun _ _ _ h => h) (Or.inl ⟨by rfl, ?_⟩) hS ?_
  rotate_left
  · intro W hW
    obtain ⟨⟨c00, c01, c02, c10, c11, c12, c20, c21, c22⟩, _⟩ := HV.out W hW
    go_simp
    try with_reducible rfl
  simp only [List.setIfInBounds_toArray, List.set_cons_zero, List.set_cons_succ]
  refine take_to (i := 16) (v := ?_) 52 rfl rfl (by kernel_rfl) (by kernel_rfl) (by kernel_rfl) (fun _ _ _ h => h) (Or.inl ⟨by rfl, ?_⟩) hS ?_
  rotate_left
  · intro W hW
    obtain ⟨⟨c00, c01, c02, c10, c11, c12, c20, c21, c22⟩, _⟩ := HV.out W hW
    go_simp
    try with_reducible rfl
  simp only [List.setIfInBounds_toArray, List.set_cons_zero, List.set_cons_succ]
  refine take_to (i := 18) (v := ?_) 54 rfl rfl (by kernel_rfl) (by kernel_rfl) (by kernel_rfl) (fun _ _ _ h => h) (Or.inl ⟨by rfl, ?_⟩) hS ?_
  rotate_left
  · intro W hW
    obtain ⟨⟨c00, c01, c02, c10, c11, c12, c20, c21, c22⟩, _⟩ := HV.out W hW
    go_simp
    try with_reducible rfl
  simp only [List.setIfInBounds_toArray, List.set_cons_zero, List.set_cons_succ]
  refine take_to (i := 19) (v := ?_) 55 rfl rfl (by kernel_rfl) (by kernel_rfl) (by kernel_rfl) (fun _ _ _ h => h) (Or.inl ⟨by rfl, ?_⟩) hS ?_
  rotate_left
  · intro W hW
    obtain ⟨⟨c00, c01, c02, c10, c11, c12, c20, c21, c22⟩, _⟩ := HV.out W hW
    go_simp
    try with_reducible rfl
  simp only [List.setIfInBounds_toArray, List.set_cons_zero, List.set_cons_succ]
  refine wpAnyH_ready (rs := [17]) (by kernel_rfl) (by simp) ?_
  refine AllReadyH.cons rfl (fun K hK => ?_) AllReadyH.nil
  go_simp
  obtain ⟨_, bw⟩ := HV.out _ hv2
  refine (refLess_in z.a2 x.a3 z.n2 z.c2 x.n3 x.c3 z.ys x.zs _ (hz.r2.below bw) (hx.r3.below bw) (by omega)).mono ?_
  rintro e v3 ⟨so2, k2, co2, l2, rfl, hrow2, hk2, HL2, hv3⟩
  replace hv3 := ext_trans hv2 hv3
  clear bw
  refine hK.out _ _ hv3 fun hS => ?_
  clear hK K
  refine wpAnyH_ready (rs := [20]) (by kernel_rfl) (by simp) ?_
  refine AllReadyH.cons rfl (fun K hK => ?_) AllReadyH.nil
  go_simp
  obtain ⟨_, bw⟩ := HV.out _ hv3
  refine (refIn_true so2 y.a2 k2 co2 y.n2 y.c2 l2 y.ys _ hrow2 (hy.r2.below bw) (by omega) (fun u hu => HS.out.2 u ((HT.out.2 u (HL2.out u hu).1).elim id fun h => absurd h (HL2.out u hu).2))).mono ?_
  rintro e v4 ⟨rfl, hv4⟩
  replace hv4 := ext_trans hv3 hv4
  clear bw
  refine hK.out _ _ hv4 fun hS => ?_
  clear hK K
  refine take_to (i := 21) (v := ?_) 57 rfl rfl (by kernel_rfl) (by kernel_rfl) (by kernel_rfl) (fun _ _ _ h => h) (Or.inl ⟨by rfl, ?_⟩) hS ?_
  rotate_left
  · intro W hW
    obtain ⟨⟨c00, c01, c02, c10, c11, c12, c20, c21, c22⟩, _⟩ := HV.out W hW
    go_simp
    try with_reducible rfl
  simp only [List.setIfInBounds_toArray, List.set_cons_zero, List.set_cons_succ]
  refine take_to (i := 22) (v := ?_) 6 rfl rfl (by kernel_rfl) (by kernel_rfl) (by kernel_rfl) (fun _ _ _ h => h) (Or.inl ⟨by rfl, ?_⟩) hS ?_
  rotate_left
  · intro W hW
    obtain ⟨⟨c00, c01, c02, c10, c11, c12, c20, c21, c22⟩, _⟩ := HV.out W hW
    go_simp
    try with_reducible rfl
  simp only [List.setIfInBounds_toArray, List.set_cons_zero, List.set_cons_succ]
  refine wpAnyH_done (by kernel_rfl) ?_ _
  refine NoPanic.normal ?_
  obtain ⟨_, bw⟩ := HV.out _ hv4
  go_wp2_with fail
  go_ret
  exact ⟨rfl, bw⟩
end Go.Proofs.Ythhpfpihgmhlbaa
