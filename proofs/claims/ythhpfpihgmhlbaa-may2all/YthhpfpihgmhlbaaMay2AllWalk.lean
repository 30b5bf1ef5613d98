/- May2All walked: it answers true, and turns nothing that was there. -/
import Derived.Test.YthhpfpihgmhlbaaM2Ref
namespace Go.Proofs.Ythhpfpihgmhlbaa
open Go.RowKit

theorem mall_sv (w w1 : World) (x y : Sv) (W0 : World) (HC : ∀ W, Below W0.heap.size W0 W → W.heap[w.heap.size]? = some (.cells #[.slice x.a1 x.n1 x.c1, .slice x.a2 x.n2 x.c2, .slice x.a3 x.n3 x.c3] 24 (0, 0)) ∧ W.heap[w.heap.size + 1]? = some (.cells #[.slice y.a1 y.n1 y.c1, .slice y.a2 y.n2 y.c2, .slice y.a3 y.n3 y.c3] 24 (0, 0)) ∧ Below w.heap.size w W) (hb : Below W0.heap.size W0 w1) :
    ∀ W, Below (w1.setCell ⟨w.heap.size + 1, 2, none⟩ (.slice none 0 0)).heap.size (w1.setCell ⟨w.heap.size + 1, 2, none⟩ (.slice none 0 0)) W → (W.cell? ⟨w.heap.size, 0, none⟩ = some (.slice x.a1 x.n1 x.c1) ∧ W.cell? ⟨w.heap.size, 1, none⟩ = some (.slice x.a2 x.n2 x.c2) ∧ W.cell? ⟨w.heap.size, 2, none⟩ = some (.slice x.a3 x.n3 x.c3) ∧ W.cell? ⟨w.heap.size + 1, 0, none⟩ = some (.slice y.a1 y.n1 y.c1) ∧ W.cell? ⟨w.heap.size + 1, 1, none⟩ = some (.slice y.a2 y.n2 y.c2) ∧ W.cell? ⟨w.heap.size + 1, 2, none⟩ = some (.slice none 0 0)) ∧ Below w.heap.size w W := fun W h => by
  obtain ⟨a0, a1, hbw⟩ := HC w1 hb
  have b0 := (heap_else (g := w.heap.size + 1) (v := .slice none 0 0) a0 (by omega))
  have d0 := (h.block _ (Array.getElem?_eq_some_iff.1 b0).1).trans b0
  have b1 := (heap_opened a1)
  have d1 := (h.block _ (Array.getElem?_eq_some_iff.1 b1).1).trans b1
  have hv : Below w.heap.size w (w1.setCell ⟨w.heap.size + 1, 2, none⟩ (.slice none 0 0)) := (hbw.setCell (by first | exact Nat.le_refl _ | (simp <;> omega)) _)
  exact ⟨⟨sv_cell_of_heap d0 0 _ rfl, sv_cell_of_heap d0 1 _ rfl, sv_cell_of_heap d0 2 _ rfl, sv_cell_of_heap d1 0 _ rfl, sv_cell_of_heap d1 1 _ rfl, sv_cell_of_heap d1 2 _ rfl⟩, ext_trans hv h⟩

set_option maxHeartbeats 8000000 in
theorem may2All_walk (x y : Sv) (w : World) (hx : x.In w) (hy : y.In w) :
    Calls Try.prog 3 #[.agg #[.slice x.a1 x.n1 x.c1, .slice x.a2 x.n2 x.c2, .slice x.a3 x.n3 x.c3], .agg #[.slice y.a1 y.n1 y.c1, .slice y.a2 y.n2 y.c2, .slice y.a3 y.n3 y.c3]] w fun e w' => e = .returned (.bool true) ∧ Below w.heap.size w w' := by
  have HC : Hid _ := heap_boxes2 w x y
  have HD : Hid _ := two_sv w x y
  go_enter Try.func3, Try.ntmps3
  go_wp2_with fail
  obtain ⟨W0, hW0⟩ : ∃ V, V = (w.alloc (Obj.cells #[.slice x.a1 x.n1 x.c1, .slice x.a2 x.n2 x.c2, .slice x.a3 x.n3 x.c3] 24)).alloc (Obj.cells #[.slice y.a1 y.n1 y.c1, .slice y.a2 y.n2 y.c2, .slice y.a3 y.n3 y.c3] 24) := ⟨_, rfl⟩
  rw [← hW0] at HC HD ⊢
  clear hW0
  refine (begun10_true _).mono ?_
  rintro e w1 ⟨rfl, hb1⟩
  obtain ⟨c00, c01, c02, c10, c11, c12, bw⟩ := HD.out _ hb1
  go_wp2_with fail
  clear c00 c01 c02 c10 c11 c12 bw
  obtain ⟨m0, hm0⟩ : ∃ q, mayV x.xs x.ys x.zs = q := ⟨_, rfl⟩
  have HM0 : Hid (mayV x.xs x.ys x.zs = m0) := hm0
  clear hm0
  obtain ⟨_, _, _, _, _, _, bw⟩ := HD.out _ hb1
  refine (refMay_is m0 (hx.below bw) HM0).mono ?_
  rintro e w2 ⟨rfl, hb2⟩
  replace hb2 := ext_trans hb1 hb2
  clear hb1 bw
  obtain ⟨c00, c01, c02, c10, c11, c12, bw⟩ := HD.out _ hb2
  cases m0
  · go_wp2_with fail
    go_ret
    exact ⟨rfl, bw⟩
  have HP0 : Hid (MayP x.xs x.ys x.zs) := (mayV_iff _ _ _).1 HM0.out
  clear HM0
  go_wp2_with fail
  clear c00 c01 c02 c10 c11 c12 bw
  obtain ⟨m1, hm1⟩ : ∃ q, mayV y.xs y.ys y.zs = q := ⟨_, rfl⟩
  have HM1 : Hid (mayV y.xs y.ys y.zs = m1) := hm1
  clear hm1
  obtain ⟨_, _, _, _, _, _, bw⟩ := HD.out _ hb2
  refine (refMay_is m1 (hy.below bw) HM1).mono ?_
  rintro e w3 ⟨rfl, hb3⟩
  replace hb3 := ext_trans hb2 hb3
  clear hb2 bw
  obtain ⟨c00, c01, c02, c10, c11, c12, bw⟩ := HD.out _ hb3
  cases m1
  · go_wp2_with fail
    go_ret
    exact ⟨rfl, bw⟩
  have HP1 : Hid (MayP y.xs y.ys y.zs) := (mayV_iff _ _ _).1 HM1.out
  clear HM1
  go_wp2_with fail
  clear c00 c01 c02 c10 c11 c12 bw
  obtain ⟨q1, Hq1⟩ := bool_for (TurnsP x y)
  obtain ⟨s1, Hs1⟩ := bool_for (OwnsP x y)
  obtain ⟨s2, Hs2⟩ := bool_for (y.zs = [])
  have hB3 := ext_trans hb3 (ext_drew w3)
  obtain ⟨z1, hz1⟩ : ∃ z, why2 s1 q1 = z := ⟨_, rfl⟩
  have Hz1 : Hid (why2 s1 q1 = z1) := hz1
  obtain ⟨z2, hz2⟩ : ∃ z, why2 s2 q1 = z := ⟨_, rfl⟩
  have Hz2 : Hid (why2 s2 q1 = z2) := hz2
  clear hz1 hz2
  refine wp_region_noPanic ?_
  refine wp_region_held_drew (S := fun W => Below W0.heap.size W0 W) (by kernel_rfl) hB3 fun hS => ?_
  refine take_to (i := 0) (v := ?_) 15 rfl rfl (by kernel_rfl) (by kernel_rfl) (by kernel_rfl) (fun _ _ _ h => h) (Or.inl ⟨by rfl, ?_⟩) hS ?_
  rotate_left
  · intro W hW
    obtain ⟨c00, c01, c02, c10, c11, c12, _⟩ := HD.out W hW
    go_simp
    try with_reducible rfl
  simp only [List.setIfInBounds_toArray, List.set_cons_zero, List.set_cons_succ]
  refine take_to (i := 1) (v := ?_) 16 rfl rfl (by kernel_rfl) (by kernel_rfl) (by kernel_rfl) (fun _ _ _ h => h) (Or.inl ⟨by rfl, ?_⟩) hS ?_
  rotate_left
  · intro W hW
    obtain ⟨c00, c01, c02, c10, c11, c12, _⟩ := HD.out W hW
    go_simp
    try with_reducible rfl
  simp only [List.setIfInBounds_toArray, List.set_cons_zero, List.set_cons_succ]
  refine take_to (i := 3) (v := ?_) 18 rfl rfl (by kernel_rfl) (by kernel_rfl) (by kernel_rfl) (fun _ _ _ h => h) (Or.inl ⟨by rfl, ?_⟩) hS ?_
  rotate_left
  · intro W hW
    obtain ⟨c00, c01, c02, c10, c11, c12, _⟩ := HD.out W hW
    go_simp
    try with_reducible rfl
  simp only [List.setIfInBounds_toArray, List.set_cons_zero, List.set_cons_succ]
  refine take_to (i := 4) (v := ?_) 19 rfl rfl (by kernel_rfl) (by kernel_rfl) (by kernel_rfl) (fun _ _ _ h => h) (Or.inl ⟨by rfl, ?_⟩) hS ?_
  rotate_left
  · intro W hW
    obtain ⟨c00, c01, c02, c10, c11, c12, _⟩ := HD.out W hW
    go_simp
    try with_reducible rfl
  simp only [List.setIfInBounds_toArray, List.set_cons_zero, List.set_cons_succ]
  refine wpAnyH_ready (rs := [2]) (by kernel_rfl) (by simp) ?_
  refine AllReadyH.cons rfl (fun K hK => ?_) AllReadyH.nil
  go_simp
  obtain ⟨_, _, _, _, _, _, bw⟩ := HD.out _ hB3
  refine (rises2_is q1 s1 Hq1 Hs1 _ (Sm.of (hx.below bw) HP0.out) (Sm.of (hy.below bw) HP1.out)).mono ?_
  rintro e v1 ⟨rfl, ha1⟩
  rw [Hz1.out]
  replace ha1 := ext_trans hB3 ha1
  clear bw
  refine hK.out _ _ ha1 fun hS => ?_
  clear hK K
  refine wpAnyH_ready (rs := [5]) (by kernel_rfl) (by simp) ?_
  refine AllReadyH.cons rfl (fun K hK => ?_) AllReadyH.nil
  go_simp
  obtain ⟨_, _, _, _, _, _, bw⟩ := HD.out _ ha1
  refine (refRises2_is q1 s1 Hq1 Hs1 _ (hx.below bw) (hy.below bw) HP0 HP1).mono ?_
  rintro e v2 ⟨rfl, ha2⟩
  rw [Hz1.out]
  replace ha2 := ext_trans ha1 ha2
  clear bw
  refine hK.out _ _ ha2 fun hS => ?_
  clear hK K
  refine take_to (i := 6) (v := ?_) 21 rfl rfl (by kernel_rfl) (by kernel_rfl) (by kernel_rfl) (fun _ _ _ h => h) (Or.inl ⟨by rfl, ?_⟩) hS ?_
  rotate_left
  · intro W hW
    obtain ⟨c00, c01, c02, c10, c11, c12, _⟩ := HD.out W hW
    go_simp
    try with_reducible rfl
  simp only [List.setIfInBounds_toArray, List.set_cons_zero, List.set_cons_succ]
  refine take_to (i := 7) (v := ?_) 22 rfl rfl (by kernel_rfl) (by kernel_rfl) (by kernel_rfl) (fun _ _ _ h => h) (Or.inl ⟨by rfl, ?_⟩) hS ?_
  rotate_left
  · intro W hW
    obtain ⟨c00, c01, c02, c10, c11, c12, _⟩ := HD.out W hW
    go_simp
    try with_reducible rfl
  simp only [List.setIfInBounds_toArray, List.set_cons_zero, List.set_cons_succ]
  refine take_to (i := 8) (v := ?_) 23 rfl rfl (by kernel_rfl) (by kernel_rfl) (by kernel_rfl) (fun _ _ _ h => h) (Or.inl ⟨by rfl, ?_⟩) hS ?_
  rotate_left
  · intro W hW
    obtain ⟨c00, c01, c02, c10, c11, c12, _⟩ := HD.out W hW
    go_simp
    try with_reducible rfl
  simp only [List.setIfInBounds_toArray, List.set_cons_zero, List.set_cons_succ]
  refine take_to (i := 9) (v := ?_) 24 rfl rfl (by kernel_rfl) (by kernel_rfl) (by kernel_rfl) (fun _ _ _ h => h) (Or.inl ⟨by rfl, ?_⟩) hS ?_
  rotate_left
  · intro W hW
    obtain ⟨c00, c01, c02, c10, c11, c12, _⟩ := HD.out W hW
    go_simp
    try with_reducible rfl
  simp only [List.setIfInBounds_toArray, List.set_cons_zero, List.set_cons_succ]
  refine take_to (i := 11) (v := ?_) 26 rfl rfl (by kernel_rfl) (by kernel_rfl) (by kernel_rfl) (fun _ _ _ h => h) (Or.inl ⟨by rfl, ?_⟩) hS ?_
  rotate_left
  · intro W hW
    obtain ⟨c00, c01, c02, c10, c11, c12, _⟩ := HD.out W hW
    go_simp
    try with_reducible rfl
  simp only [List.setIfInBounds_toArray, List.set_cons_zero, List.set_cons_succ]
  refine take_to (i := 12) (v := ?_) 27 rfl rfl (by kernel_rfl) (by kernel_rfl) (by kernel_rfl) (fun _ _ _ h => h) (Or.inl ⟨by rfl, ?_⟩) hS ?_
  rotate_left
  · intro W hW
    obtain ⟨c00, c01, c02, c10, c11, c12, _⟩ := HD.out W hW
    go_simp
    try with_reducible rfl
  simp only [List.setIfInBounds_toArray, List.set_cons_zero, List.set_cons_succ]
  refine wpAnyH_ready (rs := [10]) (by kernel_rfl) (by simp) ?_
  refine AllReadyH.cons rfl (fun K hK => ?_) AllReadyH.nil
  go_simp
  obtain ⟨_, _, _, _, _, _, bw⟩ := HD.out _ ha2
  refine (makes2_is q1 s2 Hq1 Hs2 _ (Sm.of (hx.below bw) HP0.out) (Sm.of (hy.below bw) HP1.out)).mono ?_
  rintro e v3 ⟨rfl, ha3⟩
  rw [Hz2.out]
  replace ha3 := ext_trans ha2 ha3
  clear bw
  refine hK.out _ _ ha3 fun hS => ?_
  clear hK K
  refine wpAnyH_ready (rs := [13]) (by kernel_rfl) (by simp) ?_
  refine AllReadyH.cons rfl (fun K hK => ?_) AllReadyH.nil
  go_simp
  obtain ⟨_, _, _, _, _, _, bw⟩ := HD.out _ ha3
  refine (refMakes2_is q1 s2 Hq1 Hs2 _ (hx.below bw) (hy.below bw) HP0 HP1).mono ?_
  rintro e v4 ⟨rfl, ha4⟩
  rw [Hz2.out]
  replace ha4 := ext_trans ha3 ha4
  clear bw
  refine hK.out _ _ ha4 fun hS => ?_
  clear hK K
  refine take_to (i := 14) (v := ?_) 29 rfl rfl (by kernel_rfl) (by kernel_rfl) (by kernel_rfl) (fun _ _ _ h => h) (Or.inl ⟨by rfl, ?_⟩) hS ?_
  rotate_left
  · intro W hW
    obtain ⟨c00, c01, c02, c10, c11, c12, _⟩ := HD.out W hW
    go_simp
    try with_reducible rfl
  simp only [List.setIfInBounds_toArray, List.set_cons_zero, List.set_cons_succ]
  refine take_to (i := 15) (v := ?_) 30 rfl rfl (by kernel_rfl) (by kernel_rfl) (by kernel_rfl) (fun _ _ _ h => h) (Or.inl ⟨by rfl, ?_⟩) hS ?_
  rotate_left
  · intro W hW
    obtain ⟨c00, c01, c02, c10, c11, c12, _⟩ := HD.out W hW
    go_simp
    try with_reducible rfl
  simp only [List.setIfInBounds_toArray, List.set_cons_zero, List.set_cons_succ]
  refine wpAnyH_done (by kernel_rfl) ?_ _
  refine NoPanic.normal ?_
  clear Hz1 Hz2 Hq1 Hs1 Hs2
  have HV : Hid _ := mall_sv w v4 x y _ HC.out ha4
  obtain ⟨a0, a1, _⟩ := HC.out _ ha4
  clear ha4 HC HD
  have f1 : v4.frozen? ⟨w.heap.size + 1, 2, none⟩ = false := frozen_of_row v4 _ 2 _ 24 a1
  have c00 := sv_cell_of_heap a0 0 _ rfl
  have c01 := sv_cell_of_heap a0 1 _ rfl
  have c02 := sv_cell_of_heap a0 2 _ rfl
  have c10 := sv_cell_of_heap a1 0 _ rfl
  have c11 := sv_cell_of_heap a1 1 _ rfl
  have c12 := sv_cell_of_heap a1 2 _ rfl
  clear a0 a1
  go_wp2_with fail
  clear c00 c01 c02 c10 c11 c12 f1
  obtain ⟨V, hV⟩ : ∃ V, V = (v4.setCell ⟨w.heap.size + 1, 2, none⟩ (.slice none 0 0)) := ⟨_, rfl⟩
  rw [← hV] at HV ⊢
  clear hV
  have hu0 := Below.refl V.heap.size V
  have PY : Hid (MayP y.opened.xs y.opened.ys y.opened.zs) := ⟨⟨HP1.out.1.1, HP1.out.1.2.1, Srt.nil⟩, ⟨HP1.out.2.1.1, fun _ _ h => by simp [Sv.opened] at h, fun _ _ h => by simp [Sv.opened] at h⟩, by have := HP1.out.2.2; show y.xs.length + y.ys.length + 0 ≤ 16; omega⟩
  obtain ⟨qa, Hqa⟩ := bool_for (SeesP x y.opened)
  obtain ⟨qb, Hqb⟩ := bool_for (TurnsP x y.opened)
  have hV0 := ext_trans hu0 (ext_drew V)
  refine wp_region_noPanic ?_
  refine wp_region_held_drew (S := fun W => Below V.heap.size V W) (by kernel_rfl) hV0 fun hS => ?_
  refine take_to (i := 0) (v := ?_) 32 rfl rfl (by kernel_rfl) (by kernel_rfl) (by kernel_rfl) (fun _ _ _ h => h) (Or.inl ⟨by rfl, ?_⟩) hS ?_
  rotate_left
  · intro W hW
    obtain ⟨⟨c00, c01, c02, c10, c11, c12⟩, _⟩ := HV.out W hW
    go_simp
    try with_reducible rfl
  simp only [List.setIfInBounds_toArray, List.set_cons_zero, List.set_cons_succ]
  refine take_to (i := 1) (v := ?_) 33 rfl rfl (by kernel_rfl) (by kernel_rfl) (by kernel_rfl) (fun _ _ _ h => h) (Or.inl ⟨by rfl, ?_⟩) hS ?_
  rotate_left
  · intro W hW
    obtain ⟨⟨c00, c01, c02, c10, c11, c12⟩, _⟩ := HV.out W hW
    go_simp
    try with_reducible rfl
  simp only [List.setIfInBounds_toArray, List.set_cons_zero, List.set_cons_succ]
  refine take_to (i := 3) (v := ?_) 35 rfl rfl (by kernel_rfl) (by kernel_rfl) (by kernel_rfl) (fun _ _ _ h => h) (Or.inl ⟨by rfl, ?_⟩) hS ?_
  rotate_left
  · intro W hW
    obtain ⟨⟨c00, c01, c02, c10, c11, c12⟩, _⟩ := HV.out W hW
    go_simp
    try with_reducible rfl
  simp only [List.setIfInBounds_toArray, List.set_cons_zero, List.set_cons_succ]
  refine take_to (i := 4) (v := ?_) 36 rfl rfl (by kernel_rfl) (by kernel_rfl) (by kernel_rfl) (fun _ _ _ h => h) (Or.inl ⟨by rfl, ?_⟩) hS ?_
  rotate_left
  · intro W hW
    obtain ⟨⟨c00, c01, c02, c10, c11, c12⟩, _⟩ := HV.out W hW
    go_simp
    try with_reducible rfl
  simp only [List.setIfInBounds_toArray, List.set_cons_zero, List.set_cons_succ]
  refine wpAnyH_ready (rs := [2]) (by kernel_rfl) (by simp) ?_
  refine AllReadyH.cons rfl (fun K hK => ?_) AllReadyH.nil
  go_simp
  obtain ⟨_, bw⟩ := HV.out _ hV0
  refine (sees2_is qa Hqa _ (Sm.of (hx.below bw) HP0.out) (Sm.of (hy.below bw).opened PY.out)).mono ?_
  rintro e v5 ⟨rfl, hc1⟩
  replace hc1 := ext_trans hV0 hc1
  clear bw
  refine hK.out _ _ hc1 fun hS => ?_
  clear hK K
  refine wpAnyH_ready (rs := [5]) (by kernel_rfl) (by simp) ?_
  refine AllReadyH.cons rfl (fun K hK => ?_) AllReadyH.nil
  go_simp
  obtain ⟨_, bw⟩ := HV.out _ hc1
  refine (refSees2_is (y := y.opened) qa Hqa _ (hx.below bw) (hy.below bw).opened HP0 PY rfl).mono ?_
  rintro e v6 ⟨rfl, hc2⟩
  replace hc2 := ext_trans hc1 hc2
  clear bw
  refine hK.out _ _ hc2 fun hS => ?_
  clear hK K
  refine take_to (i := 6) (v := ?_) 38 rfl rfl (by kernel_rfl) (by kernel_rfl) (by kernel_rfl) (fun _ _ _ h => h) (Or.inl ⟨by rfl, ?_⟩) hS ?_
  rotate_left
  · intro W hW
    obtain ⟨⟨c00, c01, c02, c10, c11, c12⟩, _⟩ := HV.out W hW
    go_simp
    try with_reducible rfl
  simp only [List.setIfInBounds_toArray, List.set_cons_zero, List.set_cons_succ]
  refine take_to (i := 7) (v := ?_) 39 rfl rfl (by kernel_rfl) (by kernel_rfl) (by kernel_rfl) (fun _ _ _ h => h) (Or.inl ⟨by rfl, ?_⟩) hS ?_
  rotate_left
  · intro W hW
    obtain ⟨⟨c00, c01, c02, c10, c11, c12⟩, _⟩ := HV.out W hW
    go_simp
    try with_reducible rfl
  simp only [List.setIfInBounds_toArray, List.set_cons_zero, List.set_cons_succ]
  refine take_to (i := 8) (v := ?_) 40 rfl rfl (by kernel_rfl) (by kernel_rfl) (by kernel_rfl) (fun _ _ _ h => h) (Or.inl ⟨by rfl, ?_⟩) hS ?_
  rotate_left
  · intro W hW
    obtain ⟨⟨c00, c01, c02, c10, c11, c12⟩, _⟩ := HV.out W hW
    go_simp
    try with_reducible rfl
  simp only [List.setIfInBounds_toArray, List.set_cons_zero, List.set_cons_succ]
  refine take_to (i := 9) (v := ?_) 41 rfl rfl (by kernel_rfl) (by kernel_rfl) (by kernel_rfl) (fun _ _ _ h => h) (Or.inl ⟨by rfl, ?_⟩) hS ?_
  rotate_left
  · intro W hW
    obtain ⟨⟨c00, c01, c02, c10, c11, c12⟩, _⟩ := HV.out W hW
    go_simp
    try with_reducible rfl
  simp only [List.setIfInBounds_toArray, List.set_cons_zero, List.set_cons_succ]
  refine take_to (i := 11) (v := ?_) 43 rfl rfl (by kernel_rfl) (by kernel_rfl) (by kernel_rfl) (fun _ _ _ h => h) (Or.inl ⟨by rfl, ?_⟩) hS ?_
  rotate_left
  · intro W hW
    obtain ⟨⟨c00, c01, c02, c10, c11, c12⟩, _⟩ := HV.out W hW
    go_simp
    try with_reducible rfl
  simp only [List.setIfInBounds_toArray, List.set_cons_zero, List.set_cons_succ]
  refine take_to (i := 12) (v := ?_) 44 rfl rfl (by kernel_rfl) (by kernel_rfl) (by kernel_rfl) (fun _ _ _ h => h) (Or.inl ⟨by rfl, ?_⟩) hS ?_
  rotate_left
  · intro W hW
    obtain ⟨⟨c00, c01, c02, c10, c11, c12⟩, _⟩ := HV.out W hW
    go_simp
    try with_reducible rfl
  simp only [List.setIfInBounds_toArray, List.set_cons_zero, List.set_cons_succ]
  refine wpAnyH_ready (rs := [10]) (by kernel_rfl) (by simp) ?_
  refine AllReadyH.cons rfl (fun K hK => ?_) AllReadyH.nil
  go_simp
  obtain ⟨_, bw⟩ := HV.out _ hc2
  refine (turns2_is qb Hqb _ (Sm.of (hx.below bw) HP0.out) (Sm.of (hy.below bw).opened PY.out)).mono ?_
  rintro e v7 ⟨rfl, hc3⟩
  replace hc3 := ext_trans hc2 hc3
  clear bw
  refine hK.out _ _ hc3 fun hS => ?_
  clear hK K
  refine wpAnyH_ready (rs := [13]) (by kernel_rfl) (by simp) ?_
  refine AllReadyH.cons rfl (fun K hK => ?_) AllReadyH.nil
  go_simp
  obtain ⟨_, bw⟩ := HV.out _ hc3
  refine (refTurns2_is (y := y.opened) qb Hqb _ (hx.below bw) (hy.below bw).opened HP0 PY rfl).mono ?_
  rintro e v8 ⟨rfl, hc4⟩
  replace hc4 := ext_trans hc3 hc4
  clear bw
  refine hK.out _ _ hc4 fun hS => ?_
  clear hK K
  refine take_to (i := 14) (v := ?_) 46 rfl rfl (by kernel_rfl) (by kernel_rfl) (by kernel_rfl) (fun _ _ _ h => h) (Or.inl ⟨by rfl, ?_⟩) hS ?_
  rotate_left
  · intro W hW
    obtain ⟨⟨c00, c01, c02, c10, c11, c12⟩, _⟩ := HV.out W hW
    go_simp
    try with_reducible rfl
  simp only [List.setIfInBounds_toArray, List.set_cons_zero, List.set_cons_succ]
  refine take_to (i := 15) (v := ?_) 47 rfl rfl (by kernel_rfl) (by kernel_rfl) (by kernel_rfl) (fun _ _ _ h => h) (Or.inl ⟨by rfl, ?_⟩) hS ?_
  rotate_left
  · intro W hW
    obtain ⟨⟨c00, c01, c02, c10, c11, c12⟩, _⟩ := HV.out W hW
    go_simp
    try with_reducible rfl
  simp only [List.setIfInBounds_toArray, List.set_cons_zero, List.set_cons_succ]
  refine take_to (i := 16) (v := ?_) 4 rfl rfl (by kernel_rfl) (by kernel_rfl) (by kernel_rfl) (fun _ _ _ h => h) (Or.inl ⟨by rfl, ?_⟩) hS ?_
  rotate_left
  · intro W hW
    obtain ⟨⟨c00, c01, c02, c10, c11, c12⟩, _⟩ := HV.out W hW
    go_simp
    try with_reducible rfl
  simp only [List.setIfInBounds_toArray, List.set_cons_zero, List.set_cons_succ]
  refine wpAnyH_done (by kernel_rfl) ?_ _
  refine NoPanic.normal ?_
  obtain ⟨_, bw⟩ := HV.out _ hc4
  go_wp2_with fail
  go_ret
  exact ⟨rfl, bw⟩
end Go.Proofs.Ythhpfpihgmhlbaa
