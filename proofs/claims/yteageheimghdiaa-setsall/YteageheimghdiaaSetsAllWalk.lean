/- SetsAll walked: it answers true, and turns nothing that was there. -/
import Derived.Test.YteageheimghdiaaSvLaws
namespace Go.Proofs.Yteageheimghdiaa
open Go.RowKit

theorem refFlows_is (q : Bool) {x y : Sv} {w : World} (hx : x.In w) (hy : y.In w) (h1 : x.n1 ≤ 1000000) (h2 : y.n2 ≤ 1000000) (k1 : Hid (Srt x.xs ∧ Srt y.xs ∧ Srt x.ys ∧ Srt y.ys)) (hq : Hid (x.flows y = q)) :
    Calls Try.prog 16 #[.agg #[.slice x.a1 x.n1 x.c1, .slice x.a2 x.n2 x.c2, .slice x.a3 x.n3 x.c3], .agg #[.slice y.a1 y.n1 y.c1, .slice y.a2 y.n2 y.c2, .slice y.a3 y.n3 y.c3]] w fun e w' => e = .returned (.bool q) ∧ Below w.heap.size w w' := by
  have := refFlowsS_any x y w hx hy h1 h2 k1
  rwa [hq.out] at this

theorem all_sv (w w1 : World) (x y : Sv) (W0 : World) (HC : ∀ W, Below W0.heap.size W0 W → W.heap[w.heap.size]? = some (.cells #[.slice x.a1 x.n1 x.c1, .slice x.a2 x.n2 x.c2, .slice x.a3 x.n3 x.c3] 24 (0, 0)) ∧ W.heap[w.heap.size + 1]? = some (.cells #[.slice y.a1 y.n1 y.c1, .slice y.a2 y.n2 y.c2, .slice y.a3 y.n3 y.c3] 24 (0, 0)) ∧ Below w.heap.size w W) (hb : Below W0.heap.size W0 w1) :
    ∀ W, Below ((w1.setCell ⟨w.heap.size, 2, none⟩ (.slice none 0 0)).setCell ⟨w.heap.size + 1, 2, none⟩ (.slice none 0 0)).heap.size ((w1.setCell ⟨w.heap.size, 2, none⟩ (.slice none 0 0)).setCell ⟨w.heap.size + 1, 2, none⟩ (.slice none 0 0)) W → W.cell? ⟨w.heap.size, 0, none⟩ = some (.slice x.a1 x.n1 x.c1) ∧ W.cell? ⟨w.heap.size, 1, none⟩ = some (.slice x.a2 x.n2 x.c2) ∧ W.cell? ⟨w.heap.size, 2, none⟩ = some (.slice none 0 0) ∧ W.cell? ⟨w.heap.size + 1, 0, none⟩ = some (.slice y.a1 y.n1 y.c1) ∧ W.cell? ⟨w.heap.size + 1, 1, none⟩ = some (.slice y.a2 y.n2 y.c2) ∧ W.cell? ⟨w.heap.size + 1, 2, none⟩ = some (.slice none 0 0) ∧ Below w.heap.size w W := fun W h => by
  obtain ⟨a0, a1, hbw⟩ := HC w1 hb
  have b0 := heap_else (g := w.heap.size + 1) (v := .slice none 0 0) (heap_opened a0) (by omega)
  have b1 := heap_opened (heap_else (g := w.heap.size) (v := .slice none 0 0) a1 (by omega))
  have d0 := (h.block _ (Array.getElem?_eq_some_iff.1 b0).1).trans b0
  have d1 := (h.block _ (Array.getElem?_eq_some_iff.1 b1).1).trans b1
  have hv : Below w.heap.size w ((w1.setCell ⟨w.heap.size, 2, none⟩ (.slice none 0 0)).setCell ⟨w.heap.size + 1, 2, none⟩ (.slice none 0 0)) := (hbw.setCell (Nat.le_refl _) _).setCell (by simp <;> omega) _
  exact ⟨cell_of_heap d0 0 _ rfl, cell_of_heap d0 1 _ rfl, cell_of_heap d0 2 _ rfl, cell_of_heap d1 0 _ rfl, cell_of_heap d1 1 _ rfl, cell_of_heap d1 2 _ rfl, ext_trans hv h⟩

set_option maxHeartbeats 4000000 in
theorem setsAll_walk (x y : Sv) (c : Int) (hc : 0 ≤ c ∧ c < 65536) (w : World) (hx : x.In w) (hy : y.In w) (rx : x.n1 < 70368744177664 ∧ x.n2 < 70368744177664 ∧ x.n3 < 70368744177664) (ry : y.n1 < 70368744177664 ∧ y.n2 < 70368744177664 ∧ y.n3 < 70368744177664) :
    Calls Try.prog 3 #[.agg #[.slice x.a1 x.n1 x.c1, .slice x.a2 x.n2 x.c2, .slice x.a3 x.n3 x.c3], .agg #[.slice y.a1 y.n1 y.c1, .slice y.a2 y.n2 y.c2, .slice y.a3 y.n3 y.c3], .int .u16 c] w fun e w' => e = .returned (.bool true) ∧ Below w.heap.size w w' := by
  have HC : Hid _ := two_sv w x y
  have HH : Hid _ := heap_boxes2 w x y
  obtain ⟨x1, x2, x3⟩ := rx
  obtain ⟨y1, y2, y3⟩ := ry
  go_enter Try.func3, Try.ntmps3
  go_wp2_with fail
  obtain ⟨W0, hW0⟩ : ∃ V, V = (w.alloc (Obj.cells #[.slice x.a1 x.n1 x.c1, .slice x.a2 x.n2 x.c2, .slice x.a3 x.n3 x.c3] 24)).alloc (Obj.cells #[.slice y.a1 y.n1 y.c1, .slice y.a2 y.n2 y.c2, .slice y.a3 y.n3 y.c3] 24) := ⟨_, rfl⟩
  rw [← hW0] at HC HH ⊢
  clear hW0
  refine (begun8_true _).mono ?_
  rintro e w1 ⟨rfl, hb1⟩
  obtain ⟨c00, c01, c02, c10, c11, c12, bw⟩ := HC.out _ hb1
  by_cases hA : x.n1 + x.n2 + x.n3 > 60
  · have hA' : (x.n1 : Int) + (x.n2 : Int) + (x.n3 : Int) > 60 := by omega
    go_wp2_with fail
    go_ret
    exact ⟨rfl, bw⟩
  have hA' : decide ((x.n1 : Int) + (x.n2 : Int) + (x.n3 : Int) > 60) = false := by simp; omega
  by_cases hB : y.n1 + y.n2 + y.n3 > 60
  · have hB' : (y.n1 : Int) + (y.n2 : Int) + (y.n3 : Int) > 60 := by omega
    go_wp2_with fail
    go_ret
    exact ⟨rfl, bw⟩
  have hB' : decide ((y.n1 : Int) + (y.n2 : Int) + (y.n3 : Int) > 60) = false := by simp; omega
  go_wp2_with fail
  clear c00 c01 c02 c10 c11 c12 bw hA' hB'
  obtain ⟨m0, hm0⟩ : ∃ q, mayB x.xs x.ys x.zs = q := ⟨_, rfl⟩
  have HM0 : Hid (mayB x.xs x.ys x.zs = m0) := hm0
  obtain ⟨m1, hm1⟩ : ∃ q, mayB y.xs y.ys y.zs = q := ⟨_, rfl⟩
  have HM1 : Hid (mayB y.xs y.ys y.zs = m1) := hm1
  clear hm0 hm1
  have hB1 := ext_trans hb1 (ext_drew w1)
  clear hb1
  refine wp_region_noPanic ?_
  refine wp_region_held_drew (S := fun W => Below W0.heap.size W0 W) (by kernel_rfl) hB1 fun hS => ?_
  refine take_to (i := 0) (v := ?_) 36 rfl rfl (by kernel_rfl) (by kernel_rfl) (by kernel_rfl) (fun _ _ _ h => h) (Or.inl ⟨by rfl, ?_⟩) hS ?_
  rotate_left
  · intro W hW
    obtain ⟨c00, c01, c02, c10, c11, c12, _⟩ := HC.out W hW
    go_simp
    try with_reducible rfl
  simp only [List.setIfInBounds_toArray, List.set_cons_zero, List.set_cons_succ]
  refine take_to (i := 2) (v := ?_) 38 rfl rfl (by kernel_rfl) (by kernel_rfl) (by kernel_rfl) (fun _ _ _ h => h) (Or.inl ⟨by rfl, ?_⟩) hS ?_
  rotate_left
  · intro W hW
    obtain ⟨c00, c01, c02, c10, c11, c12, _⟩ := HC.out W hW
    go_simp
    try with_reducible rfl
  simp only [List.setIfInBounds_toArray, List.set_cons_zero, List.set_cons_succ]
  refine wpAnyH_ready (rs := [1]) (by kernel_rfl) (by simp) ?_
  refine AllReadyH.cons rfl (fun K hK => ?_) AllReadyH.nil
  go_simp
  obtain ⟨_, _, _, _, _, _, bw⟩ := HC.out _ hB1
  refine (may_is m0 (hx.below bw) HM0).mono ?_
  rintro e wha0 ⟨rfl, ha0⟩
  replace ha0 := ext_trans hB1 ha0
  clear bw
  refine hK.out _ _ ha0 fun hS => ?_
  clear hK K
  refine wpAnyH_ready (rs := [3]) (by kernel_rfl) (by simp) ?_
  refine AllReadyH.cons rfl (fun K hK => ?_) AllReadyH.nil
  go_simp
  obtain ⟨_, _, _, _, _, _, bw⟩ := HC.out _ ha0
  refine (refMay_is m0 (hx.below bw) HM0).mono ?_
  rintro e wha1 ⟨rfl, ha1⟩
  replace ha1 := ext_trans ha0 ha1
  clear bw
  refine hK.out _ _ ha1 fun hS => ?_
  clear hK K
  refine take_to (i := 4) (v := ?_) 40 rfl rfl (by kernel_rfl) (by kernel_rfl) (by kernel_rfl) (fun _ _ _ h => h) (Or.inl ⟨by rfl, ?_⟩) hS ?_
  rotate_left
  · intro W hW
    obtain ⟨c00, c01, c02, c10, c11, c12, _⟩ := HC.out W hW
    go_simp
    try with_reducible rfl
  simp only [List.setIfInBounds_toArray, List.set_cons_zero, List.set_cons_succ]
  refine wpAnyH_done (by kernel_rfl) ?_ _
  refine NoPanic.normal ?_
  obtain ⟨c00, c01, c02, c10, c11, c12, bw⟩ := HC.out _ ha1
  go_wp2_with fail
  clear c00 c01 c02 c10 c11 c12
  refine (refMay_is m0 (hx.below bw) HM0).mono ?_
  rintro e w2 ⟨rfl, hb2⟩
  replace hb2 := ext_trans ha1 hb2
  clear bw
  obtain ⟨c00, c01, c02, c10, c11, c12, bw⟩ := HC.out _ hb2
  cases m0
  · go_wp2_with fail
    go_ret
    exact ⟨rfl, bw⟩
  go_wp2_with fail
  clear c00 c01 c02 c10 c11 c12
  refine (refMay_is m1 (hy.below bw) HM1).mono ?_
  rintro e w3 ⟨rfl, hb3⟩
  replace hb3 := ext_trans hb2 hb3
  clear bw
  obtain ⟨c00, c01, c02, c10, c11, c12, bw⟩ := HC.out _ hb3
  cases m1
  · go_wp2_with fail
    go_ret
    exact ⟨rfl, bw⟩
  have HP0 : Hid (MayP x.xs x.ys x.zs) := (mayB_iff _ _ _).1 HM0.out
  have HP1 : Hid (MayP y.xs y.ys y.zs) := (mayB_iff _ _ _).1 HM1.out
  have hl0 : x.n1 + x.n2 + x.n3 ≤ 16 := HP0.out.len (hx.below bw)
  have hl1 : y.n1 + y.n2 + y.n3 ≤ 16 := HP1.out.len (hy.below bw)
  go_wp2_with fail
  clear c00 c01 c02 c10 c11 c12 bw
  obtain ⟨qs, hqs⟩ : ∃ q, x.same y = q := ⟨_, rfl⟩
  have HQS : Hid (x.same y = qs) := hqs
  clear hqs
  have hB3 := ext_trans hb3 (ext_drew w3)
  refine wp_region_noPanic ?_
  refine wp_region_held_drew (S := fun W => Below W0.heap.size W0 W) (by kernel_rfl) hB3 fun hS => ?_
  refine take_to (i := 0) (v := ?_) 49 rfl rfl (by kernel_rfl) (by kernel_rfl) (by kernel_rfl) (fun _ _ _ h => h) (Or.inl ⟨by rfl, ?_⟩) hS ?_
  rotate_left
  · intro W hW
    obtain ⟨c00, c01, c02, c10, c11, c12, _⟩ := HC.out W hW
    go_simp
    try with_reducible rfl
  simp only [List.setIfInBounds_toArray, List.set_cons_zero, List.set_cons_succ]
  refine take_to (i := 1) (v := ?_) 50 rfl rfl (by kernel_rfl) (by kernel_rfl) (by kernel_rfl) (fun _ _ _ h => h) (Or.inl ⟨by rfl, ?_⟩) hS ?_
  rotate_left
  · intro W hW
    obtain ⟨c00, c01, c02, c10, c11, c12, _⟩ := HC.out W hW
    go_simp
    try with_reducible rfl
  simp only [List.setIfInBounds_toArray, List.set_cons_zero, List.set_cons_succ]
  refine take_to (i := 3) (v := ?_) 52 rfl rfl (by kernel_rfl) (by kernel_rfl) (by kernel_rfl) (fun _ _ _ h => h) (Or.inl ⟨by rfl, ?_⟩) hS ?_
  rotate_left
  · intro W hW
    obtain ⟨c00, c01, c02, c10, c11, c12, _⟩ := HC.out W hW
    go_simp
    try with_reducible rfl
  simp only [List.setIfInBounds_toArray, List.set_cons_zero, List.set_cons_succ]
  refine take_to (i := 4) (v := ?_) 53 rfl rfl (by kernel_rfl) (by kernel_rfl) (by kernel_rfl) (fun _ _ _ h => h) (Or.inl ⟨by rfl, ?_⟩) hS ?_
  rotate_left
  · intro W hW
    obtain ⟨c00, c01, c02, c10, c11, c12, _⟩ := HC.out W hW
    go_simp
    try with_reducible rfl
  simp only [List.setIfInBounds_toArray, List.set_cons_zero, List.set_cons_succ]
  refine take_to (i := 5) (v := ?_) 54 rfl rfl (by kernel_rfl) (by kernel_rfl) (by kernel_rfl) (fun _ _ _ h => h) (Or.inl ⟨by rfl, ?_⟩) hS ?_
  rotate_left
  · intro W hW
    obtain ⟨c00, c01, c02, c10, c11, c12, _⟩ := HC.out W hW
    go_simp
    try with_reducible rfl
  simp only [List.setIfInBounds_toArray, List.set_cons_zero, List.set_cons_succ]
  refine wpAnyH_ready (rs := [2]) (by kernel_rfl) (by simp) ?_
  refine AllReadyH.cons rfl (fun K hK => ?_) AllReadyH.nil
  go_simp
  obtain ⟨_, _, _, _, _, _, bw⟩ := HC.out _ hB3
  refine (same_is qs (hx.below bw) (hy.below bw) HQS).mono ?_
  rintro e whc0 ⟨rfl, hc0⟩
  replace hc0 := ext_trans hB3 hc0
  clear bw
  refine hK.out _ _ hc0 fun hS => ?_
  clear hK K
  refine wpAnyH_ready (rs := [6]) (by kernel_rfl) (by simp) ?_
  refine AllReadyH.cons rfl (fun K hK => ?_) AllReadyH.nil
  go_simp
  obtain ⟨_, _, _, _, _, _, bw⟩ := HC.out _ hc0
  refine (refSame_is qs (hx.below bw) (hy.below bw) HQS).mono ?_
  rintro e whc1 ⟨rfl, hc1⟩
  replace hc1 := ext_trans hc0 hc1
  clear bw
  refine hK.out _ _ hc1 fun hS => ?_
  clear hK K
  refine take_to (i := 7) (v := ?_) 56 rfl rfl (by kernel_rfl) (by kernel_rfl) (by kernel_rfl) (fun _ _ _ h => h) (Or.inl ⟨by rfl, ?_⟩) hS ?_
  rotate_left
  · intro W hW
    obtain ⟨c00, c01, c02, c10, c11, c12, _⟩ := HC.out W hW
    go_simp
    try with_reducible rfl
  simp only [List.setIfInBounds_toArray, List.set_cons_zero, List.set_cons_succ]
  refine take_to (i := 8) (v := ?_) 57 rfl rfl (by kernel_rfl) (by kernel_rfl) (by kernel_rfl) (fun _ _ _ h => h) (Or.inl ⟨by rfl, ?_⟩) hS ?_
  rotate_left
  · intro W hW
    obtain ⟨c00, c01, c02, c10, c11, c12, _⟩ := HC.out W hW
    go_simp
    try with_reducible rfl
  simp only [List.setIfInBounds_toArray, List.set_cons_zero, List.set_cons_succ]
  refine take_to (i := 9) (v := ?_) 58 rfl rfl (by kernel_rfl) (by kernel_rfl) (by kernel_rfl) (fun _ _ _ h => h) (Or.inl ⟨by rfl, ?_⟩) hS ?_
  rotate_left
  · intro W hW
    obtain ⟨c00, c01, c02, c10, c11, c12, _⟩ := HC.out W hW
    go_simp
    try with_reducible rfl
  simp only [List.setIfInBounds_toArray, List.set_cons_zero, List.set_cons_succ]
  refine take_to (i := 10) (v := ?_) 59 rfl rfl (by kernel_rfl) (by kernel_rfl) (by kernel_rfl) (fun _ _ _ h => h) (Or.inl ⟨by rfl, ?_⟩) hS ?_
  rotate_left
  · intro W hW
    obtain ⟨c00, c01, c02, c10, c11, c12, _⟩ := HC.out W hW
    go_simp
    try with_reducible rfl
  simp only [List.setIfInBounds_toArray, List.set_cons_zero, List.set_cons_succ]
  refine take_to (i := 11) (v := ?_) 60 rfl rfl (by kernel_rfl) (by kernel_rfl) (by kernel_rfl) (fun _ _ _ h => h) (Or.inl ⟨by rfl, ?_⟩) hS ?_
  rotate_left
  · intro W hW
    obtain ⟨c00, c01, c02, c10, c11, c12, _⟩ := HC.out W hW
    go_simp
    try with_reducible rfl
  simp only [List.setIfInBounds_toArray, List.set_cons_zero, List.set_cons_succ]
  refine take_to (i := 13) (v := ?_) 62 rfl rfl (by kernel_rfl) (by kernel_rfl) (by kernel_rfl) (fun _ _ _ h => h) (Or.inl ⟨by rfl, ?_⟩) hS ?_
  rotate_left
  · intro W hW
    obtain ⟨c00, c01, c02, c10, c11, c12, _⟩ := HC.out W hW
    go_simp
    try with_reducible rfl
  simp only [List.setIfInBounds_toArray, List.set_cons_zero, List.set_cons_succ]
  refine take_to (i := 14) (v := ?_) 63 rfl rfl (by kernel_rfl) (by kernel_rfl) (by kernel_rfl) (fun _ _ _ h => h) (Or.inl ⟨by rfl, ?_⟩) hS ?_
  rotate_left
  · intro W hW
    obtain ⟨c00, c01, c02, c10, c11, c12, _⟩ := HC.out W hW
    go_simp
    try with_reducible rfl
  simp only [List.setIfInBounds_toArray, List.set_cons_zero, List.set_cons_succ]
  refine wpAnyH_ready (rs := [12]) (by kernel_rfl) (by simp) ?_
  refine AllReadyH.cons rfl (fun K hK => ?_) AllReadyH.nil
  go_simp
  obtain ⟨_, _, _, _, _, _, bw⟩ := HC.out _ hc1
  refine (addS_any x c hc _ (hx.below bw) (by omega) (by omega) (by omega)).mono ?_
  rintro e whc2 ⟨r1, rfl, hr1, hr1', -, hc2⟩
  replace hc2 := ext_trans hc1 hc2
  clear bw
  have HR1 : Hid (r1.xs = _ ∧ r1.ys = _ ∧ r1.zs = _) := hr1'
  clear hr1'
  refine hK.out _ _ hc2 fun hS => ?_
  clear hK K
  refine wpAnyH_ready (rs := [15]) (by kernel_rfl) (by simp) ?_
  refine AllReadyH.cons rfl (fun K hK => ?_) AllReadyH.nil
  go_simp
  obtain ⟨_, _, _, _, _, _, bw⟩ := HC.out _ hc2
  refine (refAdd_any x c hc _ (hx.below bw) ⟨HP0.out.1.1, HP0.out.1.2.1, HP0.out.1.2.2⟩ (by omega) (by omega) (by omega)).mono ?_
  rintro e whc3 ⟨r2, rfl, hr2, hr2', -, hc3⟩
  replace hr1 := hr1.below hc3
  replace hc3 := ext_trans hc2 hc3
  clear bw
  have HS1 : Hid (r1.same r2 = true) := (Sv.same_iff _ _).2 (by rw [HR1.out.1, HR1.out.2.1, HR1.out.2.2, hr2'.1, hr2'.2.1, hr2'.2.2]; exact ⟨rfl, rfl, rfl⟩)
  clear hr2'
  refine hK.out _ _ hc3 fun hS => ?_
  clear hK K
  refine wpAnyH_ready (rs := [16]) (by kernel_rfl) (by simp) ?_
  refine AllReadyH.cons rfl (fun K hK => ?_) AllReadyH.nil
  go_simp
  obtain ⟨_, _, _, _, _, _, bw⟩ := HC.out _ hc3
  refine (refSame_is true hr1 hr2 HS1).mono ?_
  rintro e whc4 ⟨rfl, hc4⟩
  replace hc4 := ext_trans hc3 hc4
  clear bw
  refine hK.out _ _ hc4 fun hS => ?_
  clear hK K
  refine take_to (i := 17) (v := ?_) 66 rfl rfl (by kernel_rfl) (by kernel_rfl) (by kernel_rfl) (fun _ _ _ h => h) (Or.inl ⟨by rfl, ?_⟩) hS ?_
  rotate_left
  · intro W hW
    obtain ⟨c00, c01, c02, c10, c11, c12, _⟩ := HC.out W hW
    go_simp
    try with_reducible rfl
  simp only [List.setIfInBounds_toArray, List.set_cons_zero, List.set_cons_succ]
  refine take_to (i := 18) (v := ?_) 67 rfl rfl (by kernel_rfl) (by kernel_rfl) (by kernel_rfl) (fun _ _ _ h => h) (Or.inl ⟨by rfl, ?_⟩) hS ?_
  rotate_left
  · intro W hW
    obtain ⟨c00, c01, c02, c10, c11, c12, _⟩ := HC.out W hW
    go_simp
    try with_reducible rfl
  simp only [List.setIfInBounds_toArray, List.set_cons_zero, List.set_cons_succ]
  refine wpAnyH_done (by kernel_rfl) ?_ _
  refine NoPanic.normal ?_
  have HV : Hid _ := all_sv w whc4 x y _ HH.out hc4
  obtain ⟨a0, a1, _⟩ := HH.out _ hc4
  have f0 : whc4.frozen? ⟨w.heap.size, 2, none⟩ = false := frozen_of_row whc4 _ 2 _ 24 a0
  have f1 : whc4.frozen? ⟨w.heap.size + 1, 2, none⟩ = false := frozen_of_row whc4 _ 2 _ 24 a1
  have c00 := cell_of_heap a0 0 _ rfl
  have c01 := cell_of_heap a0 1 _ rfl
  have c02 := cell_of_heap a0 2 _ rfl
  have c10 := cell_of_heap a1 0 _ rfl
  have c11 := cell_of_heap a1 1 _ rfl
  have c12 := cell_of_heap a1 2 _ rfl
  clear a0 a1 HC HH
  go_wp2_with fail
  clear c00 c01 c02 c10 c11 c12 f0 f1
  obtain ⟨V, hV⟩ : ∃ V, V = ((whc4.setCell ⟨w.heap.size, 2, none⟩ (.slice none 0 0)).setCell ⟨w.heap.size + 1, 2, none⟩ (.slice none 0 0)) := ⟨_, rfl⟩
  rw [← hV] at HV ⊢
  clear hV
  have hV0 : Below V.heap.size V V.drew := ext_drew _
  obtain ⟨qf, hqf⟩ : ∃ q, x.opened.flows y.opened = q := ⟨_, rfl⟩
  have HQF : Hid (x.opened.flows y.opened = qf) := hqf
  clear hqf
  refine wp_region_noPanic ?_
  refine wp_region_held_drew (S := fun W => Below V.heap.size V W) (by kernel_rfl) hV0 fun hS => ?_
  refine take_to (i := 0) (v := ?_) 70 rfl rfl (by kernel_rfl) (by kernel_rfl) (by kernel_rfl) (fun _ _ _ h => h) (Or.inl ⟨by rfl, ?_⟩) hS ?_
  rotate_left
  · intro W hW
    obtain ⟨c00, c01, c02, c10, c11, c12, _⟩ := HV.out W hW
    go_simp
    try with_reducible rfl
  simp only [List.setIfInBounds_toArray, List.set_cons_zero, List.set_cons_succ]
  refine take_to (i := 1) (v := ?_) 71 rfl rfl (by kernel_rfl) (by kernel_rfl) (by kernel_rfl) (fun _ _ _ h => h) (Or.inl ⟨by rfl, ?_⟩) hS ?_
  rotate_left
  · intro W hW
    obtain ⟨c00, c01, c02, c10, c11, c12, _⟩ := HV.out W hW
    go_simp
    try with_reducible rfl
  simp only [List.setIfInBounds_toArray, List.set_cons_zero, List.set_cons_succ]
  refine take_to (i := 3) (v := ?_) 73 rfl rfl (by kernel_rfl) (by kernel_rfl) (by kernel_rfl) (fun _ _ _ h => h) (Or.inl ⟨by rfl, ?_⟩) hS ?_
  rotate_left
  · intro W hW
    obtain ⟨c00, c01, c02, c10, c11, c12, _⟩ := HV.out W hW
    go_simp
    try with_reducible rfl
  simp only [List.setIfInBounds_toArray, List.set_cons_zero, List.set_cons_succ]
  refine take_to (i := 4) (v := ?_) 74 rfl rfl (by kernel_rfl) (by kernel_rfl) (by kernel_rfl) (fun _ _ _ h => h) (Or.inl ⟨by rfl, ?_⟩) hS ?_
  rotate_left
  · intro W hW
    obtain ⟨c00, c01, c02, c10, c11, c12, _⟩ := HV.out W hW
    go_simp
    try with_reducible rfl
  simp only [List.setIfInBounds_toArray, List.set_cons_zero, List.set_cons_succ]
  refine wpAnyH_ready (rs := [2]) (by kernel_rfl) (by simp) ?_
  refine AllReadyH.cons rfl (fun K hK => ?_) AllReadyH.nil
  go_simp
  obtain ⟨_, _, _, _, _, _, bw⟩ := HV.out _ hV0
  refine (flows_is qf (hx.below bw).opened (hy.below bw).opened (by show x.n1 + y.n1 ≤ _; omega) (by show y.n2 + x.n2 ≤ _; omega) HQF).mono ?_
  rintro e whd0 ⟨rfl, hd0⟩
  replace hd0 := ext_trans hV0 hd0
  clear bw
  refine hK.out _ _ hd0 fun hS => ?_
  clear hK K
  refine wpAnyH_ready (rs := [5]) (by kernel_rfl) (by simp) ?_
  refine AllReadyH.cons rfl (fun K hK => ?_) AllReadyH.nil
  go_simp
  obtain ⟨_, _, _, _, _, _, bw⟩ := HV.out _ hd0
  refine (refFlows_is qf (hx.below bw).opened (hy.below bw).opened (by show x.n1 ≤ _; omega) (by show y.n2 ≤ _; omega) ⟨HP0.out.1.1, HP1.out.1.1, HP0.out.1.2.1, HP1.out.1.2.1⟩ HQF).mono ?_
  rintro e whd1 ⟨rfl, hd1⟩
  replace hd1 := ext_trans hd0 hd1
  clear bw
  refine hK.out _ _ hd1 fun hS => ?_
  clear hK K
  refine take_to (i := 6) (v := ?_) 76 rfl rfl (by kernel_rfl) (by kernel_rfl) (by kernel_rfl) (fun _ _ _ h => h) (Or.inl ⟨by rfl, ?_⟩) hS ?_
  rotate_left
  · intro W hW
    obtain ⟨c00, c01, c02, c10, c11, c12, _⟩ := HV.out W hW
    go_simp
    try with_reducible rfl
  simp only [List.setIfInBounds_toArray, List.set_cons_zero, List.set_cons_succ]
  refine take_to (i := 7) (v := ?_) 77 rfl rfl (by kernel_rfl) (by kernel_rfl) (by kernel_rfl) (fun _ _ _ h => h) (Or.inl ⟨by rfl, ?_⟩) hS ?_
  rotate_left
  · intro W hW
    obtain ⟨c00, c01, c02, c10, c11, c12, _⟩ := HV.out W hW
    go_simp
    try with_reducible rfl
  simp only [List.setIfInBounds_toArray, List.set_cons_zero, List.set_cons_succ]
  refine take_to (i := 8) (v := ?_) 78 rfl rfl (by kernel_rfl) (by kernel_rfl) (by kernel_rfl) (fun _ _ _ h => h) (Or.inl ⟨by rfl, ?_⟩) hS ?_
  rotate_left
  · intro W hW
    obtain ⟨c00, c01, c02, c10, c11, c12, _⟩ := HV.out W hW
    go_simp
    try with_reducible rfl
  simp only [List.setIfInBounds_toArray, List.set_cons_zero, List.set_cons_succ]
  refine take_to (i := 9) (v := ?_) 79 rfl rfl (by kernel_rfl) (by kernel_rfl) (by kernel_rfl) (fun _ _ _ h => h) (Or.inl ⟨by rfl, ?_⟩) hS ?_
  rotate_left
  · intro W hW
    obtain ⟨c00, c01, c02, c10, c11, c12, _⟩ := HV.out W hW
    go_simp
    try with_reducible rfl
  simp only [List.setIfInBounds_toArray, List.set_cons_zero, List.set_cons_succ]
  refine take_to (i := 10) (v := ?_) 80 rfl rfl (by kernel_rfl) (by kernel_rfl) (by kernel_rfl) (fun _ _ _ h => h) (Or.inl ⟨by rfl, ?_⟩) hS ?_
  rotate_left
  · intro W hW
    obtain ⟨c00, c01, c02, c10, c11, c12, _⟩ := HV.out W hW
    go_simp
    try with_reducible rfl
  simp only [List.setIfInBounds_toArray, List.set_cons_zero, List.set_cons_succ]
  refine take_to (i := 12) (v := ?_) 82 rfl rfl (by kernel_rfl) (by kernel_rfl) (by kernel_rfl) (fun _ _ _ h => h) (Or.inl ⟨by rfl, ?_⟩) hS ?_
  rotate_left
  · intro W hW
    obtain ⟨c00, c01, c02, c10, c11, c12, _⟩ := HV.out W hW
    go_simp
    try with_reducible rfl
  simp only [List.setIfInBounds_toArray, List.set_cons_zero, List.set_cons_succ]
  refine take_to (i := 13) (v := ?_) 83 rfl rfl (by kernel_rfl) (by kernel_rfl) (by kernel_rfl) (fun _ _ _ h => h) (Or.inl ⟨by rfl, ?_⟩) hS ?_
  rotate_left
  · intro W hW
    obtain ⟨c00, c01, c02, c10, c11, c12, _⟩ := HV.out W hW
    go_simp
    try with_reducible rfl
  simp only [List.setIfInBounds_toArray, List.set_cons_zero, List.set_cons_succ]
  refine wpAnyH_ready (rs := [11]) (by kernel_rfl) (by simp) ?_
  refine AllReadyH.cons rfl (fun K hK => ?_) AllReadyH.nil
  go_simp
  obtain ⟨_, _, _, _, _, _, bw⟩ := HV.out _ hd1
  refine (joinS_any x.opened y.opened _ (hx.below bw).opened (hy.below bw).opened (by show x.n1 + y.n1 ≤ _; omega) (by show x.n2 + y.n2 ≤ _; omega)).mono ?_
  rintro e whd2 ⟨j1, rfl, hj1, hj1', -, hd2⟩
  replace hd2 := ext_trans hd1 hd2
  clear bw
  have HJ1 : Hid (j1.xs = _ ∧ j1.ys = _ ∧ j1.zs = _) := hj1'
  clear hj1'
  refine hK.out _ _ hd2 fun hS => ?_
  clear hK K
  refine wpAnyH_ready (rs := [14]) (by kernel_rfl) (by simp) ?_
  refine AllReadyH.cons rfl (fun K hK => ?_) AllReadyH.nil
  go_simp
  obtain ⟨_, _, _, _, _, _, bw⟩ := HV.out _ hd2
  refine (refJoin_any x.opened y.opened _ (hx.below bw).opened (hy.below bw).opened ⟨HP0.out.1.1, HP1.out.1.1, HP0.out.1.2.1, HP1.out.1.2.1⟩ (by show x.n1 + y.n1 ≤ _; omega) (by show x.n2 ≤ _; omega)).mono ?_
  rintro e whd3 ⟨j2, rfl, hj2, hj2', -, hd3⟩
  replace hj1 := hj1.below hd3
  replace hd3 := ext_trans hd2 hd3
  clear bw
  have HS2 : Hid (j1.same j2 = true) := (Sv.same_iff _ _).2 (by rw [HJ1.out.1, HJ1.out.2.1, HJ1.out.2.2, hj2'.1, hj2'.2.1, hj2'.2.2]; exact ⟨rfl, rfl, rfl⟩)
  clear hj2'
  refine hK.out _ _ hd3 fun hS => ?_
  clear hK K
  refine wpAnyH_ready (rs := [15]) (by kernel_rfl) (by simp) ?_
  refine AllReadyH.cons rfl (fun K hK => ?_) AllReadyH.nil
  go_simp
  obtain ⟨_, _, _, _, _, _, bw⟩ := HV.out _ hd3
  refine (refSame_is true hj1 hj2 HS2).mono ?_
  rintro e whd4 ⟨rfl, hd4⟩
  replace hd4 := ext_trans hd3 hd4
  clear bw
  refine hK.out _ _ hd4 fun hS => ?_
  clear hK K
  refine take_to (i := 16) (v := ?_) 86 rfl rfl (by kernel_rfl) (by kernel_rfl) (by kernel_rfl) (fun _ _ _ h => h) (Or.inl ⟨by rfl, ?_⟩) hS ?_
  rotate_left
  · intro W hW
    obtain ⟨c00, c01, c02, c10, c11, c12, _⟩ := HV.out W hW
    go_simp
    try with_reducible rfl
  simp only [List.setIfInBounds_toArray, List.set_cons_zero, List.set_cons_succ]
  refine take_to (i := 17) (v := ?_) 6 rfl rfl (by kernel_rfl) (by kernel_rfl) (by kernel_rfl) (fun _ _ _ h => h) (Or.inl ⟨by rfl, ?_⟩) hS ?_
  rotate_left
  · intro W hW
    obtain ⟨c00, c01, c02, c10, c11, c12, _⟩ := HV.out W hW
    go_simp
    try with_reducible rfl
  simp only [List.setIfInBounds_toArray, List.set_cons_zero, List.set_cons_succ]
  refine wpAnyH_done (by kernel_rfl) ?_ _
  refine NoPanic.normal ?_
  obtain ⟨_, _, _, _, _, _, bw⟩ := HV.out _ hd4
  go_wp2_with fail
  go_ret
  exact ⟨rfl, bw⟩
end Go.Proofs.Yteageheimghdiaa
