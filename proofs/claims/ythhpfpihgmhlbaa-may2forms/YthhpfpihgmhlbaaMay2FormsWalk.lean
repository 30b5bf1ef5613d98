/- May2Forms walked: it answers true, and turns nothing that was there. -/
import Derived.Test.YthhpfpihgmhlbaaM2Begun
namespace Go.Proofs.Ythhpfpihgmhlbaa
open Go.RowKit

set_option maxHeartbeats 8000000 in
theorem may2Forms_walk (w : World) : Calls Try.prog 7 #[] w fun e w' => e = .returned (.bool true) ∧ Below w.heap.size w w' := by
  go_enter Try.func7, Try.ntmps7
  go_wp2_with fail
  refine (begun10_true _).mono ?_
  rintro e w1 ⟨rfl, hb1⟩
  go_wp2_with fail
  obtain ⟨W0, hW0⟩ : ∃ V, V = ((((w1.alloc (Obj.cells #[.int .u16 3] 33)).alloc (Obj.cells #[.slice none 0 0, .slice none 0 0, .slice none 0 0] 24)).alloc (Obj.cells #[.slice none 0 0, .slice none 0 0, .slice (some ⟨w1.heap.size, 0, none⟩) 1 1] 24)).alloc (Obj.cells #[.slice (some ⟨w1.heap.size, 0, none⟩) 1 1, .slice none 0 0, .slice none 0 0] 24)).alloc (Obj.cells #[.slice none 0 0, .slice (some ⟨w1.heap.size, 0, none⟩) 1 1, .slice none 0 0] 24) := ⟨_, rfl⟩
  rw [← hW0]
  have HK : Hid (∀ W, Below W0.heap.size W0 W → (W.cell? ⟨w1.heap.size + 1, 0, none⟩ = some (.slice none 0 0) ∧ W.cell? ⟨w1.heap.size + 1, 1, none⟩ = some (.slice none 0 0) ∧ W.cell? ⟨w1.heap.size + 1, 2, none⟩ = some (.slice none 0 0) ∧ W.cell? ⟨w1.heap.size + 1 + 1, 0, none⟩ = some (.slice none 0 0) ∧ W.cell? ⟨w1.heap.size + 1 + 1, 1, none⟩ = some (.slice none 0 0) ∧ W.cell? ⟨w1.heap.size + 1 + 1, 2, none⟩ = some (.slice (some ⟨w1.heap.size, 0, none⟩) 1 1) ∧ W.cell? ⟨w1.heap.size + 1 + 1 + 1, 0, none⟩ = some (.slice (some ⟨w1.heap.size, 0, none⟩) 1 1) ∧ W.cell? ⟨w1.heap.size + 1 + 1 + 1, 1, none⟩ = some (.slice none 0 0) ∧ W.cell? ⟨w1.heap.size + 1 + 1 + 1, 2, none⟩ = some (.slice none 0 0) ∧ W.cell? ⟨w1.heap.size + 1 + 1 + 1 + 1, 0, none⟩ = some (.slice none 0 0) ∧ W.cell? ⟨w1.heap.size + 1 + 1 + 1 + 1, 1, none⟩ = some (.slice (some ⟨w1.heap.size, 0, none⟩) 1 1) ∧ W.cell? ⟨w1.heap.size + 1 + 1 + 1 + 1, 2, none⟩ = some (.slice none 0 0)) ∧ RowW W (some ⟨w1.heap.size, 0, none⟩) 1 1 [3] ∧ Below w.heap.size w W) := fun W h => by
    rw [hW0] at h
    have d4 := h
    have d3 := ext_trans (below_alloc ((((w1.alloc (Obj.cells #[.int .u16 3] 33)).alloc (Obj.cells #[.slice none 0 0, .slice none 0 0, .slice none 0 0] 24)).alloc (Obj.cells #[.slice none 0 0, .slice none 0 0, .slice (some ⟨w1.heap.size, 0, none⟩) 1 1] 24)).alloc (Obj.cells #[.slice (some ⟨w1.heap.size, 0, none⟩) 1 1, .slice none 0 0, .slice none 0 0] 24)) (Obj.cells #[.slice none 0 0, .slice (some ⟨w1.heap.size, 0, none⟩) 1 1, .slice none 0 0] 24)) d4
    have d2 := ext_trans (below_alloc (((w1.alloc (Obj.cells #[.int .u16 3] 33)).alloc (Obj.cells #[.slice none 0 0, .slice none 0 0, .slice none 0 0] 24)).alloc (Obj.cells #[.slice none 0 0, .slice none 0 0, .slice (some ⟨w1.heap.size, 0, none⟩) 1 1] 24)) (Obj.cells #[.slice (some ⟨w1.heap.size, 0, none⟩) 1 1, .slice none 0 0, .slice none 0 0] 24)) d3
    have d1 := ext_trans (below_alloc ((w1.alloc (Obj.cells #[.int .u16 3] 33)).alloc (Obj.cells #[.slice none 0 0, .slice none 0 0, .slice none 0 0] 24)) (Obj.cells #[.slice none 0 0, .slice none 0 0, .slice (some ⟨w1.heap.size, 0, none⟩) 1 1] 24)) d2
    have d0 := ext_trans (below_alloc (w1.alloc (Obj.cells #[.int .u16 3] 33)) (Obj.cells #[.slice none 0 0, .slice none 0 0, .slice none 0 0] 24)) d1
    have e0 := sv_heap_new_at (w1.alloc (Obj.cells #[.int .u16 3] 33)) (Obj.cells #[.slice none 0 0, .slice none 0 0, .slice none 0 0] 24) (w1.heap.size + 1) (by simp)
    replace e0 := (d1.block _ (Array.getElem?_eq_some_iff.1 e0).1).trans e0
    have e1 := sv_heap_new_at ((w1.alloc (Obj.cells #[.int .u16 3] 33)).alloc (Obj.cells #[.slice none 0 0, .slice none 0 0, .slice none 0 0] 24)) (Obj.cells #[.slice none 0 0, .slice none 0 0, .slice (some ⟨w1.heap.size, 0, none⟩) 1 1] 24) (w1.heap.size + 1 + 1) (by simp)
    replace e1 := (d2.block _ (Array.getElem?_eq_some_iff.1 e1).1).trans e1
    have e2 := sv_heap_new_at (((w1.alloc (Obj.cells #[.int .u16 3] 33)).alloc (Obj.cells #[.slice none 0 0, .slice none 0 0, .slice none 0 0] 24)).alloc (Obj.cells #[.slice none 0 0, .slice none 0 0, .slice (some ⟨w1.heap.size, 0, none⟩) 1 1] 24)) (Obj.cells #[.slice (some ⟨w1.heap.size, 0, none⟩) 1 1, .slice none 0 0, .slice none 0 0] 24) (w1.heap.size + 1 + 1 + 1) (by simp)
    replace e2 := (d3.block _ (Array.getElem?_eq_some_iff.1 e2).1).trans e2
    have e3 := sv_heap_new_at ((((w1.alloc (Obj.cells #[.int .u16 3] 33)).alloc (Obj.cells #[.slice none 0 0, .slice none 0 0, .slice none 0 0] 24)).alloc (Obj.cells #[.slice none 0 0, .slice none 0 0, .slice (some ⟨w1.heap.size, 0, none⟩) 1 1] 24)).alloc (Obj.cells #[.slice (some ⟨w1.heap.size, 0, none⟩) 1 1, .slice none 0 0, .slice none 0 0] 24)) (Obj.cells #[.slice none 0 0, .slice (some ⟨w1.heap.size, 0, none⟩) 1 1, .slice none 0 0] 24) (w1.heap.size + 1 + 1 + 1 + 1) (by simp)
    replace e3 := (d4.block _ (Array.getElem?_eq_some_iff.1 e3).1).trans e3
    exact ⟨⟨sv_cell_of_heap e0 0 _ rfl, sv_cell_of_heap e0 1 _ rfl, sv_cell_of_heap e0 2 _ rfl, sv_cell_of_heap e1 0 _ rfl, sv_cell_of_heap e1 1 _ rfl, sv_cell_of_heap e1 2 _ rfl, sv_cell_of_heap e2 0 _ rfl, sv_cell_of_heap e2 1 _ rfl, sv_cell_of_heap e2 2 _ rfl, sv_cell_of_heap e3 0 _ rfl, sv_cell_of_heap e3 1 _ rfl, sv_cell_of_heap e3 2 _ rfl⟩, (roww_lit_at w1 _ rfl 33 [3] 1 rfl (by omega) (wrd_of _ (by decide))).below d0, ext_trans hb1 (ext_trans (below_alloc _ _) d0)⟩
  have hu0 := Below.refl W0.heap.size W0
  clear hW0
  obtain ⟨⟨c00, c01, c02, c10, c11, c12, c20, c21, c22, c30, c31, c32⟩, hrow, _⟩ := HK.out _ hu0
  refine (sees2_is true (show Hid (true = true ↔ SeesP (ownr w1.heap.size 3) (lone w1.heap.size 3)) from by show _ ↔ _; simp [SeesP, lone, ownr]) _ (sm_ownr hrow) (sm_lone hrow)).mono ?_
  rintro e u1 ⟨rfl, hu1⟩
  clear c00 c01 c02 c10 c11 c12 c20 c21 c22 c30 c31 c32 hrow
  replace hu1 := ext_trans hu0 hu1
  obtain ⟨⟨c00, c01, c02, c10, c11, c12, c20, c21, c22, c30, c31, c32⟩, hrow, hfin⟩ := HK.out _ hu1
  clear hrow
  go_wp2_with fail
  clear hfin c00 c01 c02 c10 c11 c12 c20 c21 c22 c30 c31 c32
  obtain ⟨⟨c00, c01, c02, c10, c11, c12, c20, c21, c22, c30, c31, c32⟩, hrow, _⟩ := HK.out _ hu1
  refine (turns2_is true (show Hid (true = true ↔ TurnsP (ownr w1.heap.size 3) (sureS w1.heap.size 3)) from by show _ ↔ _; simp [TurnsP, sureS, ownr]) _ (sm_ownr hrow) (sm_sure hrow)).mono ?_
  rintro e u2 ⟨rfl, hu2⟩
  clear c00 c01 c02 c10 c11 c12 c20 c21 c22 c30 c31 c32 hrow
  replace hu2 := ext_trans hu1 hu2
  obtain ⟨⟨c00, c01, c02, c10, c11, c12, c20, c21, c22, c30, c31, c32⟩, hrow, hfin⟩ := HK.out _ hu2
  clear hrow
  go_wp2_with fail
  clear hfin c00 c01 c02 c10 c11 c12 c20 c21 c22 c30 c31 c32
  obtain ⟨⟨c00, c01, c02, c10, c11, c12, c20, c21, c22, c30, c31, c32⟩, hrow, _⟩ := HK.out _ hu2
  refine (sees2_is true (show Hid (true = true ↔ SeesP Sv.none (sureS w1.heap.size 3)) from by show _ ↔ _; simp [SeesP, Sv.none, sureS]) _ (sm_none _) (sm_sure hrow)).mono ?_
  rintro e u3 ⟨rfl, hu3⟩
  clear c00 c01 c02 c10 c11 c12 c20 c21 c22 c30 c31 c32 hrow
  replace hu3 := ext_trans hu2 hu3
  obtain ⟨⟨c00, c01, c02, c10, c11, c12, c20, c21, c22, c30, c31, c32⟩, hrow, hfin⟩ := HK.out _ hu3
  clear hrow
  go_wp2_with fail
  clear hfin c00 c01 c02 c10 c11 c12 c20 c21 c22 c30 c31 c32
  obtain ⟨⟨c00, c01, c02, c10, c11, c12, c20, c21, c22, c30, c31, c32⟩, hrow, _⟩ := HK.out _ hu3
  refine (turns2_is false (show Hid (false = true ↔ TurnsP Sv.none (sureS w1.heap.size 3)) from by show _ ↔ _; simp [TurnsP, Sv.none, sureS]) _ (sm_none _) (sm_sure hrow)).mono ?_
  rintro e u4 ⟨rfl, hu4⟩
  clear c00 c01 c02 c10 c11 c12 c20 c21 c22 c30 c31 c32 hrow
  replace hu4 := ext_trans hu3 hu4
  obtain ⟨⟨c00, c01, c02, c10, c11, c12, c20, c21, c22, c30, c31, c32⟩, hrow, hfin⟩ := HK.out _ hu4
  clear hrow
  go_wp2_with fail
  clear hfin c00 c01 c02 c10 c11 c12 c20 c21 c22 c30 c31 c32
  obtain ⟨⟨c00, c01, c02, c10, c11, c12, c20, c21, c22, c30, c31, c32⟩, hrow, _⟩ := HK.out _ hu4
  refine (turns2_is true (show Hid (true = true ↔ TurnsP (sureS w1.heap.size 3) Sv.none) from by show _ ↔ _; simp [TurnsP, Sv.none, sureS]) _ (sm_sure hrow) (sm_none _)).mono ?_
  rintro e u5 ⟨rfl, hu5⟩
  clear c00 c01 c02 c10 c11 c12 c20 c21 c22 c30 c31 c32 hrow
  replace hu5 := ext_trans hu4 hu5
  obtain ⟨⟨c00, c01, c02, c10, c11, c12, c20, c21, c22, c30, c31, c32⟩, hrow, hfin⟩ := HK.out _ hu5
  clear hrow
  go_wp2_with fail
  clear hfin c00 c01 c02 c10 c11 c12 c20 c21 c22 c30 c31 c32
  obtain ⟨⟨c00, c01, c02, c10, c11, c12, c20, c21, c22, c30, c31, c32⟩, hrow, _⟩ := HK.out _ hu5
  refine (sees2_is false (show Hid (false = true ↔ SeesP (sureS w1.heap.size 3) Sv.none) from by show _ ↔ _; simp [SeesP, Sv.none, sureS]) _ (sm_sure hrow) (sm_none _)).mono ?_
  rintro e u6 ⟨rfl, hu6⟩
  clear c00 c01 c02 c10 c11 c12 c20 c21 c22 c30 c31 c32 hrow
  replace hu6 := ext_trans hu5 hu6
  obtain ⟨⟨c00, c01, c02, c10, c11, c12, c20, c21, c22, c30, c31, c32⟩, hrow, hfin⟩ := HK.out _ hu6
  clear hrow
  go_wp2_with fail
  clear hfin c00 c01 c02 c10 c11 c12 c20 c21 c22 c30 c31 c32
  obtain ⟨⟨c00, c01, c02, c10, c11, c12, c20, c21, c22, c30, c31, c32⟩, hrow, _⟩ := HK.out _ hu6
  refine (rises2_is true false (show Hid (true = true ↔ TurnsP Sv.none (ownr w1.heap.size 3)) from by show _ ↔ _; simp [TurnsP, Sv.none, ownr]) (show Hid (false = true ↔ OwnsP Sv.none (ownr w1.heap.size 3)) from by show _ ↔ _; simp [OwnsP, Sv.none, ownr]) _ (sm_none _) (sm_ownr hrow)).mono ?_
  rintro e u7 ⟨rfl, hu7⟩
  clear c00 c01 c02 c10 c11 c12 c20 c21 c22 c30 c31 c32 hrow
  replace hu7 := ext_trans hu6 hu7
  rw [show why2 false true = 5 from rfl]
  obtain ⟨⟨c00, c01, c02, c10, c11, c12, c20, c21, c22, c30, c31, c32⟩, hrow, hfin⟩ := HK.out _ hu7
  clear hrow
  go_wp2_with fail
  clear hfin c00 c01 c02 c10 c11 c12 c20 c21 c22 c30 c31 c32
  obtain ⟨⟨c00, c01, c02, c10, c11, c12, c20, c21, c22, c30, c31, c32⟩, hrow, _⟩ := HK.out _ hu7
  refine (rises2_is true true (show Hid (true = true ↔ TurnsP (ownr w1.heap.size 3) (ownr w1.heap.size 3)) from by show _ ↔ _; simp [TurnsP, ownr]) (show Hid (true = true ↔ OwnsP (ownr w1.heap.size 3) (ownr w1.heap.size 3)) from by show _ ↔ _; simp [OwnsP, ownr]) _ (sm_ownr hrow) (sm_ownr hrow)).mono ?_
  rintro e u8 ⟨rfl, hu8⟩
  clear c00 c01 c02 c10 c11 c12 c20 c21 c22 c30 c31 c32 hrow
  replace hu8 := ext_trans hu7 hu8
  rw [show why2 true true = 0 from rfl]
  obtain ⟨⟨c00, c01, c02, c10, c11, c12, c20, c21, c22, c30, c31, c32⟩, hrow, hfin⟩ := HK.out _ hu8
  clear hrow
  go_wp2_with fail
  clear hfin c00 c01 c02 c10 c11 c12 c20 c21 c22 c30 c31 c32
  obtain ⟨⟨c00, c01, c02, c10, c11, c12, c20, c21, c22, c30, c31, c32⟩, hrow, _⟩ := HK.out _ hu8
  refine (rises2_is true true (show Hid (true = true ↔ TurnsP (ownr w1.heap.size 3) (sureS w1.heap.size 3)) from by show _ ↔ _; simp [TurnsP, sureS, ownr]) (show Hid (true = true ↔ OwnsP (ownr w1.heap.size 3) (sureS w1.heap.size 3)) from by show _ ↔ _; simp [OwnsP, sureS, ownr]) _ (sm_ownr hrow) (sm_sure hrow)).mono ?_
  rintro e u9 ⟨rfl, hu9⟩
  clear c00 c01 c02 c10 c11 c12 c20 c21 c22 c30 c31 c32 hrow
  replace hu9 := ext_trans hu8 hu9
  rw [show why2 true true = 0 from rfl]
  obtain ⟨⟨c00, c01, c02, c10, c11, c12, c20, c21, c22, c30, c31, c32⟩, hrow, hfin⟩ := HK.out _ hu9
  clear hrow
  go_wp2_with fail
  clear hfin c00 c01 c02 c10 c11 c12 c20 c21 c22 c30 c31 c32
  obtain ⟨⟨c00, c01, c02, c10, c11, c12, c20, c21, c22, c30, c31, c32⟩, hrow, _⟩ := HK.out _ hu9
  refine (rises2_is false true (show Hid (false = true ↔ TurnsP (lone w1.heap.size 3) (sureS w1.heap.size 3)) from by show _ ↔ _; simp [TurnsP, lone, sureS]) (show Hid (true = true ↔ OwnsP (lone w1.heap.size 3) (sureS w1.heap.size 3)) from by show _ ↔ _; simp [OwnsP, lone, sureS]) _ (sm_lone hrow) (sm_sure hrow)).mono ?_
  rintro e u10 ⟨rfl, hu10⟩
  clear c00 c01 c02 c10 c11 c12 c20 c21 c22 c30 c31 c32 hrow
  replace hu10 := ext_trans hu9 hu10
  rw [show why2 true false = 6 from rfl]
  obtain ⟨⟨c00, c01, c02, c10, c11, c12, c20, c21, c22, c30, c31, c32⟩, hrow, hfin⟩ := HK.out _ hu10
  clear hrow
  go_wp2_with fail
  clear hfin c00 c01 c02 c10 c11 c12 c20 c21 c22 c30 c31 c32
  obtain ⟨⟨c00, c01, c02, c10, c11, c12, c20, c21, c22, c30, c31, c32⟩, hrow, _⟩ := HK.out _ hu10
  refine (rises2_is false true (show Hid (false = true ↔ TurnsP (lone w1.heap.size 3) Sv.none) from by show _ ↔ _; simp [TurnsP, Sv.none, lone]) (show Hid (true = true ↔ OwnsP (lone w1.heap.size 3) Sv.none) from by show _ ↔ _; simp [OwnsP, Sv.none, lone]) _ (sm_lone hrow) (sm_none _)).mono ?_
  rintro e u11 ⟨rfl, hu11⟩
  clear c00 c01 c02 c10 c11 c12 c20 c21 c22 c30 c31 c32 hrow
  replace hu11 := ext_trans hu10 hu11
  rw [show why2 true false = 6 from rfl]
  obtain ⟨⟨c00, c01, c02, c10, c11, c12, c20, c21, c22, c30, c31, c32⟩, hrow, hfin⟩ := HK.out _ hu11
  clear hrow
  go_wp2_with fail
  clear hfin c00 c01 c02 c10 c11 c12 c20 c21 c22 c30 c31 c32
  obtain ⟨⟨c00, c01, c02, c10, c11, c12, c20, c21, c22, c30, c31, c32⟩, hrow, _⟩ := HK.out _ hu11
  refine (rises2_is true true (show Hid (true = true ↔ TurnsP (sureS w1.heap.size 3) (lone w1.heap.size 3)) from by show _ ↔ _; simp [TurnsP, lone, sureS]) (show Hid (true = true ↔ OwnsP (sureS w1.heap.size 3) (lone w1.heap.size 3)) from by show _ ↔ _; simp [OwnsP, lone, sureS]) _ (sm_sure hrow) (sm_lone hrow)).mono ?_
  rintro e u12 ⟨rfl, hu12⟩
  clear c00 c01 c02 c10 c11 c12 c20 c21 c22 c30 c31 c32 hrow
  replace hu12 := ext_trans hu11 hu12
  rw [show why2 true true = 0 from rfl]
  obtain ⟨⟨c00, c01, c02, c10, c11, c12, c20, c21, c22, c30, c31, c32⟩, hrow, hfin⟩ := HK.out _ hu12
  clear hrow
  go_wp2_with fail
  clear hfin c00 c01 c02 c10 c11 c12 c20 c21 c22 c30 c31 c32
  obtain ⟨⟨c00, c01, c02, c10, c11, c12, c20, c21, c22, c30, c31, c32⟩, hrow, _⟩ := HK.out _ hu12
  refine (makes2_is true false (show Hid (true = true ↔ TurnsP (ownr w1.heap.size 3) (ownr w1.heap.size 3)) from by show _ ↔ _; simp [TurnsP, ownr]) (show Hid (false = true ↔ (ownr w1.heap.size 3).zs = []) from by show _ ↔ _; simp [ownr]) _ (sm_ownr hrow) (sm_ownr hrow)).mono ?_
  rintro e u13 ⟨rfl, hu13⟩
  clear c00 c01 c02 c10 c11 c12 c20 c21 c22 c30 c31 c32 hrow
  replace hu13 := ext_trans hu12 hu13
  rw [show why2 false true = 5 from rfl]
  obtain ⟨⟨c00, c01, c02, c10, c11, c12, c20, c21, c22, c30, c31, c32⟩, hrow, hfin⟩ := HK.out _ hu13
  clear hrow
  go_wp2_with fail
  clear hfin c00 c01 c02 c10 c11 c12 c20 c21 c22 c30 c31 c32
  obtain ⟨⟨c00, c01, c02, c10, c11, c12, c20, c21, c22, c30, c31, c32⟩, hrow, _⟩ := HK.out _ hu13
  refine (makes2_is false true (show Hid (false = true ↔ TurnsP Sv.none (sureS w1.heap.size 3)) from by show _ ↔ _; simp [TurnsP, Sv.none, sureS]) (show Hid (true = true ↔ (sureS w1.heap.size 3).zs = []) from by show _ ↔ _; simp [sureS]) _ (sm_none _) (sm_sure hrow)).mono ?_
  rintro e u14 ⟨rfl, hu14⟩
  clear c00 c01 c02 c10 c11 c12 c20 c21 c22 c30 c31 c32 hrow
  replace hu14 := ext_trans hu13 hu14
  rw [show why2 true false = 6 from rfl]
  obtain ⟨⟨c00, c01, c02, c10, c11, c12, c20, c21, c22, c30, c31, c32⟩, hrow, hfin⟩ := HK.out _ hu14
  clear hrow
  go_wp2_with fail
  clear hfin c00 c01 c02 c10 c11 c12 c20 c21 c22 c30 c31 c32
  obtain ⟨⟨c00, c01, c02, c10, c11, c12, c20, c21, c22, c30, c31, c32⟩, hrow, _⟩ := HK.out _ hu14
  refine (makes2_is true true (show Hid (true = true ↔ TurnsP (ownr w1.heap.size 3) (sureS w1.heap.size 3)) from by show _ ↔ _; simp [TurnsP, sureS, ownr]) (show Hid (true = true ↔ (sureS w1.heap.size 3).zs = []) from by show _ ↔ _; simp [sureS]) _ (sm_ownr hrow) (sm_sure hrow)).mono ?_
  rintro e u15 ⟨rfl, hu15⟩
  clear c00 c01 c02 c10 c11 c12 c20 c21 c22 c30 c31 c32 hrow
  replace hu15 := ext_trans hu14 hu15
  rw [show why2 true true = 0 from rfl]
  obtain ⟨⟨c00, c01, c02, c10, c11, c12, c20, c21, c22, c30, c31, c32⟩, hrow, hfin⟩ := HK.out _ hu15
  clear hrow
  go_wp2_with fail
  clear hfin c00 c01 c02 c10 c11 c12 c20 c21 c22 c30 c31 c32
  obtain ⟨⟨c00, c01, c02, c10, c11, c12, c20, c21, c22, c30, c31, c32⟩, hrow, _⟩ := HK.out _ hu15
  refine (makes2_is true true (show Hid (true = true ↔ TurnsP (lone w1.heap.size 3) (lone w1.heap.size 3)) from by show _ ↔ _; simp [TurnsP, lone]) (show Hid (true = true ↔ (lone w1.heap.size 3).zs = []) from by show _ ↔ _; simp [lone]) _ (sm_lone hrow) (sm_lone hrow)).mono ?_
  rintro e u16 ⟨rfl, hu16⟩
  clear c00 c01 c02 c10 c11 c12 c20 c21 c22 c30 c31 c32 hrow
  replace hu16 := ext_trans hu15 hu16
  rw [show why2 true true = 0 from rfl]
  obtain ⟨⟨c00, c01, c02, c10, c11, c12, c20, c21, c22, c30, c31, c32⟩, hrow, hfin⟩ := HK.out _ hu16
  clear hrow
  go_wp2_with fail
  go_ret
  exact ⟨rfl, hfin⟩
end Go.Proofs.Ythhpfpihgmhlbaa
