/- That may2 does something: what the statements ask first. -/
import Derived.Test.YthhpfpihgmhlbaaM2May
namespace Go.Proofs.Ythhpfpihgmhlbaa
open Go.RowKit

/-- One category that vouches, one that is owned, at block g. -/
def sureS (g : Nat) (c : Int) : Sv := ⟨none, 0, 0, [], some ⟨g, 0, none⟩, 1, 1, [c], none, 0, 0, []⟩
def ownr (g : Nat) (c : Int) : Sv := ⟨none, 0, 0, [], none, 0, 0, [], some ⟨g, 0, none⟩, 1, 1, [c]⟩
theorem sm_none (w : World) : Sm Sv.none w := ⟨Sv.none_in _, Srt.nil, Srt.nil, Srt.nil, by simp [Sv.none], by simp [Sv.none], by simp [Sv.none]⟩
theorem sm_lone {W : World} {g : Nat} {c : Int} (h : RowW W (some ⟨g, 0, none⟩) 1 1 [c]) : Sm (lone g c) W := ⟨lone_in h, srt_one _, Srt.nil, Srt.nil, by simp [lone], by simp [lone], by simp [lone]⟩
theorem sm_sure {W : World} {g : Nat} {c : Int} (h : RowW W (some ⟨g, 0, none⟩) 1 1 [c]) : Sm (sureS g c) W := ⟨⟨RowW.nil _, h, RowW.nil _⟩, Srt.nil, srt_one _, Srt.nil, by simp [sureS], by simp [sureS], by simp [sureS]⟩
theorem sm_ownr {W : World} {g : Nat} {c : Int} (h : RowW W (some ⟨g, 0, none⟩) 1 1 [c]) : Sm (ownr g c) W := ⟨⟨RowW.nil _, RowW.nil _, h⟩, Srt.nil, Srt.nil, srt_one _, by simp [ownr], by simp [ownr], by simp [ownr]⟩

set_option maxHeartbeats 4000000 in
theorem begun10_true (w : World) : Calls Try.prog 8 #[] w fun e w' => e = .returned (.bool true) ∧ Below w.heap.size w w' := by
  go_enter Try.func8, Try.ntmps8
  go_wp2_with fail
  obtain ⟨W0, hW0⟩ : ∃ V, V = ((w.alloc (Obj.cells #[.int .u16 3] 33)).alloc (Obj.cells #[.slice none 0 0, .slice none 0 0, .slice none 0 0] 24)).alloc (Obj.cells #[.slice (some ⟨w.heap.size, 0, none⟩) 1 1, .slice none 0 0, .slice none 0 0] 24) := ⟨_, rfl⟩
  rw [← hW0]
  have HK : Hid (∀ W, Below W0.heap.size W0 W → (W.cell? ⟨w.heap.size + 1, 0, none⟩ = some (.slice none 0 0) ∧ W.cell? ⟨w.heap.size + 1, 1, none⟩ = some (.slice none 0 0) ∧ W.cell? ⟨w.heap.size + 1, 2, none⟩ = some (.slice none 0 0) ∧ W.cell? ⟨w.heap.size + 1 + 1, 0, none⟩ = some (.slice (some ⟨w.heap.size, 0, none⟩) 1 1) ∧ W.cell? ⟨w.heap.size + 1 + 1, 1, none⟩ = some (.slice none 0 0) ∧ W.cell? ⟨w.heap.size + 1 + 1, 2, none⟩ = some (.slice none 0 0)) ∧ RowW W (some ⟨w.heap.size, 0, none⟩) 1 1 [3] ∧ Below w.heap.size w W) := fun W h => by
    rw [hW0] at h
    have d2 := h
    have d1 := ext_trans (below_alloc ((w.alloc (Obj.cells #[.int .u16 3] 33)).alloc (Obj.cells #[.slice none 0 0, .slice none 0 0, .slice none 0 0] 24)) (Obj.cells #[.slice (some ⟨w.heap.size, 0, none⟩) 1 1, .slice none 0 0, .slice none 0 0] 24)) d2
    have d0 := ext_trans (below_alloc (w.alloc (Obj.cells #[.int .u16 3] 33)) (Obj.cells #[.slice none 0 0, .slice none 0 0, .slice none 0 0] 24)) d1
    have e0 := sv_heap_new_at (w.alloc (Obj.cells #[.int .u16 3] 33)) (Obj.cells #[.slice none 0 0, .slice none 0 0, .slice none 0 0] 24) (w.heap.size + 1) (by simp)
    replace e0 := (d1.block _ (Array.getElem?_eq_some_iff.1 e0).1).trans e0
    have e1 := sv_heap_new_at ((w.alloc (Obj.cells #[.int .u16 3] 33)).alloc (Obj.cells #[.slice none 0 0, .slice none 0 0, .slice none 0 0] 24)) (Obj.cells #[.slice (some ⟨w.heap.size, 0, none⟩) 1 1, .slice none 0 0, .slice none 0 0] 24) (w.heap.size + 1 + 1) (by simp)
    replace e1 := (d2.block _ (Array.getElem?_eq_some_iff.1 e1).1).trans e1
    exact ⟨⟨sv_cell_of_heap e0 0 _ rfl, sv_cell_of_heap e0 1 _ rfl, sv_cell_of_heap e0 2 _ rfl, sv_cell_of_heap e1 0 _ rfl, sv_cell_of_heap e1 1 _ rfl, sv_cell_of_heap e1 2 _ rfl⟩, (roww_lit_at w _ rfl 33 [3] 1 rfl (by omega) (wrd_of _ (by decide))).below d0, ext_trans (below_alloc _ _) d0⟩
  have hu0 := Below.refl W0.heap.size W0
  clear hW0
  obtain ⟨⟨c00, c01, c02, c10, c11, c12⟩, hrow, _⟩ := HK.out _ hu0
  refine (sees2_is true (show Hid (true = true ↔ SeesP (lone w.heap.size 3) Sv.none) from by show _ ↔ _; simp [SeesP, Sv.none, lone]) _ (sm_lone hrow) (sm_none _)).mono ?_
  rintro e u1 ⟨rfl, hu1⟩
  clear c00 c01 c02 c10 c11 c12 hrow
  replace hu1 := ext_trans hu0 hu1
  obtain ⟨⟨c00, c01, c02, c10, c11, c12⟩, hrow, hfin⟩ := HK.out _ hu1
  clear hrow
  go_wp2_with fail
  clear hfin c00 c01 c02 c10 c11 c12
  obtain ⟨⟨c00, c01, c02, c10, c11, c12⟩, hrow, _⟩ := HK.out _ hu1
  refine (sees2_is false (show Hid (false = true ↔ SeesP Sv.none (lone w.heap.size 3)) from by show _ ↔ _; simp [SeesP, Sv.none, lone]) _ (sm_none _) (sm_lone hrow)).mono ?_
  rintro e u2 ⟨rfl, hu2⟩
  clear c00 c01 c02 c10 c11 c12 hrow
  replace hu2 := ext_trans hu1 hu2
  obtain ⟨⟨c00, c01, c02, c10, c11, c12⟩, hrow, hfin⟩ := HK.out _ hu2
  clear hrow
  go_wp2_with fail
  clear hfin c00 c01 c02 c10 c11 c12
  obtain ⟨⟨c00, c01, c02, c10, c11, c12⟩, hrow, _⟩ := HK.out _ hu2
  refine (turns2_is true (show Hid (true = true ↔ TurnsP Sv.none (lone w.heap.size 3)) from by show _ ↔ _; simp [TurnsP, Sv.none, lone]) _ (sm_none _) (sm_lone hrow)).mono ?_
  rintro e u3 ⟨rfl, hu3⟩
  clear c00 c01 c02 c10 c11 c12 hrow
  replace hu3 := ext_trans hu2 hu3
  obtain ⟨⟨c00, c01, c02, c10, c11, c12⟩, hrow, hfin⟩ := HK.out _ hu3
  clear hrow
  go_wp2_with fail
  clear hfin c00 c01 c02 c10 c11 c12
  obtain ⟨⟨c00, c01, c02, c10, c11, c12⟩, hrow, _⟩ := HK.out _ hu3
  refine (turns2_is false (show Hid (false = true ↔ TurnsP (lone w.heap.size 3) Sv.none) from by show _ ↔ _; simp [TurnsP, Sv.none, lone]) _ (sm_lone hrow) (sm_none _)).mono ?_
  rintro e u4 ⟨rfl, hu4⟩
  clear c00 c01 c02 c10 c11 c12 hrow
  replace hu4 := ext_trans hu3 hu4
  obtain ⟨⟨c00, c01, c02, c10, c11, c12⟩, hrow, hfin⟩ := HK.out _ hu4
  clear hrow
  go_wp2_with fail
  clear hfin c00 c01 c02 c10 c11 c12
  obtain ⟨⟨c00, c01, c02, c10, c11, c12⟩, hrow, _⟩ := HK.out _ hu4
  refine (rises2_is true true (show Hid (true = true ↔ TurnsP Sv.none (lone w.heap.size 3)) from by show _ ↔ _; simp [TurnsP, Sv.none, lone]) (show Hid (true = true ↔ OwnsP Sv.none (lone w.heap.size 3)) from by show _ ↔ _; simp [OwnsP, Sv.none, lone]) _ (sm_none _) (sm_lone hrow)).mono ?_
  rintro e u5 ⟨rfl, hu5⟩
  clear c00 c01 c02 c10 c11 c12 hrow
  replace hu5 := ext_trans hu4 hu5
  rw [show why2 true true = 0 from rfl]
  obtain ⟨⟨c00, c01, c02, c10, c11, c12⟩, hrow, hfin⟩ := HK.out _ hu5
  clear hrow
  go_wp2_with fail
  clear hfin c00 c01 c02 c10 c11 c12
  obtain ⟨⟨c00, c01, c02, c10, c11, c12⟩, hrow, _⟩ := HK.out _ hu5
  refine (rises2_is false true (show Hid (false = true ↔ TurnsP (lone w.heap.size 3) Sv.none) from by show _ ↔ _; simp [TurnsP, Sv.none, lone]) (show Hid (true = true ↔ OwnsP (lone w.heap.size 3) Sv.none) from by show _ ↔ _; simp [OwnsP, Sv.none, lone]) _ (sm_lone hrow) (sm_none _)).mono ?_
  rintro e u6 ⟨rfl, hu6⟩
  clear c00 c01 c02 c10 c11 c12 hrow
  replace hu6 := ext_trans hu5 hu6
  rw [show why2 true false = 6 from rfl]
  obtain ⟨⟨c00, c01, c02, c10, c11, c12⟩, hrow, hfin⟩ := HK.out _ hu6
  clear hrow
  go_wp2_with fail
  clear hfin c00 c01 c02 c10 c11 c12
  obtain ⟨⟨c00, c01, c02, c10, c11, c12⟩, hrow, _⟩ := HK.out _ hu6
  refine (makes2_is false true (show Hid (false = true ↔ TurnsP (lone w.heap.size 3) Sv.none) from by show _ ↔ _; simp [TurnsP, Sv.none, lone]) (show Hid (true = true ↔ Sv.none.zs = []) from by show _ ↔ _; simp [Sv.none]) _ (sm_lone hrow) (sm_none _)).mono ?_
  rintro e u7 ⟨rfl, hu7⟩
  clear c00 c01 c02 c10 c11 c12 hrow
  replace hu7 := ext_trans hu6 hu7
  rw [show why2 true false = 6 from rfl]
  obtain ⟨⟨c00, c01, c02, c10, c11, c12⟩, hrow, hfin⟩ := HK.out _ hu7
  clear hrow
  clear hfin
  replace c00 := sv_cell_old (Obj.cells #[.int .u16 3] 33) c00
  replace c01 := sv_cell_old (Obj.cells #[.int .u16 3] 33) c01
  replace c02 := sv_cell_old (Obj.cells #[.int .u16 3] 33) c02
  replace c10 := sv_cell_old (Obj.cells #[.int .u16 3] 33) c10
  replace c11 := sv_cell_old (Obj.cells #[.int .u16 3] 33) c11
  replace c12 := sv_cell_old (Obj.cells #[.int .u16 3] 33) c12
  go_wp2_with fail
  clear c00 c01 c02 c10 c11 c12
  have hu8 := ext_trans hu7 (below_alloc u7 (Obj.cells #[.int .u16 3] 33))
  obtain ⟨⟨c00, c01, c02, c10, c11, c12⟩, hrow, _⟩ := HK.out _ hu8
  have hro := roww_lit_at u7 _ rfl 33 [3] 1 rfl (by omega) (wrd_of _ (by decide))
  refine (sees2_is true (show Hid (true = true ↔ SeesP (ownr u7.heap.size 3) (lone w.heap.size 3)) from by show _ ↔ _; simp [SeesP, lone, ownr]) _ (sm_ownr hro) (sm_lone hrow)).mono ?_
  rintro e u9 ⟨rfl, hu9⟩
  obtain ⟨_, _, hfin⟩ := HK.out _ (ext_trans hu8 hu9)
  clear hro hrow c00 c01 c02 c10 c11 c12
  go_wp2_with fail
  go_ret
  exact ⟨rfl, hfin⟩
end Go.Proofs.Ythhpfpihgmhlbaa
