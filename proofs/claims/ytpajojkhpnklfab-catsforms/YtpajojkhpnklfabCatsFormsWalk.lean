/- CatsForms walked: it answers true, and turns nothing that was there. -/
import Derived.Test.YtpajojkhpnklfabCatsBegun
namespace Go.Proofs.Ytpajojkhpnklfab
open Go.RowKit

set_option maxHeartbeats 2000000 in
theorem catsForms_walk (w : World) : Calls Try.prog 4 #[] w fun e w' => e = .returned (.bool true) ∧ Below w.heap.size w w' := by
  go_enter Try.func4, Try.ntmps4
  go_wp2_with fail
  refine (begun_true _).mono ?_
  rintro e w1 ⟨rfl, b1⟩
  go_wp2_with fail
  refine (takeSet_any (some ⟨w1.heap.size, 0, none⟩) 1 1 [0] _ (row_lit w1 5 [0] 1 rfl (by omega) (byt_of _ rfl))).mono ?_
  rintro e w2 ⟨s2, k2, c2, rfl, o2, b2⟩
  rw [show tsN [0] = 1 from rfl, show tsE [0] = 0 from rfl]
  replace b1 := ext_trans b1 (ext_trans (below_alloc _ _) b2)
  clear o2 b2
  go_wp2_with fail
  refine (takeSet_any none 0 0 [] _ (Row.nil _)).mono ?_
  rintro e w3 ⟨s3, k3, c3, rfl, o3, b3⟩
  rw [show tsN [] = 0 from rfl, show tsE [] = 3 from rfl]
  replace b1 := ext_trans b1 b3
  clear o3 b3
  go_wp2_with fail
  refine (takeSet_any (some ⟨w3.heap.size, 0, none⟩) 5 5 [2, 0, 5, 0, 5] _ (row_lit w3 5 [2, 0, 5, 0, 5] 5 rfl (by omega) (byt_of _ rfl))).mono ?_
  rintro e w4 ⟨s4, k4, c4, rfl, o4, b4⟩
  rw [show tsN [2, 0, 5, 0, 5] = 0 from rfl, show tsE [2, 0, 5, 0, 5] = 2 from rfl]
  replace b1 := ext_trans b1 (ext_trans (below_alloc _ _) b4)
  clear o4 b4
  go_wp2_with fail
  refine (takeSet_any (some ⟨w4.heap.size, 0, none⟩) 5 5 [2, 0, 5, 0, 4] _ (row_lit w4 5 [2, 0, 5, 0, 4] 5 rfl (by omega) (byt_of _ rfl))).mono ?_
  rintro e w5 ⟨s5, k5, c5, rfl, o5, b5⟩
  rw [show tsN [2, 0, 5, 0, 4] = 0 from rfl, show tsE [2, 0, 5, 0, 4] = 2 from rfl]
  replace b1 := ext_trans b1 (ext_trans (below_alloc _ _) b5)
  clear o5 b5
  go_wp2_with fail
  refine (takeSet_any (some ⟨w5.heap.size, 0, none⟩) 4 4 [2, 0, 5, 0] _ (row_lit w5 5 [2, 0, 5, 0] 4 rfl (by omega) (byt_of _ rfl))).mono ?_
  rintro e w6 ⟨s6, k6, c6, rfl, o6, b6⟩
  rw [show tsN [2, 0, 5, 0] = 0 from rfl, show tsE [2, 0, 5, 0] = 3 from rfl]
  replace b1 := ext_trans b1 (ext_trans (below_alloc _ _) b6)
  clear o6 b6
  go_wp2_with fail
  refine (takeSet_any (some ⟨w6.heap.size, 0, none⟩) 7 7 [2, 0, 5, 1, 0, 9, 9] _ (row_lit w6 5 [2, 0, 5, 1, 0, 9, 9] 7 rfl (by omega) (byt_of _ rfl))).mono ?_
  rintro e w7 ⟨s7, k7, c7, rfl, o7, b7⟩
  rw [show tsN [2, 0, 5, 1, 0, 9, 9] = 5 from rfl, show tsE [2, 0, 5, 1, 0, 9, 9] = 0 from rfl]
  replace b1 := ext_trans b1 (ext_trans (below_alloc _ _) b7)
  clear o7 b7
  go_wp2_with fail
  go_ret
  exact ⟨rfl, b1⟩
end Go.Proofs.Ytpajojkhpnklfab
