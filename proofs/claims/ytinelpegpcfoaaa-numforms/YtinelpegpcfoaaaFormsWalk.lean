/- NumForms walked: it answers true, and turns nothing that was there. -/
import Derived.Test.YtinelpegpcfoaaaBegun
namespace Go.Proofs.Ytinelpegpcfoaaa
open Go.RowKit

set_option maxHeartbeats 1000000 in
theorem numForms_walk (w : World) :
    Calls Try.prog 7 #[] w fun e w' => e = .returned (.bool true) ∧ Below w.heap.size w w' := by
  go_enter Try.func7, Try.ntmps7
  go_wp2_with fail
  refine (begun_true _).mono ?_
  rintro e w1 ⟨rfl, hb1⟩
  go_wp2_with fail
  refine (take_bel _ 2 2 2 [255, 255] _ (row_lit w1 5 [255, 255] 2 rfl (by omega) (byt_of _ rfl))).mono ?_
  rintro e w2 ⟨rfl, hb2⟩
  replace hb2 := ext_trans (ext_trans hb1 (below_alloc _ _)) hb2
  rw [show takeV [255, 255] 2 = 65535 from rfl, show takeE [255, 255] 2 = 0 from rfl]
  go_wp2_with fail
  refine (take_bel none 0 0 0 [] _ (Row.nil _)).mono ?_
  rintro e w3 ⟨rfl, hb3⟩
  replace hb3 := ext_trans hb2 hb3
  rw [show takeV [] 0 = 0 from rfl, show takeE [] 0 = 0 from rfl]
  go_wp2_with fail
  refine (take_bel none 0 0 1 [] _ (Row.nil _)).mono ?_
  rintro e w4 ⟨rfl, hb4⟩
  replace hb4 := ext_trans hb3 hb4
  rw [show takeV [] 1 = 0 from rfl, show takeE [] 1 = 3 from rfl]
  go_wp2_with fail
  refine (take_bel none 0 0 9 [] _ (Row.nil _)).mono ?_
  rintro e w5 ⟨rfl, hb5⟩
  replace hb5 := ext_trans hb4 hb5
  rw [show takeV [] 9 = 0 from rfl, show takeE [] 9 = 1 from rfl]
  go_wp2_with fail
  refine (take_bel none 0 0 (-1) [] _ (Row.nil _)).mono ?_
  rintro e w6 ⟨rfl, hb6⟩
  replace hb6 := ext_trans hb5 hb6
  rw [show takeV [] (-1) = 0 from rfl, show takeE [] (-1) = 1 from rfl]
  go_wp2_with fail
  refine (takeBytes_in w6.heap.size 0 2 2 [0, 0] _ (row_lit w6 5 [0, 0] 2 rfl (by omega) (byt_of _ rfl)) (by omega) (by omega) 0 rfl (by omega)).mono ?_
  rintro e w7 ⟨g7, cap7, rfl, hown7, hb7⟩
  replace hb7 := ext_trans (ext_trans hb6 (below_alloc _ _)) hb7
  clear hown7 hb1 hb2 hb3 hb4 hb5 hb6
  go_wp2_with fail
  refine (takeBytes_short_bel (some ⟨w7.heap.size, 0, none⟩) 3 3 [0, 2, 7] _ (row_lit w7 5 [0, 2, 7] 3 rfl (by omega) (byt_of _ rfl)) (.inr (by decide))).mono ?_
  rintro e w8 ⟨rfl, hb8⟩
  replace hb8 := ext_trans (ext_trans hb7 (below_alloc _ _)) hb8
  go_wp2_with fail
  refine (takeBytes_short_bel (some ⟨w8.heap.size, 0, none⟩) 1 1 [0] _ (row_lit w8 5 [0] 1 rfl (by omega) (byt_of _ rfl)) (.inl (by decide))).mono ?_
  rintro e w9 ⟨rfl, hb9⟩
  replace hb9 := ext_trans (ext_trans hb8 (below_alloc _ _)) hb9
  go_wp2_with fail
  refine (put_any none 0 0 5 9 [] _ (Row.nil _) (by omega)).mono ?_
  rintro e w10 ⟨g10, cap10, rfl, hown10, hb10⟩
  replace hb10 := ext_trans hb9 hb10
  rw [show wid 9 = 0 from rfl]
  clear hown10
  go_wp2_with fail
  refine (put_any (some ⟨w10.heap.size, 0, none⟩) 1 1 5 (-1) [1] _ (row_lit w10 5 [1] 1 rfl (by omega) (byt_of _ rfl)) (by omega)).mono ?_
  rintro e w11 ⟨g11, cap11, rfl, hown11, hb11⟩
  replace hb11 := ext_trans (ext_trans hb10 (below_alloc _ _)) hb11
  rw [show wid (-1) = 0 from rfl]
  clear hown11
  go_wp2_with fail
  refine (put_any (some ⟨w11.heap.size, 0, none⟩) 1 1 9223372036854775808 8 [9] _ (row_lit w11 5 [9] 1 rfl (by omega) (byt_of _ rfl)) (by omega)).mono ?_
  rintro e w12 ⟨g12, cap12, rfl, hown12, hb12⟩
  replace hb12 := ext_trans (ext_trans hb11 (below_alloc _ _)) hb12
  rw [show wid 8 = 8 from rfl, show [9] ++ putB 9223372036854775808 8 = [9, 128, 0, 0, 0, 0, 0, 0, 0] by decide +kernel] at hown12
  rw [show wid 8 = 8 from rfl]
  have hs := run_str (P := Try.prog) w12 22 9 5 Try.underlying22 Try.underlying5 Try.underlying9 _ _ _ _ hown12.row
  have hq : ((strOfNums [9, 128, 0, 0, 0, 0, 0, 0, 0]).toList == [9, 128, 0, 0, 0, 0, 0, 0, 0]) = true := by rw [Lib.strOfNums_toList]; rfl
  go_wp2_with fail
  go_ret
  exact ⟨rfl, hb12⟩
end Go.Proofs.Ytinelpegpcfoaaa
