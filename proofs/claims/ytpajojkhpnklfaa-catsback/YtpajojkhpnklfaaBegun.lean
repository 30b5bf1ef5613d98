/- 'begun' answers true, whatever the world. -/
import Derived.Test.YtpajojkhpnklfaaMake3
import Derived.Test.YtpajojkhpnklfaaTakeSet
namespace Go.Proofs.Ytpajojkhpnklfaa
open Go.RowKit

set_option maxHeartbeats 2000000 in
theorem begun_true (w : World) : Calls Try.prog 9 #[] w fun e w' => e = .returned (.bool true) ∧ Below w.heap.size w w' := by
  go_enter Try.func9, Try.ntmps9
  go_wp2_with fail
  refine (make_small (some ⟨w.heap.size, 0, none⟩) 3 3 [3, 1, 3] _ (roww_lit w 27 [3, 1, 3] 3 rfl (by omega) (wrd_of _ rfl)) (by omega) (by omega)).mono ?_
  rintro e w1 ⟨so, k, co, zs, rfl, o1, b1, hsrt, hmem, _⟩
  obtain rfl : zs = [1, 3] := srt_unique hsrt ((asc_iff _).1 rfl) (fun x => by rw [hmem]; simp; omega)
  obtain rfl : k = 2 := o1.1.symm
  rcases o1.cases with ⟨_, h0, _⟩ | ⟨g, cur, rfl, _⟩
  · omega
  replace b1 := ext_trans (below_alloc w _) b1
  have r1 := o1.row
  clear o1 hmem hsrt
  go_wp2_with fail
  refine (takeSet_any (some ⟨w1.heap.size, 0, none⟩) 3 3 [1, 0, 9] _ (row_lit w1 5 [1, 0, 9] 3 rfl (by omega) (byt_of _ rfl))).mono ?_
  rintro e w2 ⟨s2, k2, c2, rfl, o2, b2⟩
  rw [show tsY [1, 0, 9] = [9] from rfl] at o2
  rw [show tsN [1, 0, 9] = 3 from rfl, show tsE [1, 0, 9] = 0 from rfl]
  obtain rfl : k2 = 1 := o2.1.symm
  replace b2 := ext_trans (below_alloc w1 _) b2
  have r2 := r1.below b2
  replace b2 := ext_trans b1 b2
  have c0 : w2.cell? ⟨g, 0, none⟩ = some (.int .u16 1) := r2.cells 0 (by omega)
  clear o2 r1 b1
  go_wp2_with fail
  refine (may_any _ 2 co [1, 3] _ r2).mono ?_
  rintro e w3 ⟨rfl, b3⟩
  rw [show mayS [1, 3] = true from rfl]
  have r3 := r2.below b3
  replace b3 := ext_trans b2 b3
  clear r2 b2 c0
  go_wp2_with fail
  refine (has_any _ 2 co [1, 3] 3 _ r3 ((asc_iff _).1 rfl) (by omega)).mono ?_
  rintro e w4 ⟨rfl, rfl⟩
  rw [show decide ((3 : Int) ∈ ([1, 3] : List Int)) = true from rfl]
  go_wp2_with fail
  refine (in_any _ _ 1 1 2 co [1] [1, 3] _ (roww_lit w4 27 [1] 1 rfl (by omega) (wrd_of _ rfl)) (r3.below (below_alloc _ _)) (by omega)).mono ?_
  rintro e w5 ⟨rfl, b5⟩
  rw [show decide (mrg true false false [1] [1, 3] = []) = true by rw [mrg_eq _ _ _ rfl, mrg_nil_left]; rfl]
  replace b5 := ext_trans (below_alloc w4 _) b5
  have r5 := r3.below b5
  replace b5 := ext_trans b3 b5
  clear r3 b3
  go_wp2_with fail
  refine (or_any _ _ 2 co 1 1 [1, 3] [2] _ (r5.below (below_alloc _ _)) (roww_lit w5 27 [2] 1 rfl (by omega) (wrd_of _ rfl)) (by omega)).mono ?_
  rintro e w6 ⟨s6, k6, c6, rfl, o6, b6⟩
  rw [show mrg true true true [1, 3] [2] = [1, 2, 3] by rw [mrg_lt _ _ _ (by decide), mrg_gt _ _ _ (by decide), mrg_nil_right]; rfl] at o6
  obtain rfl : k6 = 3 := o6.1.symm
  replace b6 := ext_trans b5 (ext_trans (below_alloc w5 _) b6)
  clear r5 b5 o6
  go_wp2_with fail
  refine (putSet_any none _ 0 0 1 1 [] [3] _ (Row.nil _) (roww_lit w6 27 [3] 1 rfl (by omega) (wrd_of _ rfl)) rfl (by omega)).mono ?_
  rintro e w7 ⟨g7, c7, rfl, o7, b7⟩
  replace b7 := ext_trans b6 (ext_trans (below_alloc w6 _) b7)
  have o8 : Own 5 w7 _ g7 3 c7 [1, 0, 3] := o7
  have hs9 := run_str (P := Try.prog) w7 31 9 5 Try.underlying31 Try.underlying5 Try.underlying9 _ _ _ _ o8.row
  have hq : ((strOfNums [1, 0, 3]).toList == [1, 0, 3]) = true := by rw [Lib.strOfNums_toList]; rfl
  clear o7 o8 b6
  go_wp2_with fail
  go_ret
  exact ⟨rfl, b7⟩
end Go.Proofs.Ytpajojkhpnklfaa
