/- 'begun' answers true, whatever the world. -/
import Derived.Test.YtknnohhmldopbaaPlane
namespace Go.Proofs.Ytknnohhmldopbaa
open Go.RowKit

set_option maxHeartbeats 400000 in
theorem planeBegun (w : World) : Calls Try.prog 6 #[] w fun e w' => e = .returned (.bool true) ∧ w' = w := by
  have p4 : Value.complex .f64 4607182418800017408 0 = pt 4 := rfl
  have p1 : Value.complex .f64 0 4607182418800017408 = pt 1 := rfl
  go_enter Try.func6, Try.ntmps6
  go_wp2_with fail
  refine (of_pt 4 _).mono ?_
  rintro e w1 ⟨rfl, rfl⟩
  rw [show lev 4 = 4 from rfl]
  go_wp2_with fail
  refine (point_lev 4 _).mono ?_
  rintro e w2 ⟨rfl, rfl⟩
  go_wp2_with fail
  refine (flows_pt 1 4 _).mono ?_
  rintro e w3 ⟨rfl, rfl⟩
  go_wp2_with fail
  refine (join_pt 1 4 4 rfl _).mono ?_
  rintro e w4 ⟨rfl, rfl⟩
  go_wp2_with fail
  refine (meet_pt 1 4 1 rfl _).mono ?_
  rintro e w4 ⟨rfl, rfl⟩
  go_wp2_with fail
  go_ret
  exact ⟨rfl, rfl⟩
end Go.Proofs.Ytknnohhmldopbaa
