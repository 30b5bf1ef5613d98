/- 'begun' of the names' laws answers true, whatever the world. -/
import Derived.Test.YtpnlibdfbopmhaaNmRef
namespace Go.Proofs.Ytpnlibdfbopmhaa
open Go.RowKit
set_option maxRecDepth 100000

theorem U.lit {x : Int} (h : (decide (0 ≤ x) && decide (x < 18446744073709551616)) = true) : U x := by
  simpa [U] using h
theorem wi_box {x b : Int} (h : isN b = false) : wi x b = false := by
  cases hc : wi x b with
  | false => rfl
  | true =>
    unfold wi at hc
    rw [decide_eq_true_iff] at hc
    have := (wi_name hc).2.1
    rw [h] at this
    cases this
set_option maxHeartbeats 400000 in
theorem begun14_true (w : World) : Calls Try.prog 7 #[] w fun e w' => e = .returned (.bool true) ∧ Below w.heap.size w w' := by
  have h67 : U 67 := U.lit (by decide)
  have h1 : U 1 := U.lit (by decide)
  go_enter Try.func7, Try.ntmps7
  go_wp2_with fail
  refine (of_any 1 3 h1 _).mono ?_
  rintro e w1 ⟨rfl, rfl⟩
  rw [show ofV 1 3 = 67 by decide, show ofE 1 3 = 0 by decide]
  go_wp2_with fail
  refine (may_any 67 h67 _).mono ?_
  rintro e w2 ⟨rfl, rfl⟩
  rw [show isN 67 = true by decide]
  go_wp2_with fail
  refine (parent_any 67 h67 _).mono ?_
  rintro e w3 ⟨rfl, rfl⟩
  rw [show par 67 = 1 by decide]
  go_wp2_with fail
  refine (number_any 67 h67 _).mono ?_
  rintro e w4 ⟨rfl, rfl⟩
  rw [show nmb 67 = 3 by decide]
  go_wp2_with fail
  refine (depthOf_any 67 h67 _).mono ?_
  rintro e w5 ⟨rfl, rfl⟩
  rw [show dN 67 = 1 by decide]
  go_wp2_with fail
  refine (path_any 67 h67 _).mono ?_
  rintro e w6 ⟨so, n, co, rfl, hr, b6⟩
  obtain rfl : n = 2 := by have := len_yes hr (by decide); rw [this]; decide
  go_wp2_with fail
  refine (within_any 67 1 h67 h1 _).mono ?_
  rintro e w7 ⟨rfl, rfl⟩
  rw [show wi 67 1 = true by decide]
  go_wp2_with fail
  go_ret
  exact ⟨rfl, b6⟩
end Go.Proofs.Ytpnlibdfbopmhaa
