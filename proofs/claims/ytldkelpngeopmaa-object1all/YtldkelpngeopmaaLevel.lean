/- Package level: what May, Flows, Max, Min and Rise answer of levels, and May of other numbers. -/
import Derived.Test.YtldkelpngeopmaaPlane
namespace Go.Proofs.Ytldkelpngeopmaa
open Go.RowKit
set_option maxRecDepth 100000

theorem levelOf_pt (i : Fin 6) (w : World) : Calls Try.prog 75 #[pt i] w fun e w' => e = .returned (.int .u8 (lev i)) ∧ w' = w := by
  go_enter Try.func75, Try.ntmps75
  go_wp2_with fail
  refine (of_pt i _).mono ?_
  rintro e w1 ⟨rfl, rfl⟩
  go_wp2_with fail
  go_ret
  exact ⟨rfl, rfl⟩
theorem isLevel_lev (i : Fin 6) (w : World) : Calls Try.prog 71 #[.int .u8 (lev i)] w fun e w' => e = .returned (.bool true) ∧ w' = w := by
  go_enter Try.func71, Try.ntmps71
  go_wp2_with fail
  refine (point_lev i _).mono ?_
  rintro e w1 ⟨rfl, rfl⟩
  go_wp2_with fail
  refine (levelOf_pt i _).mono ?_
  rintro e w1 ⟨rfl, rfl⟩
  go_wp2_with fail
  go_ret
  simp
theorem isLevel_above (n : Int) (h : 5 < n) (w : World) : Calls Try.prog 71 #[.int .u8 n] w fun e w' => e = .returned (.bool false) ∧ w' = w := by
  have hn : ¬ (2 : Int) = n := by omega
  go_enter Try.func71, Try.ntmps71
  go_wp2_with fail
  refine (point_above n h _).mono ?_
  rintro e w1 ⟨rfl, rfl⟩
  rw [show Value.complex .f64 0 0 = pt 2 from rfl]
  go_wp2_with fail
  refine (levelOf_pt 2 _).mono ?_
  rintro e w1 ⟨rfl, rfl⟩
  rw [show lev 2 = 2 from rfl]
  go_wp2_with fail
  go_ret
  simp [hn]
theorem may_lev (i : Fin 6) (w : World) : Calls Try.prog 57 #[.int .u8 (lev i)] w fun e w' => e = .returned (.bool (decide (i ≤ 4))) ∧ w' = w := by
  go_enter Try.func57, Try.ntmps57
  go_wp2_with fail
  refine (isLevel_lev i _).mono ?_
  rintro e w1 ⟨rfl, rfl⟩
  go_wp2_with fail
  refine (point_lev i _).mono ?_
  rintro e w1 ⟨rfl, rfl⟩
  go_wp2_with fail
  refine (point_lev 4 _).mono ?_
  rintro e w1 ⟨rfl, rfl⟩
  go_wp2_with fail
  refine (flows_pt i 4 _).mono ?_
  rintro e w1 ⟨rfl, rfl⟩
  go_wp2_with fail
  go_ret
  exact ⟨rfl, rfl⟩
theorem may_above (n : Int) (h : 5 < n) (w : World) : Calls Try.prog 57 #[.int .u8 n] w fun e w' => e = .returned (.bool false) ∧ w' = w := by
  go_enter Try.func57, Try.ntmps57
  go_wp2_with fail
  refine (isLevel_above n h _).mono ?_
  rintro e w1 ⟨rfl, rfl⟩
  go_wp2_with fail
  go_ret
  exact ⟨rfl, rfl⟩
/-- What a level rises to. -/
def up (i : Fin 6) : Fin 6 := if i = 0 then 5 else i
end Go.Proofs.Ytldkelpngeopmaa
