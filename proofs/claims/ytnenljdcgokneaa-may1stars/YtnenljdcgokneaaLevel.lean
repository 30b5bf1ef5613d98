/- Package level: what May, Flows, Max, Min and Rise answer of levels, and May of other numbers. -/
import Derived.Test.YtnenljdcgokneaaPlane
namespace Go.Proofs.Ytnenljdcgokneaa
open Go.RowKit

theorem levelOf_pt (i : Fin 6) (w : World) : Calls Try.prog 48 #[pt i] w fun e w' => e = .returned (.int .u8 (lev i)) ∧ w' = w := by
  go_enter Try.func48, Try.ntmps48
  go_wp2_with fail
  refine (of_pt i _).mono ?_
  rintro e w1 ⟨rfl, rfl⟩
  go_wp2_with fail
  go_ret
  exact ⟨rfl, rfl⟩
theorem isLevel_lev (i : Fin 6) (w : World) : Calls Try.prog 43 #[.int .u8 (lev i)] w fun e w' => e = .returned (.bool true) ∧ w' = w := by
  go_enter Try.func43, Try.ntmps43
  go_wp2_with fail
  refine (point_lev i _).mono ?_
  rintro e w1 ⟨rfl, rfl⟩
  go_wp2_with fail
  refine (levelOf_pt i _).mono ?_
  rintro e w1 ⟨rfl, rfl⟩
  go_wp2_with fail
  go_ret
  simp
theorem isLevel_above (n : Int) (h : 5 < n) (w : World) : Calls Try.prog 43 #[.int .u8 n] w fun e w' => e = .returned (.bool false) ∧ w' = w := by
  have hn : ¬ (2 : Int) = n := by omega
  go_enter Try.func43, Try.ntmps43
  go_wp2_with fail
  refine (point_above n h _).mono ?_
  rintro e w1 ⟨rfl, rfl⟩
  rw [show Value.complex .f64 0 0 = pt 2 from rfl]
  go_wp2_with fail
  refine (levelOf_pt 2 _).mono ?_
  rintro e w1 ⟨rfl, rfl⟩
  rw [show lev 2 = 2 from rfl]
  go_wp2_with fail
  go_ret
  simp [hn]
theorem lflows_lev (i j : Fin 6) (w : World) : Calls Try.prog 37 #[.int .u8 (lev i), .int .u8 (lev j)] w fun e w' => e = .returned (.bool (decide (i ≤ j))) ∧ w' = w := by
  go_enter Try.func37, Try.ntmps37
  go_wp2_with fail
  refine (isLevel_lev i _).mono ?_
  rintro e w1 ⟨rfl, rfl⟩
  go_wp2_with fail
  refine (isLevel_lev j _).mono ?_
  rintro e w1 ⟨rfl, rfl⟩
  go_wp2_with fail
  refine (point_lev i _).mono ?_
  rintro e w1 ⟨rfl, rfl⟩
  go_wp2_with fail
  refine (point_lev j _).mono ?_
  rintro e w1 ⟨rfl, rfl⟩
  go_wp2_with fail
  refine (flows_pt i j _).mono ?_
  rintro e w1 ⟨rfl, rfl⟩
  go_wp2_with fail
  go_ret
  exact ⟨rfl, rfl⟩
/-- What a level rises to. -/
def up (i : Fin 6) : Fin 6 := if i = 0 then 5 else i
theorem rise_lev (i : Fin 6) (w : World) : Calls Try.prog 38 #[.int .u8 (lev i)] w fun e w' => e = .returned (.int .u8 (lev (up i))) ∧ w' = w := by
  go_enter Try.func38, Try.ntmps38
  go_wp2_with fail
  refine (point_lev i _).mono ?_
  rintro e w1 ⟨rfl, rfl⟩
  go_wp2_with fail
  refine (point_lev 0 _).mono ?_
  rintro e w1 ⟨rfl, rfl⟩
  by_cases h : i = 0
  · have hd : decide (i = 0) = true := by simp [h]
    go_wp2_with fail
    go_ret
    rw [show up i = 5 from if_pos h]
    exact ⟨rfl, rfl⟩
  · have hd : decide (i = 0) = false := by simp [h]
    go_wp2_with fail
    go_ret
    rw [show up i = i from if_neg h]
    exact ⟨rfl, rfl⟩
end Go.Proofs.Ytnenljdcgokneaa
