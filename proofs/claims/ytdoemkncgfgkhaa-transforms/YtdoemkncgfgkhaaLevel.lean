/- Package level: what May, Flows, Max, Min and Rise answer of levels, and May of other numbers. -/
import Derived.Test.YtdoemkncgfgkhaaPlane
namespace Go.Proofs.Ytdoemkncgfgkhaa
open Go.RowKit
set_option maxRecDepth 100000

theorem levelOf_pt (i : Fin 6) (w : World) : Calls Try.prog 79 #[pt i] w fun e w' => e = .returned (.int .u8 (lev i)) ∧ w' = w := by
  go_enter Try.func79, Try.ntmps79
  go_wp2_with fail
  refine (of_pt i _).mono ?_
  rintro e w1 ⟨rfl, rfl⟩
  go_wp2_with fail
  go_ret
  exact ⟨rfl, rfl⟩
theorem isLevel_lev (i : Fin 6) (w : World) : Calls Try.prog 78 #[.int .u8 (lev i)] w fun e w' => e = .returned (.bool true) ∧ w' = w := by
  go_enter Try.func78, Try.ntmps78
  go_wp2_with fail
  refine (point_lev i _).mono ?_
  rintro e w1 ⟨rfl, rfl⟩
  go_wp2_with fail
  refine (levelOf_pt i _).mono ?_
  rintro e w1 ⟨rfl, rfl⟩
  go_wp2_with fail
  go_ret
  simp
theorem isLevel_above (n : Int) (h : 5 < n) (w : World) : Calls Try.prog 78 #[.int .u8 n] w fun e w' => e = .returned (.bool false) ∧ w' = w := by
  have hn : ¬ (2 : Int) = n := by omega
  go_enter Try.func78, Try.ntmps78
  go_wp2_with fail
  refine (point_above n h _).mono ?_
  rintro e w1 ⟨rfl, rfl⟩
  rw [show Value.complex .f64 0 0 = pt 2 from rfl]
  go_wp2_with fail
  refine (levelOf_pt 2 _).mono ?_
  rintro e w1 ⟨rfl, rfl⟩
  rw [show lev 2 = 2 from rfl]
  go_wp2_with fail
  go_ret
  simp [hn]
theorem lflows_lev (i j : Fin 6) (w : World) : Calls Try.prog 60 #[.int .u8 (lev i), .int .u8 (lev j)] w fun e w' => e = .returned (.bool (decide (i ≤ j))) ∧ w' = w := by
  go_enter Try.func60, Try.ntmps60
  go_wp2_with fail
  refine (isLevel_lev i _).mono ?_
  rintro e w1 ⟨rfl, rfl⟩
  go_wp2_with fail
  refine (isLevel_lev j _).mono ?_
  rintro e w1 ⟨rfl, rfl⟩
  go_wp2_with fail
  refine (point_lev i _).mono ?_
  rintro e w1 ⟨rfl, rfl⟩
  go_wp2_with fail
  refine (point_lev j _).mono ?_
  rintro e w1 ⟨rfl, rfl⟩
  go_wp2_with fail
  refine (flows_pt i j _).mono ?_
  rintro e w1 ⟨rfl, rfl⟩
  go_wp2_with fail
  go_ret
  exact ⟨rfl, rfl⟩
theorem lmax_lev (i j k : Fin 6) (hk : top i j = k) (w : World) : Calls Try.prog 58 #[.int .u8 (lev i), .int .u8 (lev j)] w fun e w' => e = .returned (.int .u8 (lev k)) ∧ w' = w := by
  go_enter Try.func58, Try.ntmps58
  go_wp2_with fail
  refine (isLevel_lev i _).mono ?_
  rintro e w1 ⟨rfl, rfl⟩
  go_wp2_with fail
  refine (isLevel_lev j _).mono ?_
  rintro e w1 ⟨rfl, rfl⟩
  go_wp2_with fail
  refine (point_lev i _).mono ?_
  rintro e w1 ⟨rfl, rfl⟩
  go_wp2_with fail
  refine (point_lev j _).mono ?_
  rintro e w1 ⟨rfl, rfl⟩
  go_wp2_with fail
  refine (join_pt i j k hk _).mono ?_
  rintro e w1 ⟨rfl, rfl⟩
  go_wp2_with fail
  refine (levelOf_pt k _).mono ?_
  rintro e w1 ⟨rfl, rfl⟩
  go_wp2_with fail
  go_ret
  exact ⟨rfl, rfl⟩
/-- What a level rises to. -/
def up (i : Fin 6) : Fin 6 := if i = 0 then 5 else i
theorem rise_lev (i : Fin 6) (w : World) : Calls Try.prog 75 #[.int .u8 (lev i)] w fun e w' => e = .returned (.int .u8 (lev (up i))) ∧ w' = w := by
  go_enter Try.func75, Try.ntmps75
  go_wp2_with fail
  refine (point_lev i _).mono ?_
  rintro e w1 ⟨rfl, rfl⟩
  go_wp2_with fail
  refine (point_lev 0 _).mono ?_
  rintro e w1 ⟨rfl, rfl⟩
  by_cases h : i = 0
  · have hd : decide (i = 0) = true := by simp [h]
    go_wp2_with fail
    go_ret
    rw [show up i = 5 from if_pos h]
    exact ⟨rfl, rfl⟩
  · have hd : decide (i = 0) = false := by simp [h]
    go_wp2_with fail
    go_ret
    rw [show up i = i from if_neg h]
    exact ⟨rfl, rfl⟩
end Go.Proofs.Ytdoemkncgfgkhaa
