/- cats.Make of a list of none. -/
import Derived.Test.YtpajojkhpnklfaaMake3
namespace Go.Proofs.Ytpajojkhpnklfaa
open Go.RowKit

set_option maxHeartbeats 400000 in
theorem ins_none (so : Option Addr) (co : Nat) (w : World) : Calls Try.prog 50 #[.slice so 0 co, .int .i64 0, .int .i64 0] w fun e w' => e = .returned (.tuple #[]) ∧ w' = w := by
  go_enter Try.func50, Try.ntmps50
  go_wp2_with fail
  go_loop [6] (fun v => v = .int .i64 1) (fun _ => 0)
  case atStart => rfl
  case round =>
    subst hrel
    go_wp2_with fail
    go_end0
    exact ⟨rfl, rfl⟩
set_option maxRecDepth 100000 in
set_option maxHeartbeats 400000 in
theorem pdq_none (so : Option Addr) (co : Nat) (L : Int) (w : World) : Calls Try.prog 43 #[.slice so 0 co, .int .i64 0, .int .i64 0, .int .i64 L] w fun e w' => e = .returned (.tuple #[]) ∧ w' = w := by
  go_enter Try.func43, Try.ntmps43
  go_wp2_with fail
  go_loopw [1, 2, 3, 8, 9] (fun s1 s2 _ _ _ wr => s1 = .int .i64 0 ∧ s2 = .int .i64 0 ∧ wr = w) (fun _ _ _ _ _ _ => 0)
  case atStart => exact ⟨rfl, rfl, rfl⟩
  case round =>
    obtain ⟨rfl, rfl, rfl⟩ := hrel
    go_wp2_with fail
    refine (ins_none so co _).mono ?_
    rintro e w1 ⟨rfl, rfl⟩
    go_wp2_with fail
    refine bodyPost_ret (results_none rfl _ _ _) rfl ?_
    exact ⟨rfl, rfl⟩
set_option maxHeartbeats 400000 in
theorem sort_none (so : Option Addr) (co : Nat) (w : World) : Calls Try.prog 32 #[.slice so 0 co] w fun e w' => e = .returned (.tuple #[]) ∧ w' = w := by
  go_enter Try.func32, Try.ntmps32
  go_wp2_with fail
  refine (bitLen_any 0 (by omega) _).mono ?_
  rintro e w1 ⟨rfl, rfl⟩
  go_wp2_with fail
  refine (pdq_none so co _ _).mono ?_
  rintro e w1 ⟨rfl, rfl⟩
  go_wp2_with fail
  go_end0
  exact ⟨rfl, rfl⟩
set_option maxHeartbeats 400000 in
theorem compact_none (so : Option Addr) (co : Nat) (w : World) : Calls Try.prog 33 #[.slice so 0 co] w fun e w' => e = .returned (.slice so 0 co) ∧ w' = w := by
  go_enter Try.func33, Try.ntmps33
  go_wp2_with fail
  go_ret
  exact ⟨rfl, rfl⟩
set_option maxHeartbeats 400000 in
theorem make_none (a : Option Addr) (cap : Nat) (w : World) (hr : RowW w a 0 cap []) :
    Calls Try.prog 13 #[.slice a 0 cap] w fun e w' => ∃ so k co zs, e = .returned (.slice so k co) ∧ OwnW 27 w' w.heap.size so k co zs ∧ Below w.heap.size w w' ∧ Srt zs ∧ (∀ x, x ∈ zs ↔ x ∈ ([] : List Int)) ∧ k ≤ 0 := by
  go_enter Try.func13, Try.ntmps13
  go_wp2_with fail
  refine (clone_any a 0 cap [] w hr (by omega)).mono ?_
  rintro e w1 ⟨so, co, rfl, o1, b1⟩
  go_wp2_with fail
  refine (sort_none so co _).mono ?_
  rintro e w2 ⟨rfl, rfl⟩
  go_wp2_with fail
  refine (compact_none so co _).mono ?_
  rintro e w3 ⟨rfl, rfl⟩
  go_wp2_with fail
  go_ret
  exact ⟨so, 0, co, [], rfl, o1, b1, Srt.nil, fun _ => Iff.rfl, Nat.le_refl _⟩
end Go.Proofs.Ytpajojkhpnklfaa
