/- LevelPoints walked: it answers true, and turns nothing that was there. -/
import Derived.Test.YtcnemakhiipkdaaLevel
namespace Go.Proofs.Ytcnemakhiipkdaa
open Go.RowKit

theorem levelPoints_walk (w : World) : Calls Try.prog 4 #[] w fun e w' => e = .returned (.bool true) ∧ Below w.heap.size w w' := by
  go_enter Try.func4, Try.ntmps4
  go_wp2_with fail
  refine (levelBegun _).mono ?_
  rintro e w1 ⟨rfl, rfl⟩
  go_wp2_with fail
  go_loop [1] (fun a => ∃ k : Nat, k ≤ 6 ∧ a = .int .u8 k) (fun a => 6 - (intOf a).toNat)
  case atStart => exact ⟨0, by omega, rfl⟩
  case round =>
    obtain ⟨k, hk, rfl⟩ := hrel
    by_cases hlt : k < 6
    · have hp : (k : Int) ≤ 5 := by omega
      go_wp2_with fail
      go_loop [2] (fun b => ∃ m : Nat, m ≤ 6 ∧ b = .int .u8 m) (fun b => 6 - (intOf b).toNat)
      case atStart => exact ⟨0, by omega, rfl⟩
      case round =>
        obtain ⟨m, hm, rfl⟩ := hrel
        by_cases hlm : m < 6
        · have hq : (m : Int) ≤ 5 := by omega
          go_wp2_with fail
          refine (lflows_lev ⟨k, hlt⟩ ⟨m, hlm⟩ _).mono ?_
          rintro e w2 ⟨rfl, rfl⟩
          go_wp2_with fail
          refine (point_lev ⟨k, hlt⟩ _).mono ?_
          rintro e w2 ⟨rfl, rfl⟩
          go_wp2_with fail
          refine (point_lev ⟨m, hlm⟩ _).mono ?_
          rintro e w2 ⟨rfl, rfl⟩
          go_wp2_with fail
          refine (flows_pt ⟨k, hlt⟩ ⟨m, hlm⟩ _).mono ?_
          rintro e w2 ⟨rfl, rfl⟩
          go_wp2_with fail
          refine (lmax_lev ⟨k, hlt⟩ ⟨m, hlm⟩ _ rfl _).mono ?_
          rintro e w2 ⟨rfl, rfl⟩
          go_wp2_with fail
          refine (point_lev (top ⟨k, hlt⟩ ⟨m, hlm⟩) _).mono ?_
          rintro e w2 ⟨rfl, rfl⟩
          go_wp2_with fail
          refine (point_lev ⟨k, hlt⟩ _).mono ?_
          rintro e w2 ⟨rfl, rfl⟩
          go_wp2_with fail
          refine (point_lev ⟨m, hlm⟩ _).mono ?_
          rintro e w2 ⟨rfl, rfl⟩
          go_wp2_with fail
          refine (join_pt ⟨k, hlt⟩ ⟨m, hlm⟩ _ rfl _).mono ?_
          rintro e w2 ⟨rfl, rfl⟩
          go_wp2_with fail
          go_round
          case rel => exact ⟨m + 1, by omega, by go_num⟩
          case measure => simp [intOf]; omega
        · have hq : ¬ (m : Int) ≤ 5 := by omega
          go_wp2_with fail
          go_round
          case rel => exact ⟨k + 1, by omega, by go_num⟩
          case measure => simp [intOf]; omega
    · have hp : ¬ (k : Int) ≤ 5 := by omega
      go_wp2_with fail
      go_ret
      exact ⟨rfl, Below.refl _ _⟩
end Go.Proofs.Ytcnemakhiipkdaa
