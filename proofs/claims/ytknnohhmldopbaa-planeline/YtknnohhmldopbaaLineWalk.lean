/- PlaneLine walked: it answers true, and turns nothing that was there. -/
import Derived.Test.YtknnohhmldopbaaPlaneBegun
namespace Go.Proofs.Ytknnohhmldopbaa
open Go.RowKit

set_option maxHeartbeats 800000 in
theorem planeLine_walk (w : World) : Calls Try.prog 3 #[] w fun e w' => e = .returned (.bool true) ∧ Below w.heap.size w w' := by
  have p2 : Value.complex .f64 0 0 = pt 2 := rfl
  go_enter Try.func3, Try.ntmps3
  go_wp2_with fail
  refine (planeBegun _).mono ?_
  rintro e w1 ⟨rfl, rfl⟩
  go_wp2_with fail
  go_loop [1] (fun a => ∃ k : Nat, k ≤ 6 ∧ a = .int .u8 k) (fun a => 6 - (intOf a).toNat)
  case atStart => exact ⟨0, by omega, rfl⟩
  case round =>
    obtain ⟨k, hk, rfl⟩ := hrel
    by_cases hlt : k < 6
    · have hp : (k : Int) ≤ 5 := by omega
      go_wp2_with fail
      go_loop [2] (fun b => ∃ m : Nat, m ≤ 6 ∧ b = .int .u8 m) (fun b => 6 - (intOf b).toNat)
      case atStart => exact ⟨0, by omega, rfl⟩
      case round =>
        obtain ⟨m, hm, rfl⟩ := hrel
        by_cases hlm : m < 6
        · have hq : (m : Int) ≤ 5 := by omega
          go_wp2_with fail
          refine (point_lev ⟨k, hlt⟩ _).mono ?_
          rintro e w2 ⟨rfl, rfl⟩
          go_wp2_with fail
          refine (point_lev ⟨m, hlm⟩ _).mono ?_
          rintro e w2 ⟨rfl, rfl⟩
          go_wp2_with fail
          refine (flows_pt ⟨k, hlt⟩ ⟨m, hlm⟩ _).mono ?_
          rintro e w2 ⟨rfl, rfl⟩
          rcases Nat.lt_trichotomy k m with hkm | hkm | hkm
          · have h1 : (m : Int) > (k : Int) := by omega
            have h2 : ¬ (m : Int) < (k : Int) := by omega
            have h3 : (k : Int) ≤ (m : Int) := by omega
            rw [show decide ((⟨k, hlt⟩ : Fin 6) ≤ ⟨m, hlm⟩) = true from decide_eq_true (Nat.le_of_lt hkm)]
            go_wp2_with fail
            refine (join_pt ⟨k, hlt⟩ ⟨m, hlm⟩ ⟨m, hlm⟩ (if_pos (show (⟨k, hlt⟩ : Fin 6) ≤ ⟨m, hlm⟩ from Nat.le_of_lt hkm)) _).mono ?_
            rintro e w2 ⟨rfl, rfl⟩
            go_wp2_with fail
            refine (refPoint_lev ⟨m, hlm⟩ _).mono ?_
            rintro e w2 ⟨rfl, rfl⟩
            go_wp2_with fail
            refine (meet_pt ⟨k, hlt⟩ ⟨m, hlm⟩ ⟨k, hlt⟩ (if_pos (show (⟨k, hlt⟩ : Fin 6) ≤ ⟨m, hlm⟩ from Nat.le_of_lt hkm)) _).mono ?_
            rintro e w2 ⟨rfl, rfl⟩
            go_wp2_with fail
            refine (refPoint_lev ⟨k, hlt⟩ _).mono ?_
            rintro e w2 ⟨rfl, rfl⟩
            go_wp2_with fail
            go_round
            case rel => exact ⟨m + 1, by omega, by go_num⟩
            case measure => simp [intOf]; omega
          · obtain rfl := hkm
            rw [show decide ((⟨k, hlt⟩ : Fin 6) ≤ ⟨k, hlm⟩) = true from decide_eq_true (Nat.le_refl k)]
            go_wp2_with fail
            refine (join_pt ⟨k, hlt⟩ ⟨k, hlm⟩ ⟨k, hlt⟩ (if_pos (show (⟨k, hlt⟩ : Fin 6) ≤ ⟨k, hlt⟩ from Nat.le_refl k)) _).mono ?_
            rintro e w2 ⟨rfl, rfl⟩
            go_wp2_with fail
            refine (refPoint_lev ⟨k, hlt⟩ _).mono ?_
            rintro e w2 ⟨rfl, rfl⟩
            go_wp2_with fail
            refine (meet_pt ⟨k, hlt⟩ ⟨k, hlm⟩ ⟨k, hlt⟩ (if_pos (show (⟨k, hlt⟩ : Fin 6) ≤ ⟨k, hlt⟩ from Nat.le_refl k)) _).mono ?_
            rintro e w2 ⟨rfl, rfl⟩
            go_wp2_with fail
            refine (refPoint_lev ⟨k, hlt⟩ _).mono ?_
            rintro e w2 ⟨rfl, rfl⟩
            go_wp2_with fail
            go_round
            case rel => exact ⟨k + 1, by omega, by go_num⟩
            case measure => simp [intOf]; omega
          · have h1 : ¬ (m : Int) > (k : Int) := by omega
            have h2 : (m : Int) < (k : Int) := by omega
            have h3 : ¬ (k : Int) ≤ (m : Int) := by omega
            rw [show decide ((⟨k, hlt⟩ : Fin 6) ≤ ⟨m, hlm⟩) = false from decide_eq_false (Nat.not_le_of_lt hkm)]
            go_wp2_with fail
            refine (join_pt ⟨k, hlt⟩ ⟨m, hlm⟩ ⟨k, hlt⟩ (if_neg (show ¬ (⟨k, hlt⟩ : Fin 6) ≤ ⟨m, hlm⟩ from Nat.not_le_of_lt hkm)) _).mono ?_
            rintro e w2 ⟨rfl, rfl⟩
            go_wp2_with fail
            refine (refPoint_lev ⟨k, hlt⟩ _).mono ?_
            rintro e w2 ⟨rfl, rfl⟩
            go_wp2_with fail
            refine (meet_pt ⟨k, hlt⟩ ⟨m, hlm⟩ ⟨m, hlm⟩ (if_neg (show ¬ (⟨k, hlt⟩ : Fin 6) ≤ ⟨m, hlm⟩ from Nat.not_le_of_lt hkm)) _).mono ?_
            rintro e w2 ⟨rfl, rfl⟩
            go_wp2_with fail
            refine (refPoint_lev ⟨m, hlm⟩ _).mono ?_
            rintro e w2 ⟨rfl, rfl⟩
            go_wp2_with fail
            go_round
            case rel => exact ⟨m + 1, by omega, by go_num⟩
            case measure => simp [intOf]; omega
        · have hq : ¬ (m : Int) ≤ 5 := by omega
          go_wp2_with fail
          refine (point_lev ⟨k, hlt⟩ _).mono ?_
          rintro e w2 ⟨rfl, rfl⟩
          go_wp2_with fail
          refine (of_pt ⟨k, hlt⟩ _).mono ?_
          rintro e w2 ⟨rfl, rfl⟩
          rw [show lev ⟨k, hlt⟩ = (k : Int) from rfl]
          go_wp2_with fail
          go_round
          case rel => exact ⟨k + 1, by omega, by go_num⟩
          case measure => simp [intOf]; omega
    · have hp : ¬ (k : Int) ≤ 5 := by omega
      go_wp2_with fail
      refine (point_above 6 (by omega) _).mono ?_
      rintro e w2 ⟨rfl, rfl⟩
      rw [show Value.complex .f64 0 0 = pt 2 from rfl]
      go_wp2_with fail
      refine (point_above 255 (by omega) _).mono ?_
      rintro e w2 ⟨rfl, rfl⟩
      rw [show Value.complex .f64 0 0 = pt 2 from rfl]
      go_wp2_with fail
      go_ret
      exact ⟨rfl, Below.refl _ _⟩
end Go.Proofs.Ytknnohhmldopbaa
