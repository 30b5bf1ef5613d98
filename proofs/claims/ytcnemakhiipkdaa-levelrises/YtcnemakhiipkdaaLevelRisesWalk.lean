/- LevelRises walked: it answers true, and turns nothing that was there. -/
import Derived.Test.YtcnemakhiipkdaaLevel
namespace Go.Proofs.Ytcnemakhiipkdaa
open Go.RowKit

theorem levelRises_walk (w : World) : Calls Try.prog 5 #[] w fun e w' => e = .returned (.bool true) ∧ Below w.heap.size w w' := by
  go_enter Try.func5, Try.ntmps5
  go_wp2_with fail
  refine (levelBegun _).mono ?_
  rintro e w1 ⟨rfl, rfl⟩
  go_wp2_with fail
  go_loop [1] (fun a => ∃ k : Nat, k ≤ 6 ∧ a = .int .u8 k) (fun a => 6 - (intOf a).toNat)
  case atStart => exact ⟨0, by omega, rfl⟩
  case round =>
    obtain ⟨k, hk, rfl⟩ := hrel
    by_cases hlt : k < 6
    · have hp : (k : Int) ≤ 5 := by omega
      go_wp2_with fail
      refine (rise_lev ⟨k, hlt⟩ _).mono ?_
      rintro e w2 ⟨rfl, rfl⟩
      by_cases h0 : k = 0
      · subst h0
        rw [show lev (up ⟨0, hlt⟩) = lev 5 from rfl]
        go_wp2_with fail
        refine (lflows_lev 0 5 _).mono ?_
        rintro e w2 ⟨rfl, rfl⟩
        rw [show lev 5 = 5 from rfl]
        go_wp2_with fail
        refine (rise_lev 5 _).mono ?_
        rintro e w2 ⟨rfl, rfl⟩
        rw [show lev (up 5) = 5 from rfl]
        go_wp2_with fail
        refine (rise_lev 0 _).mono ?_
        rintro e w2 ⟨rfl, rfl⟩
        rw [show lev (up 0) = 5 from rfl]
        go_wp2_with fail
        refine (lflows_lev 0 5 _).mono ?_
        rintro e w2 ⟨rfl, rfl⟩
        go_wp2_with fail
        go_round
        case rel => exact ⟨0 + 1, by omega, by go_num⟩
        case measure => simp [intOf]
      · have h0' : ¬ (k : Int) = 0 := by omega
        rw [show up ⟨k, hlt⟩ = ⟨k, hlt⟩ from if_neg (fun h => h0 (congrArg Fin.val h)), show lev ⟨k, hlt⟩ = (k : Int) from rfl]
        go_wp2_with fail
        refine (lflows_lev ⟨k, hlt⟩ ⟨k, hlt⟩ _).mono ?_
        rintro e w2 ⟨rfl, rfl⟩
        rw [show decide ((⟨k, hlt⟩ : Fin 6) ≤ ⟨k, hlt⟩) = true from decide_eq_true (Nat.le_refl k)]
        by_cases h4 : (k : Int) ≤ 4
        · go_wp2_with fail
          refine (rise_lev ⟨k, hlt⟩ _).mono ?_
          rintro e w2 ⟨rfl, rfl⟩
          rw [show up ⟨k, hlt⟩ = ⟨k, hlt⟩ from if_neg (fun h => h0 (congrArg Fin.val h)), show lev ⟨k, hlt⟩ = (k : Int) from rfl]
          go_wp2_with fail
          refine (rise_lev 0 _).mono ?_
          rintro e w2 ⟨rfl, rfl⟩
          go_wp2_with fail
          refine (lflows_lev ⟨k, hlt⟩ 5 _).mono ?_
          rintro e w2 ⟨rfl, rfl⟩
          rw [show decide ((⟨k, hlt⟩ : Fin 6) ≤ 5) = true from decide_eq_true (Nat.le_of_lt_succ hlt)]
          go_wp2_with fail
          go_round
          case rel => exact ⟨k + 1, by omega, by go_num⟩
          case measure => simp [intOf]; omega
        · go_wp2_with fail
          refine (rise_lev ⟨k, hlt⟩ _).mono ?_
          rintro e w2 ⟨rfl, rfl⟩
          rw [show up ⟨k, hlt⟩ = ⟨k, hlt⟩ from if_neg (fun h => h0 (congrArg Fin.val h)), show lev ⟨k, hlt⟩ = (k : Int) from rfl]
          go_wp2_with fail
          go_round
          case rel => exact ⟨k + 1, by omega, by go_num⟩
          case measure => simp [intOf]; omega
    · have hp : ¬ (k : Int) ≤ 5 := by omega
      go_wp2_with fail
      refine (may_above 200 (by omega) _).mono ?_
      rintro e w2 ⟨rfl, rfl⟩
      go_wp2_with fail
      refine (may_lev 4 _).mono ?_
      rintro e w2 ⟨rfl, rfl⟩
      go_wp2_with fail
      refine (may_lev 5 _).mono ?_
      rintro e w2 ⟨rfl, rfl⟩
      go_wp2_with fail
      go_ret
      exact ⟨rfl, Below.refl _ _⟩
end Go.Proofs.Ytcnemakhiipkdaa
