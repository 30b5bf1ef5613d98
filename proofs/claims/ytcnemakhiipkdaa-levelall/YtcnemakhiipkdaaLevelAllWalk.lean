/- LevelAll walked: it answers true, and turns nothing that was there. -/
import Derived.Test.YtcnemakhiipkdaaLevel
namespace Go.Proofs.Ytcnemakhiipkdaa
open Go.RowKit

set_option maxHeartbeats 2000000 in
theorem levelAll_walk (a b : Int) (ha0 : 0 ≤ a) (hb0 : 0 ≤ b) (w : World) : Calls Try.prog 3 #[.int .u8 a, .int .u8 b] w fun e w' => e = .returned (.bool true) ∧ Below w.heap.size w w' := by
  go_enter Try.func3, Try.ntmps3
  go_wp2_with fail
  refine (levelBegun _).mono ?_
  rintro e w1 ⟨rfl, rfl⟩
  by_cases ha : a ≤ 5
  · have hg : ¬ a > 5 := by omega
    obtain ⟨k, rfl⟩ := Int.eq_ofNat_of_zero_le ha0
    have hlt : k < 6 := by omega
    go_wp2_with fail
    refine (may_lev ⟨k, hlt⟩ _).mono ?_
    rintro e w2 ⟨rfl, rfl⟩
    rw [show decide ((⟨k, hlt⟩ : Fin 6) ≤ 4) = decide ((k : Int) ≤ 4) from decide_eq_decide.mpr ⟨fun h => Int.ofNat_le.mpr h, fun h => Int.ofNat_le.mp h⟩]
    by_cases hb : b ≤ 5
    · have hh : ¬ b > 5 := by omega
      obtain ⟨m, rfl⟩ := Int.eq_ofNat_of_zero_le hb0
      have hlm : m < 6 := by omega
      by_cases h0 : k = 0
      · subst h0
        by_cases hm0 : m = 0
        · subst hm0
          go_wp2_with fail
          refine (lflows_lev 0 0 _).mono ?_
          rintro e w2 ⟨rfl, rfl⟩
          rw [show decide ((0 : Fin 6) ≤ 0) = true from decide_eq_true (Nat.le_refl 0)]
          go_wp2_with fail
          refine (lmax_lev 0 0 0 (if_pos (show (0 : Fin 6) ≤ 0 from Nat.le_refl 0)) _).mono ?_
          rintro e w2 ⟨rfl, rfl⟩
          rw [show lev 0 = 0 from rfl]
          go_wp2_with fail
          refine (lmin_lev 0 0 0 (if_pos (show (0 : Fin 6) ≤ 0 from Nat.le_refl 0)) _).mono ?_
          rintro e w2 ⟨rfl, rfl⟩
          rw [show lev 0 = 0 from rfl]
          go_wp2_with fail
          refine (rise_lev 0 _).mono ?_
          rintro e w2 ⟨rfl, rfl⟩
          rw [show lev (up 0) = 5 from rfl]
          go_wp2_with fail
          go_ret
          exact ⟨rfl, Below.refl _ _⟩
        · have h1 : (m : Int) > 0 := by omega
          have h2 : ¬ (m : Int) < 0 := by omega
          have h3 : (0 : Int) ≤ (m : Int) := by omega
          go_wp2_with fail
          refine (lflows_lev 0 ⟨m, hlm⟩ _).mono ?_
          rintro e w2 ⟨rfl, rfl⟩
          rw [show decide ((0 : Fin 6) ≤ ⟨m, hlm⟩) = true from decide_eq_true (Nat.zero_le m)]
          go_wp2_with fail
          refine (lmax_lev 0 ⟨m, hlm⟩ ⟨m, hlm⟩ (if_pos (show (0 : Fin 6) ≤ ⟨m, hlm⟩ from Nat.zero_le m)) _).mono ?_
          rintro e w2 ⟨rfl, rfl⟩
          rw [show lev ⟨m, hlm⟩ = (m : Int) from rfl]
          go_wp2_with fail
          refine (lmin_lev 0 ⟨m, hlm⟩ 0 (if_pos (show (0 : Fin 6) ≤ ⟨m, hlm⟩ from Nat.zero_le m)) _).mono ?_
          rintro e w2 ⟨rfl, rfl⟩
          rw [show lev 0 = 0 from rfl]
          go_wp2_with fail
          refine (rise_lev 0 _).mono ?_
          rintro e w2 ⟨rfl, rfl⟩
          rw [show lev (up 0) = 5 from rfl]
          go_wp2_with fail
          go_ret
          exact ⟨rfl, Below.refl _ _⟩
      · have h0' : ¬ (k : Int) = 0 := by omega
        rcases Nat.lt_trichotomy k m with hkm | hkm | hkm
        · have h1 : (m : Int) > (k : Int) := by omega
          have h2 : ¬ (m : Int) < (k : Int) := by omega
          have h3 : (k : Int) ≤ (m : Int) := by omega
          go_wp2_with fail
          refine (lflows_lev ⟨k, hlt⟩ ⟨m, hlm⟩ _).mono ?_
          rintro e w2 ⟨rfl, rfl⟩
          rw [show decide ((⟨k, hlt⟩ : Fin 6) ≤ ⟨m, hlm⟩) = true from decide_eq_true (Nat.le_of_lt hkm)]
          go_wp2_with fail
          refine (lmax_lev ⟨k, hlt⟩ ⟨m, hlm⟩ ⟨m, hlm⟩ (if_pos (show (⟨k, hlt⟩ : Fin 6) ≤ ⟨m, hlm⟩ from Nat.le_of_lt hkm)) _).mono ?_
          rintro e w2 ⟨rfl, rfl⟩
          rw [show lev ⟨m, hlm⟩ = (m : Int) from rfl]
          go_wp2_with fail
          refine (lmin_lev ⟨k, hlt⟩ ⟨m, hlm⟩ ⟨k, hlt⟩ (if_pos (show (⟨k, hlt⟩ : Fin 6) ≤ ⟨m, hlm⟩ from Nat.le_of_lt hkm)) _).mono ?_
          rintro e w2 ⟨rfl, rfl⟩
          rw [show lev ⟨k, hlt⟩ = (k : Int) from rfl]
          go_wp2_with fail
          refine (rise_lev ⟨k, hlt⟩ _).mono ?_
          rintro e w2 ⟨rfl, rfl⟩
          rw [show up ⟨k, hlt⟩ = ⟨k, hlt⟩ from if_neg (fun h => h0 (congrArg Fin.val h)), show lev ⟨k, hlt⟩ = (k : Int) from rfl]
          go_wp2_with fail
          go_ret
          exact ⟨rfl, Below.refl _ _⟩
        · obtain rfl := hkm
          go_wp2_with fail
          refine (lflows_lev ⟨k, hlt⟩ ⟨k, hlt⟩ _).mono ?_
          rintro e w2 ⟨rfl, rfl⟩
          rw [show decide ((⟨k, hlt⟩ : Fin 6) ≤ ⟨k, hlt⟩) = true from decide_eq_true (Nat.le_refl k)]
          go_wp2_with fail
          refine (lmax_lev ⟨k, hlt⟩ ⟨k, hlt⟩ ⟨k, hlt⟩ (if_pos (show (⟨k, hlt⟩ : Fin 6) ≤ ⟨k, hlt⟩ from Nat.le_refl k)) _).mono ?_
          rintro e w2 ⟨rfl, rfl⟩
          rw [show lev ⟨k, hlt⟩ = (k : Int) from rfl]
          go_wp2_with fail
          refine (lmin_lev ⟨k, hlt⟩ ⟨k, hlt⟩ ⟨k, hlt⟩ (if_pos (show (⟨k, hlt⟩ : Fin 6) ≤ ⟨k, hlt⟩ from Nat.le_refl k)) _).mono ?_
          rintro e w2 ⟨rfl, rfl⟩
          rw [show lev ⟨k, hlt⟩ = (k : Int) from rfl]
          go_wp2_with fail
          refine (rise_lev ⟨k, hlt⟩ _).mono ?_
          rintro e w2 ⟨rfl, rfl⟩
          rw [show up ⟨k, hlt⟩ = ⟨k, hlt⟩ from if_neg (fun h => h0 (congrArg Fin.val h)), show lev ⟨k, hlt⟩ = (k : Int) from rfl]
          go_wp2_with fail
          go_ret
          exact ⟨rfl, Below.refl _ _⟩
        · have h1 : ¬ (m : Int) > (k : Int) := by omega
          have h2 : (m : Int) < (k : Int) := by omega
          have h3 : ¬ (k : Int) ≤ (m : Int) := by omega
          have h5 : ¬ k ≤ m := Nat.not_le_of_lt hkm
          go_wp2_with fail
          refine (lflows_lev ⟨k, hlt⟩ ⟨m, hlm⟩ _).mono ?_
          rintro e w2 ⟨rfl, rfl⟩
          rw [show decide ((⟨k, hlt⟩ : Fin 6) ≤ ⟨m, hlm⟩) = false from decide_eq_false (Nat.not_le_of_lt hkm)]
          go_wp2_with fail
          refine (lmax_lev ⟨k, hlt⟩ ⟨m, hlm⟩ ⟨k, hlt⟩ (if_neg (show ¬ (⟨k, hlt⟩ : Fin 6) ≤ ⟨m, hlm⟩ from Nat.not_le_of_lt hkm)) _).mono ?_
          rintro e w2 ⟨rfl, rfl⟩
          rw [show lev ⟨k, hlt⟩ = (k : Int) from rfl]
          go_wp2_with fail
          refine (lmin_lev ⟨k, hlt⟩ ⟨m, hlm⟩ ⟨m, hlm⟩ (if_neg (show ¬ (⟨k, hlt⟩ : Fin 6) ≤ ⟨m, hlm⟩ from Nat.not_le_of_lt hkm)) _).mono ?_
          rintro e w2 ⟨rfl, rfl⟩
          rw [show lev ⟨m, hlm⟩ = (m : Int) from rfl]
          go_wp2_with fail
          refine (rise_lev ⟨k, hlt⟩ _).mono ?_
          rintro e w2 ⟨rfl, rfl⟩
          rw [show up ⟨k, hlt⟩ = ⟨k, hlt⟩ from if_neg (fun h => h0 (congrArg Fin.val h)), show lev ⟨k, hlt⟩ = (k : Int) from rfl]
          go_wp2_with fail
          go_ret
          exact ⟨rfl, Below.refl _ _⟩
    · have hh : b > 5 := by omega
      go_wp2_with fail
      go_ret
      exact ⟨rfl, Below.refl _ _⟩
  · have hg : a > 5 := by omega
    have h4 : ¬ a ≤ 4 := by omega
    go_wp2_with fail
    refine (may_above a hg _).mono ?_
    rintro e w2 ⟨rfl, rfl⟩
    go_wp2_with fail
    go_ret
    exact ⟨rfl, Below.refl _ _⟩
end Go.Proofs.Ytcnemakhiipkdaa
