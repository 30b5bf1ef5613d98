/- PlaneLattice walked: it answers true, and turns nothing that was there. -/
import Derived.Test.YtknnohhmldopbaaPlaneBegun
namespace Go.Proofs.Ytknnohhmldopbaa
open Go.RowKit

theorem six (a : Int) : ∃ i : Fin 6, a % 6 = lev i := ⟨⟨(a % 6).toNat, by omega⟩, by simp only [lev]; omega⟩
theorem lat1 : ∀ i j : Fin 6, top j i = top i j := by decide
theorem lat2 : ∀ i j : Fin 6, low j i = low i j := by decide
theorem lat3 : ∀ i j : Fin 6, top i (low i j) = i := by decide
theorem lat4 : ∀ i j : Fin 6, low i (top i j) = i := by decide
theorem lat5 : ∀ i j : Fin 6, decide (i ≤ top i j) = true := by decide
theorem lat6 : ∀ i j : Fin 6, decide (low i j ≤ i) = true := by decide
theorem lat7 : ∀ i j k : Fin 6, top i (top j k) = top (top i j) k := by decide
theorem lat8 : ∀ i j : Fin 6, decide (i ≤ j) = false → decide (j ≤ i) = true := by decide
theorem lat9 : ∀ i j : Fin 6, decide (top i j = j) = decide (i ≤ j) := by decide

set_option maxHeartbeats 800000 in
theorem planeLattice_walk (a b c : Int) (w : World) (ha : 0 ≤ a ∧ a < 256) (hb : 0 ≤ b ∧ b < 256) (hc : 0 ≤ c ∧ c < 256) :
    Calls Try.prog 5 #[.int .u8 a, .int .u8 b, .int .u8 c] w fun e w' => e = .returned (.bool true) ∧ Below w.heap.size w w' := by
  obtain ⟨ha0, ha1⟩ := ha
  obtain ⟨hb0, hb1⟩ := hb
  obtain ⟨hc0, hc1⟩ := hc
  obtain ⟨i, hi⟩ := six a
  obtain ⟨j, hj⟩ := six b
  obtain ⟨k, hk⟩ := six c
  go_enter Try.func5, Try.ntmps5
  go_wp2_with fail
  refine (planeBegun _).mono ?_
  rintro e w1 ⟨rfl, rfl⟩
  go_wp2_with fail
  rw [hi]
  refine (point_lev i _).mono ?_
  rintro e w2 ⟨rfl, rfl⟩
  go_wp2_with fail
  rw [hj]
  refine (point_lev j _).mono ?_
  rintro e w2 ⟨rfl, rfl⟩
  go_wp2_with fail
  rw [hk]
  refine (point_lev k _).mono ?_
  rintro e w2 ⟨rfl, rfl⟩
  go_wp2_with fail
  refine (join_pt i j (top i j) rfl _).mono ?_
  rintro e w2 ⟨rfl, rfl⟩
  go_wp2_with fail
  refine (meet_pt i j (low i j) rfl _).mono ?_
  rintro e w2 ⟨rfl, rfl⟩
  go_wp2_with fail
  refine (join_pt j i (top i j) (lat1 i j) _).mono ?_
  rintro e w2 ⟨rfl, rfl⟩
  go_wp2_with fail
  refine (meet_pt j i (low i j) (lat2 i j) _).mono ?_
  rintro e w2 ⟨rfl, rfl⟩
  go_wp2_with fail
  refine (join_pt i (low i j) i (lat3 i j) _).mono ?_
  rintro e w2 ⟨rfl, rfl⟩
  go_wp2_with fail
  refine (meet_pt i (top i j) i (lat4 i j) _).mono ?_
  rintro e w2 ⟨rfl, rfl⟩
  go_wp2_with fail
  refine (flows_pt i (top i j) _).mono ?_
  rintro e w2 ⟨rfl, rfl⟩
  rw [lat5]
  go_wp2_with fail
  refine (flows_pt (low i j) i _).mono ?_
  rintro e w2 ⟨rfl, rfl⟩
  rw [lat6]
  go_wp2_with fail
  refine (join_pt i j (top i j) rfl _).mono ?_
  rintro e w2 ⟨rfl, rfl⟩
  go_wp2_with fail
  refine (join_pt (top i j) k (top (top i j) k) rfl _).mono ?_
  rintro e w2 ⟨rfl, rfl⟩
  go_wp2_with fail
  refine (join_pt j k (top j k) rfl _).mono ?_
  rintro e w2 ⟨rfl, rfl⟩
  go_wp2_with fail
  refine (join_pt i (top j k) (top (top i j) k) (lat7 i j k) _).mono ?_
  rintro e w2 ⟨rfl, rfl⟩
  go_wp2_with fail
  refine (flows_pt i j _).mono ?_
  rintro e w2 ⟨rfl, rfl⟩
  have h9 := lat9 i j
  cases hd : decide (i ≤ j)
  · have h8 := lat8 i j hd
    rw [hd] at h9
    go_wp2_with fail
    refine (flows_pt j i _).mono ?_
    rintro e w2 ⟨rfl, rfl⟩
    rw [h8]
    go_wp2_with fail
    refine (flows_pt i j _).mono ?_
    rintro e w2 ⟨rfl, rfl⟩
    rw [hd]
    go_wp2_with fail
    go_ret
    exact ⟨rfl, Below.refl _ _⟩
  · rw [hd] at h9
    go_wp2_with fail
    refine (flows_pt i j _).mono ?_
    rintro e w2 ⟨rfl, rfl⟩
    rw [hd]
    go_wp2_with fail
    go_ret
    exact ⟨rfl, Below.refl _ _⟩
end Go.Proofs.Ytknnohhmldopbaa
