/- NumParts walked: it answers true, and turns nothing that was there. -/
import Derived.Test.YtinelpegpcfoaaaBegun
namespace Go.Proofs.Ytinelpegpcfoaaa
open Go.RowKit

set_option maxHeartbeats 400000 in
theorem numParts_walk (v n m : Int) (w : World) (hn : 0 ≤ n ∧ n < 256) (hm : 0 ≤ m ∧ m < 256) :
    Calls Try.prog 8 #[.int .u64 v, .int .u8 n, .int .u8 m] w fun e w' => e = .returned (.bool true) ∧ Below w.heap.size w w' := by
  obtain ⟨hn0, hn1⟩ := hn
  obtain ⟨hm0, hm1⟩ := hm
  go_enter Try.func8, Try.ntmps8
  go_wp2_with fail
  refine (begun_true _).mono ?_
  rintro e w1 ⟨rfl, hb1⟩
  go_wp2_with fail
  refine (put_any none 0 0 v _ [] _ (Row.nil _) (by omega)).mono ?_
  rintro e w2 ⟨g2, cap2, rfl, hown2, hb2⟩
  replace hb2 := ext_trans hb1 hb2
  simp only [Nat.zero_add, List.nil_append] at hown2
  go_wp2_with fail
  refine (put_any none 0 0 _ _ [] _ (Row.nil _) (by omega)).mono ?_
  rintro e w3 ⟨g3, cap3, rfl, hown3, hb3⟩
  simp only [Nat.zero_add, List.nil_append] at hown3
  have hr2 := hown2.row.below hb3
  replace hb3 := ext_trans hb2 hb3
  go_wp2_with fail
  have hle := wid_le (n % 5)
  refine (put_any _ _ _ _ _ _ _ hown3.row (by omega)).mono ?_
  rintro e w4 ⟨g4, cap4, rfl, hown4, hb4⟩
  replace hr2 := hr2.below hb4
  replace hb4 := ext_trans hb3 hb4
  have hx : putB (v / 2 ^ (8 * (m % 5)).toNat) (wid (n % 5)) ++ putB v (wid (m % 5)) = putB v (wid (n % 5 + m % 5)) := by
    have e1 : wid (n % 5 + m % 5) = wid (n % 5) + wid (m % 5) := by unfold wid; rw [if_neg (by omega), if_neg (by omega), if_neg (by omega)]; omega
    have e2 : (8 * (m % 5)).toNat = 8 * wid (m % 5) := by unfold wid; rw [if_neg (by omega)]; omega
    rw [e1, putB_split, e2, Int.pow_mul]; rfl
  have hlen : ((wid (n % 5 + m % 5) : Int) == n % 5 + m % 5) = true := by
    unfold wid; rw [if_neg (by omega)]; simp; omega
  rw [hx] at hown4
  clear hx hown2 hown3
  have hs1 := run_str (P := Try.prog) w4 22 9 5 Try.underlying22 Try.underlying5 Try.underlying9 _ _ _ _ hr2
  have hs2 := run_str (P := Try.prog) w4 22 9 5 Try.underlying22 Try.underlying5 Try.underlying9 _ _ _ _ hown4.row
  go_wp2_with fail
  go_ret
  exact ⟨rfl, hb4⟩
end Go.Proofs.Ytinelpegpcfoaaa
