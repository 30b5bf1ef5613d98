/- 'FrameFull' answers true: there are just as many frames as were asked for, the least free one first. -/
import Derived.Test.YtdnlldmpigfadaaFrMo
namespace Go.Proofs.Ytdnlldmpigfadaa
open Go.RowKit

theorem firstN_cnt (k : Nat) : cnt (firstN k) k = k := cnt_all fun i hi => by rw [firstN_lt hi]; simp
theorem firstN_back {k x : Nat} (hx : x < k) : upd (upd (firstN k) x none) x (some fun _ => 0) = firstN k := by
  funext i
  by_cases h : i = x
  · subst h; rw [upd_same, firstN_lt hx]
  · rw [upd_other _ _ h, upd_other _ _ h]
set_option maxHeartbeats 1000000 in
theorem frameFull_all (n x : Int) (hn : 0 ≤ n ∧ n < 256) (hx : 0 ≤ x ∧ x < 256) (W : World) :
    Calls Try.prog 5 #[.int .u8 n, .int .u8 x] W fun e w' => e = .returned (.bool true) ∧ Below W.heap.size W w' := by
  obtain ⟨k, hk, ek⟩ : ∃ k : Nat, k < 40 ∧ n.tmod 40 = (k : Int) := ⟨(n % 40).toNat, by omega, by rw [Int.tmod_eq_emod_of_nonneg hn.1]; omega⟩
  clear hn
  go_enter Try.func5, Try.ntmps5
  go_wp2_with fail
  refine (begun12_true _).mono ?_
  rintro e w1 ⟨rfl, hb1⟩
  go_wp2_with fail
  refine (mo_new hb1 k k (by omega)).mono ?_
  rintro e w2 ⟨p, rfl, hm⟩
  clear hb1
  go_wp2_with fail
  go_loopw [7] (fun i wr => ∃ j : Nat, j ≤ k ∧ i = .int .i64 j ∧ Mo W wr p k (firstN j)) (fun i _ => k - (intOf i).toNat)
  case atStart => exact ⟨0, by omega, rfl, by rw [firstN_zero]; exact hm⟩
  case round =>
    obtain ⟨j, hj, rfl, hmo⟩ := hrel
    clear hm
    by_cases e : j < k
    · have hp : (j : Int) < (k : Int) := by omega
      go_wp2_with fail
      refine (mo_take hmo j e (fun i hi => by rw [firstN_lt hi]; simp) (firstN_ge (Nat.le_refl _))).mono ?_
      rw [firstN_succ]
      rintro e w3 ⟨rfl, hm3⟩
      go_wp2_with fail
      go_roundw
      case rel => exact ⟨j + 1, by omega, by go_num, hm3⟩
      case measure => simp [intOf]; omega
    · obtain rfl : j = k := by omega
      go_wp2_with fail
      refine (mo_full hmo (fun i hi => by rw [firstN_lt hi]; simp)).mono ?_
      rintro e w3 ⟨rfl, rfl⟩
      go_wp2_with fail
      refine (mo_used hmo j (firstN_cnt j)).mono ?_
      rintro e w3 ⟨rfl, rfl⟩
      by_cases h0 : j = 0
      · subst h0
        go_wp2_with fail
        go_ret
        exact ⟨rfl, hmo.below⟩
      · have hz : ((j : Int) == 0) = false := by rw [beq_eq_false_iff_ne]; intro h; omega
        obtain ⟨y, hy, ey⟩ : ∃ y : Nat, y < j ∧ x.tmod (j : Int) = (y : Int) := by
          have h1 := Int.emod_nonneg x (show (j : Int) ≠ 0 by omega)
          have h2 := Int.emod_lt_of_pos x (show 0 < (j : Int) by omega)
          exact ⟨(x % (j : Int)).toNat, by omega, by rw [Int.tmod_eq_emod_of_nonneg hx.1]; omega⟩
        clear h0
        go_wp2_with fail
        refine (mo_free hmo y _ (firstN_lt hy)).mono ?_
        rintro e w4 ⟨rfl, hm4⟩
        go_wp2_with fail
        refine (mo_take hm4 y hy (fun i hi => by rw [upd_other _ _ (by omega), firstN_lt (by omega)]; simp) (upd_same _ _ _)).mono ?_
        rw [firstN_back hy]
        rintro e w5 ⟨rfl, hm5⟩
        clear hmo hm4
        go_wp2_with fail
        refine (mo_full hm5 (fun i hi => by rw [firstN_lt hi]; simp)).mono ?_
        rintro e w6 ⟨rfl, rfl⟩
        go_wp2_with fail
        refine (mo_new hm5.below (-5) 0 rfl).mono ?_
        rintro e w7 ⟨p2, rfl, hm7⟩
        go_wp2_with fail
        refine (mo_used hm7 0 rfl).mono ?_
        rintro e w8 ⟨rfl, rfl⟩
        go_wp2_with fail
        go_ret
        exact ⟨rfl, hm7.below⟩
end Go.Proofs.Ytdnlldmpigfadaa
