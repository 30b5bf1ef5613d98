/- 'PagesFull' answers true: as many names can be mapped at once as frames allow, and what is unmapped makes room. -/
import Derived.Test.YtdmdamidknbjoaaPgBegun
namespace Go.Proofs.Ytdmdamidknbjoaa
open Go.RowKit
set_option maxRecDepth 100000

/-- The ids below j have s noughts each. -/
def tN (s j : Nat) : Txt := fun i => if 0 ≤ i ∧ i < (j : Int) then some (s, fun _ => 0) else none
theorem tN_zero (s : Nat) : tN s 0 = fun _ => none := by
  funext i
  unfold tN
  rw [if_neg (by omega)]
theorem tN_next (s j : Nat) : setI (tN s j) (j : Int) (some (s, fun _ => 0)) = tN s (j + 1) := by
  funext i
  unfold setI tN
  by_cases h : i = (j : Int)
  · rw [if_pos h, if_pos (by omega)]
  · rw [if_neg h]
    by_cases h2 : 0 ≤ i ∧ i < (j : Int)
    · rw [if_pos h2, if_pos (by omega)]
    · rw [if_neg h2, if_neg (by omega)]
theorem tN_ge {s j : Nat} {i : Int} (h : (j : Int) ≤ i) : tN s j i = none := if_neg (by omega)
theorem uN {j : Nat} (h : j < 1000) : U (j : Int) := ⟨by omega, by omega⟩
set_option maxHeartbeats 1000000 in
theorem pagesFull_all (n x : Int) (hn : 0 ≤ n ∧ n < 256) (hx : 0 ≤ x ∧ x < 256) (W : World) :
    Calls Try.prog 5 #[.int .u8 n, .int .u8 x] W fun e w' => e = .returned (.bool true) ∧ Below W.heap.size W w' := by
  obtain ⟨f, hf, ef⟩ : ∃ f : Nat, f < 30 ∧ n.tmod 30 = (f : Int) := ⟨(n % 30).toNat, by omega, by rw [Int.tmod_eq_emod_of_nonneg hn.1]; omega⟩
  obtain ⟨s, hs, es⟩ : ∃ s : Nat, s ≤ 64 ∧ x.tmod 65 = (s : Int) := ⟨(x % 65).toNat, by omega, by rw [Int.tmod_eq_emod_of_nonneg hx.1]; omega⟩
  clear hn hx
  obtain ⟨P, hP⟩ : ∃ P, pg s = P := ⟨_, rfl⟩
  have hP4 : P ≤ 4 := by rw [← hP]; exact pg_64 hs
  have eP : ((s : Int) + 16 - 1) / 16 = (P : Int) := by rw [← hP]; unfold pg; omega
  have eP2 : ((s : Int) + 16 - 1).tdiv 16 = (P : Int) := by rw [Int.tdiv_eq_ediv_of_nonneg (by omega)]; exact eP
  go_enter Try.func5, Try.ntmps5
  go_wp2_with fail
  refine (begun13_true _).mono ?_
  rintro e w1 ⟨rfl, hb1⟩
  go_wp2_with fail
  refine (po_new hb1 f f (by omega)).mono ?_
  rintro e w2 ⟨q, rfl, h2⟩
  clear hb1
  by_cases hz : P = 0
  · subst hz
    go_wp2_with fail
    refine (po_map h2 1 ⟨by decide, by decide⟩ rfl s hs (by omega) (by omega)).mono ?_
    rintro e w3 ⟨rfl, h3⟩
    rw [hP, Nat.sub_zero] at h3
    go_wp2_with fail
    refine (po_free h3).mono ?_
    rintro e w4 ⟨rfl, hb4⟩
    go_wp2_with fail
    go_ret
    exact ⟨rfl, (h3.on hb4).below⟩
  · have hz1 : ((P : Int) == 0) = false := by rw [beq_eq_false_iff_ne]; omega
    obtain ⟨k, hk⟩ : ∃ k, f / P = k := ⟨_, rfl⟩
    obtain ⟨m, hm⟩ : ∃ m, k * P = m := ⟨_, rfl⟩
    obtain ⟨v, hv⟩ : ∃ v, f - m = v := ⟨_, rfl⟩
    have h1 : m ≤ f := by rw [← hm, ← hk]; exact Nat.div_mul_le_self f P
    have h2' : f < m + P := by rw [← hm, ← hk]; exact Nat.lt_div_mul_add (by omega)
    have hk30 : k < 30 := by rw [← hk]; exact Nat.lt_of_le_of_lt (Nat.div_le_self _ _) hf
    have ek : (f : Int) / (P : Int) = (k : Int) := by rw [← hk]; rfl
    have ek2 : (f : Int).tdiv (P : Int) = (k : Int) := by rw [Int.tdiv_eq_ediv_of_nonneg (by omega)]; exact ek
    have em : (k : Int) * (P : Int) = (m : Int) := by rw [← hm]; simp
    have ev : (f : Int) - (m : Int) = (v : Int) := by omega
    have HM : Hid (k * P = m) := hm
    have HV : Hid (f - m = v) := hv
    have HP : Hid (pg s = P) := hP
    clear hk hm hv hP
    go_wp2_with fail
    go_loopw [10] (fun i wr => ∃ j : Nat, j ≤ k ∧ i = .int .i64 j ∧ Po W wr q f j (f - j * P) (tN s j)) (fun i _ => k - (intOf i).toNat)
    case atStart => exact ⟨0, by omega, rfl, by rw [tN_zero, Nat.zero_mul]; exact h2⟩
    case round =>
      obtain ⟨j, hj, rfl, hp⟩ := hrel
      clear h2
      by_cases e : j < k
      · have hjk : (j : Int) < (k : Int) := by omega
        have hfit : pg s ≤ f - j * P := by
          have h3 : (j + 1) * P ≤ k * P := Nat.mul_le_mul_right _ e
          rw [HM.out, Nat.succ_mul] at h3
          rw [HP.out]; omega
        have hsub : f - j * P - pg s = f - (j + 1) * P := by rw [HP.out, Nat.succ_mul, Nat.sub_sub]
        go_wp2_with fail
        refine (po_map hp j (uN (by omega)) (tN_ge (Int.le_refl _)) s hs hfit (by omega)).mono ?_
        rw [hsub, tN_next]
        rintro e w3 ⟨rfl, h3⟩
        go_wp2_with fail
        go_roundw
        case rel => exact ⟨j + 1, by omega, by go_num, h3⟩
        case measure => simp [intOf]; omega
      · obtain rfl : k = j := by omega
        rw [HM.out, HV.out] at hp
        go_wp2_with fail
        refine (po_full hp 100 ⟨by decide, by decide⟩ (tN_ge (by omega)) s hs (by rw [HP.out]; omega)).mono ?_
        rintro e w3 ⟨rfl, h3⟩
        clear hp
        go_wp2_with fail
        refine (po_free h3).mono ?_
        rintro e w4 ⟨rfl, hb4⟩
        have h4 := h3.on hb4
        clear h3 hb4
        by_cases h0 : k = 0
        · subst h0
          go_wp2_with fail
          go_ret
          exact ⟨rfl, h4.below⟩
        · have hk0 : ((k : Int) == 0) = false := by rw [beq_eq_false_iff_ne]; omega
          have hk1 : Hid (0 < k) := Nat.pos_of_ne_zero h0
          clear h0
          go_wp2_with fail
          refine (po_unmap h4 0 ⟨by decide, by decide⟩ s (fun _ => 0) (if_pos ⟨by decide, by have := hk1.out; omega⟩)).mono ?_
          rintro e w5 ⟨rfl, h5⟩
          go_wp2_with fail
          refine (po_map h5 100 ⟨by decide, by decide⟩ (by rw [setI_other _ _ (by decide)]; exact tN_ge (by omega)) s hs (by omega) (by omega)).mono ?_
          rw [Nat.add_sub_cancel]
          rintro e w6 ⟨rfl, h6⟩
          clear h4 h5
          go_wp2_with fail
          refine (po_free h6).mono ?_
          rintro e w7 ⟨rfl, hb7⟩
          go_wp2_with fail
          go_ret
          exact ⟨rfl, (h6.on hb7).below⟩
end Go.Proofs.Ytdmdamidknbjoaa
