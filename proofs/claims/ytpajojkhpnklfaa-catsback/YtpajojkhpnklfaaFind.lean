/- What the library's binary search and comparison, and cats.Has, answer of a set: contracts. -/
import Derived.Test.YtpajojkhpnklfaaReads
namespace Go.Proofs.Ytpajojkhpnklfaa
open Go.RowKit

set_option maxHeartbeats 400000 in
theorem isNaN_any (x : Int) (w : World) : Calls Try.prog 60 #[.int .u16 x] w fun e w' => e = .returned (.bool false) ∧ w' = w := by
  go_enter Try.func60, Try.ntmps60
  go_wp2
  go_ret
  exact ⟨by simp, rfl⟩
set_option maxHeartbeats 400000 in
theorem isNaN2_any (x : Int) (w : World) : Calls Try.prog 47 #[.int .u16 x] w fun e w' => e = .returned (.bool false) ∧ w' = w := by
  go_enter Try.func47, Try.ntmps47
  go_wp2
  go_ret
  exact ⟨by simp, rfl⟩
set_option maxHeartbeats 400000 in
theorem less_any (x y : Int) (w : World) : Calls Try.prog 46 #[.int .u16 x, .int .u16 y] w fun e w' => e = .returned (.bool (decide (x < y))) ∧ w' = w := by
  go_enter Try.func46, Try.ntmps46
  go_wp2_with fail
  refine (isNaN_any x _).mono ?_
  rintro e w1 ⟨rfl, rfl⟩
  go_wp2_with fail
  go_ret
  exact ⟨rfl, rfl⟩

set_option maxHeartbeats 1000000 in
theorem search_any (a : Option Addr) (n cap : Nat) (xs : List Int) (c : Int) (w : World) (hr : RowW w a n cap xs) (hs : Srt xs) (hbd : n ≤ 70368744177664) :
    Calls Try.prog 35 #[.slice a n cap, .int .u16 c] w fun e w' => ∃ p : Int, e = .returned (.tuple #[.int .i64 p, .bool (decide (c ∈ xs))]) ∧ w' = w := by
  have hl : Hid (xs.length = n) := hr.len
  have hcap := hr.cap_le
  go_enter Try.func35, Try.ntmps35
  go_wp2_with fail
  go_loop [7, 8] (fun i j => ∃ p q : Nat, p ≤ q ∧ q ≤ n ∧ i = .int .i64 p ∧ j = .int .i64 q ∧ (∀ t, t < p → xs.getD t 0 < c) ∧ (∀ t, q ≤ t → t < n → c ≤ xs.getD t 0)) (fun i j => (intOf j).toNat - (intOf i).toNat)
  case atStart => exact ⟨0, n, by omega, by omega, rfl, rfl, fun t h => by omega, fun t h h' => by omega⟩
  case round =>
    obtain ⟨p, q, hpq, hqn, rfl, rfl, hlo, hhi⟩ := hrel
    by_cases hlt : p < q
    · have h1 : (p : Int) < (q : Int) := by omega
      obtain ⟨m, hm⟩ : ∃ m : Nat, m = (p + q) / 2 := ⟨_, rfl⟩
      have e3 : ((p : Int) + (q : Int)) / 2 = (m : Int) := by omega
      have h2 : m < n := by omega
      have h3 : (m : Int) < (n : Int) := by omega
      have h4 : p ≤ m ∧ m < q := by omega
      have HM : Hid (m = (p + q) / 2) := hm
      clear hm
      obtain ⟨b, off, rfl, hc⟩ := hr.at (by omega)
      have c1 := hc m h2
      generalize hX : xs.getD m 0 = X at c1
      have HX : Hid (xs.getD m 0 = X) := hX
      clear hX hc
      go_wp2_with fail
      refine (less_any X c _).mono ?_
      rintro e w1 ⟨rfl, rfl⟩
      by_cases hXc : X < c
      · go_wp2
        go_round
        case rel =>
          refine ⟨m + 1, q, by omega, by omega, by go_num, rfl, fun t ht => ?_, hhi⟩
          by_cases hj : t < m
          · have h5 := hs.lt hj (by have := hl.out; omega); have h6 := HX.out; omega
          · obtain rfl : t = m := by omega
            rw [HX.out]; exact hXc
        case measure => simp [intOf]; omega
      · have hXc' : decide (X < c) = false := by simpa using hXc
        go_wp2
        go_round
        case rel =>
          refine ⟨p, m, by omega, by omega, rfl, rfl, hlo, fun t ht ht2 => ?_⟩
          by_cases hj : m < t
          · have h5 := hs.lt hj (by have := hl.out; omega); have h6 := HX.out; omega
          · obtain rfl : t = m := by omega
            rw [HX.out]; omega
        case measure => simp [intOf]; omega
    · obtain rfl : p = q := by omega
      have hll := hl.out
      have hmem : c ∈ xs ↔ p < n ∧ xs.getD p 0 = c := by
        constructor
        · intro h
          obtain ⟨i, hi, e⟩ := mem_getD.1 h
          have : i = p := by
            by_cases h1 : i < p
            · have := hlo i h1; omega
            · by_cases h2 : p < i
              · have h3 := hs.lt h2 hi; have h4 := hhi p (by omega) (by omega); omega
              · omega
          subst this
          exact ⟨by omega, e⟩
        · rintro ⟨h1, h2⟩
          exact mem_getD.2 ⟨p, by omega, h2⟩
      have HMEM : Hid (c ∈ xs ↔ p < n ∧ xs.getD p 0 = c) := hmem
      clear hmem hll
      by_cases hpn : p < n
      · have h1 : (p : Int) < (n : Int) := by omega
        obtain ⟨b, off, rfl, hc⟩ := hr.at (by omega)
        have c1 := hc p hpn
        generalize hX : xs.getD p 0 = X at c1
        have HX : Hid (xs.getD p 0 = X) := hX
        clear hX hc
        by_cases hXc : X = c
        · subst hXc
          go_wp2_with fail
          go_ret2
          first | refine ⟨⟨p, ?_⟩, rfl⟩ | refine ⟨p, ?_, rfl⟩
          rw [decide_eq_true (HMEM.out.2 ⟨hpn, HX.out⟩)]; rfl
        · have hXc' : (X == c) = false := by simpa using hXc
          go_wp2_with fail
          refine (isNaN2_any X _).mono ?_
          rintro e w1 ⟨rfl, rfl⟩
          go_wp2_with fail
          go_ret2
          first | refine ⟨⟨p, ?_⟩, rfl⟩ | refine ⟨p, ?_, rfl⟩
          rw [decide_eq_false (fun h => hXc (HX.out.symm.trans (HMEM.out.1 h).2))]; rfl
      · have h1 : decide ((p : Int) < (n : Int)) = false := by simp; omega
        go_wp2_with fail
        go_ret2
        first | refine ⟨⟨p, ?_⟩, rfl⟩ | refine ⟨p, ?_, rfl⟩
        rw [decide_eq_false (fun h => hpn (HMEM.out.1 h).1)]; rfl

set_option maxHeartbeats 400000 in
theorem has_any (a : Option Addr) (n cap : Nat) (xs : List Int) (c : Int) (w : World) (hr : RowW w a n cap xs) (hs : Srt xs) (hbd : n ≤ 70368744177664) :
    Calls Try.prog 16 #[.slice a n cap, .int .u16 c] w fun e w' => e = .returned (.bool (decide (c ∈ xs))) ∧ w' = w := by
  have hf := search_any a n cap xs c w hr hs hbd
  generalize decide (c ∈ xs) = q at hf ⊢
  go_enter Try.func16, Try.ntmps16
  go_wp2_with fail
  refine hf.mono ?_
  rintro e w1 ⟨p, rfl, rfl⟩
  go_wp2_with fail
  go_ret
  exact ⟨rfl, rfl⟩
end Go.Proofs.Ytpajojkhpnklfaa
