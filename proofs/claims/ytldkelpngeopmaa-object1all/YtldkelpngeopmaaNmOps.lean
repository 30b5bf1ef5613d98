/- What the functions of package name answer: contracts, for every number. -/
import Derived.Test.YtldkelpngeopmaaRows
import Derived.Test.YtldkelpngeopmaaQuads
import Derived.Test.YtldkelpngeopmaaNmMath
import Derived.Lib.EndianBits
namespace Go.Proofs.Ytldkelpngeopmaa
open Go.RowKit
set_option maxRecDepth 100000

/-- A number of 64 bits. -/
def U (x : Int) : Prop := 0 ≤ x ∧ x < 18446744073709551616
theorem U.div {x : Int} (h : U x) (k : Nat) : U (x / 64 ^ k) := by
  have := Int.ediv_le_self (64 ^ k) h.1
  exact ⟨Int.ediv_nonneg h.1 (Int.le_of_lt (pow_pos64 k)), by have := h.2; omega⟩
theorem and63 (x : Int) (h : U x) : bits .and .u64 x 63 = x % 64 := by
  have := bits_mask .u64 64 (by decide) wraps_u64 6 (by decide) x h.1 h.2
  simpa using this
theorem pow_six (k : Nat) : (2 : Int) ^ (k * 6) = 64 ^ k := by
  rw [Nat.mul_comm, Int.pow_mul]; rfl

theorem last_any (x : Int) (h : U x) (w : World) : Calls Try.prog 65 #[.int .u64 x] w fun e w' => e = .returned (.int .i64 (x % 64)) ∧ w' = w := by
  have h1 := and63 x h
  have h2 : IntKind.i64.wrap (x % 64) = x % 64 := Go.IntWalk.i64_in _ (by omega)
  go_enter Try.func65, Try.ntmps65
  go_wp2
  first | go_ret | go_ret2
  exact ⟨rfl, rfl⟩
theorem above_any (x : Int) (k : Nat) (hk : k ≤ 6) (w : World) : Calls Try.prog 66 #[.int .u64 x, .int .i64 k] w fun e w' => e = .returned (.int .u64 (x / 64 ^ k)) ∧ w' = w := by
  go_enter Try.func66, Try.ntmps66
  go_wp2
  first | go_ret | go_ret2
  exact ⟨by rw [← pow_six]; rfl, rfl⟩
theorem above_one (x : Int) (w : World) : Calls Try.prog 66 #[.int .u64 x, .int .i64 1] w fun e w' => e = .returned (.int .u64 (x / 64)) ∧ w' = w := by
  have := above_any x 1 (by omega) w
  simpa using this

theorem dp_one (f : Nat) : dp f 1 = some 0 := by cases f <;> rfl
theorem dp_cut {x : Int} (h : x ≠ 1) : dp 0 x = none := if_neg h
theorem dp_bad {f : Nat} {x : Int} (h : x ≠ 1) (h0 : x % 64 = 0) : dp f x = none := by
  cases f with
  | zero => exact if_neg h
  | succ f => unfold dp; rw [if_neg h, if_pos h0]
theorem dp_step {f : Nat} {x : Int} (h : x ≠ 1) (h0 : x % 64 ≠ 0) : dp (f + 1) x = (dp f (x / 64)).map (· + 1) := by
  rw [dp, if_neg h, if_neg h0]

set_option maxHeartbeats 400000 in
theorem depth_any (x : Int) (hx : U x) (w : World) : Calls Try.prog 49 #[.int .u64 x] w fun e w' => e = .returned (.tuple #[.int .i64 (dN x), .bool (isN x)]) ∧ w' = w := by
  suffices H : ∀ o : Option Nat, dp 6 x = o → Calls Try.prog 49 #[.int .u64 x] w fun e w' => e = .returned (.tuple #[.int .i64 ((o.getD 0 : Nat) : Int), .bool o.isSome]) ∧ w' = w from H _ rfl
  intro o ho
  go_enter Try.func49, Try.ntmps49
  go_wp2_with fail
  go_loopw [0, 4] (fun v i wr => ∃ (d : Nat) (y : Int), d ≤ 6 ∧ v = .int .u64 y ∧ i = .int .i64 d ∧ wr = w ∧ Hid (U y) ∧ Hid ((dp (6 - d) y).map (· + d) = o)) (fun _ i _ => 6 - (intOf i).toNat)
  case atStart => exact ⟨0, x, by omega, rfl, rfl, rfl, hx, by rw [← ho]; cases dp 6 x <;> rfl⟩
  case round =>
    obtain ⟨d, y, hd, rfl, rfl, rfl, hy, hdp⟩ := hrel
    by_cases h1 : y = 1
    · have q1 : (y != 1) = false := by simp [h1]
      go_wp2
      first | go_ret | go_ret2
      obtain rfl : some d = o := by rw [← hdp.out, h1, dp_one]; simp
      exact ⟨rfl, rfl⟩
    · have q1 : (y != 1) = true := by simp [h1]
      by_cases h6 : d = 6
      · subst h6
        go_wp2
        first | go_ret | go_ret2
        obtain rfl : none = o := by rw [← hdp.out, dp_cut h1]; rfl
        exact ⟨rfl, rfl⟩
      · have q6 : ((d : Int) == 6) = false := by simp; omega
        by_cases h0 : y % 64 = 0
        · go_wp2_with fail
          refine (last_any y hy.out _).mono ?_
          rintro e w1 ⟨rfl, rfl⟩
          rw [h0]
          go_wp2_with fail
          first | go_ret | go_ret2
          obtain rfl : none = o := by rw [← hdp.out, dp_bad h1 h0]; rfl
          exact ⟨rfl, rfl⟩
        · have q0 : (y % 64 == 0) = false := by simp [h0]
          go_wp2_with fail
          refine (last_any y hy.out _).mono ?_
          rintro e w1 ⟨rfl, rfl⟩
          go_wp2_with fail
          refine (above_one y _).mono ?_
          rintro e w1 ⟨rfl, rfl⟩
          go_wp2_with fail
          go_roundw
          case rel =>
            refine ⟨d + 1, y / 64, by omega, rfl, by go_num, by trivial, by have := hy.out.div 1; rwa [Int.pow_one] at this, ?_⟩
            show Option.map _ _ = _
            rw [← hdp.out, show 6 - d = (6 - (d + 1)) + 1 by omega, dp_step h1 h0]
            cases dp (6 - (d + 1)) (y / 64) <;> simp [Nat.add_comm, Nat.add_left_comm]
          case measure => simp [intOf]; omega
theorem nmMay_any (x : Int) (hx : U x) (w : World) : Calls Try.prog 25 #[.int .u64 x] w fun e w' => e = .returned (.bool (isN x)) ∧ w' = w := by
  go_enter Try.func25, Try.ntmps25
  go_wp2_with fail
  refine (depth_any x hx _).mono ?_
  rintro e w1 ⟨rfl, rfl⟩
  go_wp2_with fail
  go_ret
  exact ⟨rfl, rfl⟩
/-- What Of answers. -/
def ofV (b n : Int) : Int := if isN b = false ∨ n < 1 ∨ 63 < n then 0 else if dN b = 6 then 0 else b * 64 + n
def ofE (b n : Int) : Int := if isN b = false ∨ n < 1 ∨ 63 < n then 1 else if dN b = 6 then 13 else 0
theorem of_arg {b n : Int} (h : isN b = false ∨ n < 1 ∨ 63 < n) : ofV b n = 0 ∧ ofE b n = 1 := ⟨if_pos h, if_pos h⟩
theorem of_deep {b n : Int} (h : isN b = true) (h1 : 1 ≤ n ∧ n ≤ 63) (h6 : dN b = 6) : ofV b n = 0 ∧ ofE b n = 13 := by
  have : ¬ (isN b = false ∨ n < 1 ∨ 63 < n) := by simp [h]; omega
  exact ⟨by unfold ofV; rw [if_neg this, if_pos h6], by unfold ofE; rw [if_neg this, if_pos h6]⟩
theorem of_ok {b n : Int} (h : isN b = true) (h1 : 1 ≤ n ∧ n ≤ 63) (h6 : dN b ≠ 6) : ofV b n = b * 64 + n ∧ ofE b n = 0 := by
  have : ¬ (isN b = false ∨ n < 1 ∨ 63 < n) := by simp [h]; omega
  exact ⟨by unfold ofV; rw [if_neg this, if_neg h6], by unfold ofE; rw [if_neg this, if_neg h6]⟩
theorem or63 (b n : Int) (hb : 0 ≤ b ∧ b < 137438953472) (hn : 1 ≤ n ∧ n ≤ 63) : bits .or .u64 (b * 64) n = b * 64 + n :=
  bits_join .u64 64 (by decide) wraps_u64 6 (b * 64) n (by omega) (by omega) (by omega) (by omega) (by omega) (by omega)
theorem wi_no {x b : Int} (h : ¬ (isN x = true ∧ dN b ≤ dN x ∧ x / 64 ^ (dN x - dN b) = b)) : wi x b = false := by
  unfold wi
  rw [decide_eq_false_iff_not, wi_iff]
  exact h
theorem wi_yes {x b : Int} (h : isN x = true ∧ dN b ≤ dN x ∧ x / 64 ^ (dN x - dN b) = b) : wi x b = true := by
  unfold wi
  rw [decide_eq_true_iff, wi_iff]
  exact h
end Go.Proofs.Ytldkelpngeopmaa
