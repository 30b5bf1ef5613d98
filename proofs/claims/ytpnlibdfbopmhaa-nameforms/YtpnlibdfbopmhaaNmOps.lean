/- What the functions of package name answer: contracts, for every number. -/
import Derived.Test.YtpnlibdfbopmhaaRows
import Derived.Test.YtpnlibdfbopmhaaQuads
import Derived.Test.YtpnlibdfbopmhaaNmMath
import Derived.Lib.EndianBits
namespace Go.Proofs.Ytpnlibdfbopmhaa
open Go.RowKit
set_option maxRecDepth 100000

/-- A number of 64 bits. -/
def U (x : Int) : Prop := 0 ≤ x ∧ x < 18446744073709551616
theorem U.div {x : Int} (h : U x) (k : Nat) : U (x / 64 ^ k) := by
  have := Int.ediv_le_self (64 ^ k) h.1
  exact ⟨Int.ediv_nonneg h.1 (Int.le_of_lt (pow_pos64 k)), by have := h.2; omega⟩
theorem and63 (x : Int) (h : U x) : bits .and .u64 x 63 = x % 64 := by
  have := bits_mask .u64 64 (by decide) wraps_u64 6 (by decide) x h.1 h.2
  simpa using this
theorem pow_six (k : Nat) : (2 : Int) ^ (k * 6) = 64 ^ k := by
  rw [Nat.mul_comm, Int.pow_mul]; rfl

theorem last_any (x : Int) (h : U x) (w : World) : Calls Try.prog 25 #[.int .u64 x] w fun e w' => e = .returned (.int .i64 (x % 64)) ∧ w' = w := by
  have h1 := and63 x h
  have h2 : IntKind.i64.wrap (x % 64) = x % 64 := Go.IntWalk.i64_in _ (by omega)
  go_enter Try.func25, Try.ntmps25
  go_wp2
  first | go_ret | go_ret2
  exact ⟨rfl, rfl⟩
theorem above_any (x : Int) (k : Nat) (hk : k ≤ 6) (w : World) : Calls Try.prog 24 #[.int .u64 x, .int .i64 k] w fun e w' => e = .returned (.int .u64 (x / 64 ^ k)) ∧ w' = w := by
  go_enter Try.func24, Try.ntmps24
  go_wp2
  first | go_ret | go_ret2
  exact ⟨by rw [← pow_six]; rfl, rfl⟩
theorem above_one (x : Int) (w : World) : Calls Try.prog 24 #[.int .u64 x, .int .i64 1] w fun e w' => e = .returned (.int .u64 (x / 64)) ∧ w' = w := by
  have := above_any x 1 (by omega) w
  simpa using this

theorem dp_one (f : Nat) : dp f 1 = some 0 := by cases f <;> rfl
theorem dp_cut {x : Int} (h : x ≠ 1) : dp 0 x = none := if_neg h
theorem dp_bad {f : Nat} {x : Int} (h : x ≠ 1) (h0 : x % 64 = 0) : dp f x = none := by
  cases f with
  | zero => exact if_neg h
  | succ f => unfold dp; rw [if_neg h, if_pos h0]
theorem dp_step {f : Nat} {x : Int} (h : x ≠ 1) (h0 : x % 64 ≠ 0) : dp (f + 1) x = (dp f (x / 64)).map (· + 1) := by
  rw [dp, if_neg h, if_neg h0]

set_option maxHeartbeats 400000 in
theorem depth_any (x : Int) (hx : U x) (w : World) : Calls Try.prog 23 #[.int .u64 x] w fun e w' => e = .returned (.tuple #[.int .i64 (dN x), .bool (isN x)]) ∧ w' = w := by
  suffices H : ∀ o : Option Nat, dp 6 x = o → Calls Try.prog 23 #[.int .u64 x] w fun e w' => e = .returned (.tuple #[.int .i64 ((o.getD 0 : Nat) : Int), .bool o.isSome]) ∧ w' = w from H _ rfl
  intro o ho
  go_enter Try.func23, Try.ntmps23
  go_wp2_with fail
  go_loopw [0, 4] (fun v i wr => ∃ (d : Nat) (y : Int), d ≤ 6 ∧ v = .int .u64 y ∧ i = .int .i64 d ∧ wr = w ∧ Hid (U y) ∧ Hid ((dp (6 - d) y).map (· + d) = o)) (fun _ i _ => 6 - (intOf i).toNat)
  case atStart => exact ⟨0, x, by omega, rfl, rfl, rfl, hx, by rw [← ho]; cases dp 6 x <;> rfl⟩
  case round =>
    obtain ⟨d, y, hd, rfl, rfl, rfl, hy, hdp⟩ := hrel
    by_cases h1 : y = 1
    · have q1 : (y != 1) = false := by simp [h1]
      go_wp2
      first | go_ret | go_ret2
      obtain rfl : some d = o := by rw [← hdp.out, h1, dp_one]; simp
      exact ⟨rfl, rfl⟩
    · have q1 : (y != 1) = true := by simp [h1]
      by_cases h6 : d = 6
      · subst h6
        go_wp2
        first | go_ret | go_ret2
        obtain rfl : none = o := by rw [← hdp.out, dp_cut h1]; rfl
        exact ⟨rfl, rfl⟩
      · have q6 : ((d : Int) == 6) = false := by simp; omega
        by_cases h0 : y % 64 = 0
        · go_wp2_with fail
          refine (last_any y hy.out _).mono ?_
          rintro e w1 ⟨rfl, rfl⟩
          rw [h0]
          go_wp2_with fail
          first | go_ret | go_ret2
          obtain rfl : none = o := by rw [← hdp.out, dp_bad h1 h0]; rfl
          exact ⟨rfl, rfl⟩
        · have q0 : (y % 64 == 0) = false := by simp [h0]
          go_wp2_with fail
          refine (last_any y hy.out _).mono ?_
          rintro e w1 ⟨rfl, rfl⟩
          go_wp2_with fail
          refine (above_one y _).mono ?_
          rintro e w1 ⟨rfl, rfl⟩
          go_wp2_with fail
          go_roundw
          case rel =>
            refine ⟨d + 1, y / 64, by omega, rfl, by go_num, by trivial, by have := hy.out.div 1; rwa [Int.pow_one] at this, ?_⟩
            show Option.map _ _ = _
            rw [← hdp.out, show 6 - d = (6 - (d + 1)) + 1 by omega, dp_step h1 h0]
            cases dp (6 - (d + 1)) (y / 64) <;> simp [Nat.add_comm, Nat.add_left_comm]
          case measure => simp [intOf]; omega
theorem may_any (x : Int) (hx : U x) (w : World) : Calls Try.prog 10 #[.int .u64 x] w fun e w' => e = .returned (.bool (isN x)) ∧ w' = w := by
  go_enter Try.func10, Try.ntmps10
  go_wp2_with fail
  refine (depth_any x hx _).mono ?_
  rintro e w1 ⟨rfl, rfl⟩
  go_wp2_with fail
  go_ret
  exact ⟨rfl, rfl⟩
theorem depthOf_any (x : Int) (hx : U x) (w : World) : Calls Try.prog 16 #[.int .u64 x] w fun e w' => e = .returned (.int .i64 (dN x)) ∧ w' = w := by
  go_enter Try.func16, Try.ntmps16
  go_wp2_with fail
  refine (depth_any x hx _).mono ?_
  rintro e w1 ⟨rfl, rfl⟩
  go_wp2_with fail
  go_ret
  exact ⟨rfl, rfl⟩
theorem parent_any (x : Int) (hx : U x) (w : World) : Calls Try.prog 12 #[.int .u64 x] w fun e w' => e = .returned (.int .u64 (par x)) ∧ w' = w := by
  cases h : isN x with
  | false =>
    rw [show par x = 0 by unfold par; simp [h]]
    go_enter Try.func12, Try.ntmps12
    go_wp2_with fail
    refine (may_any x hx _).mono ?_
    rintro e w1 ⟨rfl, rfl⟩
    rw [h]
    go_wp2_with fail
    go_ret
    exact ⟨rfl, rfl⟩
  | true =>
    rw [show par x = x / 64 by unfold par; simp [h]]
    go_enter Try.func12, Try.ntmps12
    go_wp2_with fail
    refine (may_any x hx _).mono ?_
    rintro e w1 ⟨rfl, rfl⟩
    rw [h]
    go_wp2_with fail
    refine (above_one x _).mono ?_
    rintro e w1 ⟨rfl, rfl⟩
    go_wp2_with fail
    go_ret
    exact ⟨rfl, rfl⟩
theorem number_any (x : Int) (hx : U x) (w : World) : Calls Try.prog 14 #[.int .u64 x] w fun e w' => e = .returned (.int .i64 (nmb x)) ∧ w' = w := by
  by_cases h1 : x = 1
  · have q1 : (x == 1) = true := by simp [h1]
    rw [show nmb x = 0 from if_pos h1]
    go_enter Try.func14, Try.ntmps14
    go_wp2_with fail
    go_ret
    exact ⟨rfl, rfl⟩
  · have q1 : (x == 1) = false := by simp [h1]
    cases h : isN x with
    | false =>
      rw [show nmb x = 0 by unfold nmb; simp [h]]
      go_enter Try.func14, Try.ntmps14
      go_wp2_with fail
      refine (may_any x hx _).mono ?_
      rintro e w1 ⟨rfl, rfl⟩
      rw [h]
      go_wp2_with fail
      go_ret
      exact ⟨rfl, rfl⟩
    | true =>
      rw [show nmb x = x % 64 by unfold nmb; simp [h, h1]]
      go_enter Try.func14, Try.ntmps14
      go_wp2_with fail
      refine (may_any x hx _).mono ?_
      rintro e w1 ⟨rfl, rfl⟩
      rw [h]
      go_wp2_with fail
      refine (last_any x hx _).mono ?_
      rintro e w1 ⟨rfl, rfl⟩
      go_wp2_with fail
      go_ret
      exact ⟨rfl, rfl⟩

/-- What Of answers. -/
def ofV (b n : Int) : Int := if isN b = false ∨ n < 1 ∨ 63 < n then 0 else if dN b = 6 then 0 else b * 64 + n
def ofE (b n : Int) : Int := if isN b = false ∨ n < 1 ∨ 63 < n then 1 else if dN b = 6 then 13 else 0
theorem of_arg {b n : Int} (h : isN b = false ∨ n < 1 ∨ 63 < n) : ofV b n = 0 ∧ ofE b n = 1 := ⟨if_pos h, if_pos h⟩
theorem of_deep {b n : Int} (h : isN b = true) (h1 : 1 ≤ n ∧ n ≤ 63) (h6 : dN b = 6) : ofV b n = 0 ∧ ofE b n = 13 := by
  have : ¬ (isN b = false ∨ n < 1 ∨ 63 < n) := by simp [h]; omega
  exact ⟨by unfold ofV; rw [if_neg this, if_pos h6], by unfold ofE; rw [if_neg this, if_pos h6]⟩
theorem of_ok {b n : Int} (h : isN b = true) (h1 : 1 ≤ n ∧ n ≤ 63) (h6 : dN b ≠ 6) : ofV b n = b * 64 + n ∧ ofE b n = 0 := by
  have : ¬ (isN b = false ∨ n < 1 ∨ 63 < n) := by simp [h]; omega
  exact ⟨by unfold ofV; rw [if_neg this, if_neg h6], by unfold ofE; rw [if_neg this, if_neg h6]⟩
theorem or63 (b n : Int) (hb : 0 ≤ b ∧ b < 137438953472) (hn : 1 ≤ n ∧ n ≤ 63) : bits .or .u64 (b * 64) n = b * 64 + n :=
  bits_join .u64 64 (by decide) wraps_u64 6 (b * 64) n (by omega) (by omega) (by omega) (by omega) (by omega) (by omega)
set_option maxHeartbeats 400000 in
theorem of_any (b n : Int) (hb : U b) (w : World) : Calls Try.prog 8 #[.int .u64 b, .int .i64 n] w fun e w' => e = .returned (.tuple #[.int .u64 (ofV b n), .int .i64 (ofE b n)]) ∧ w' = w := by
  cases h : isN b with
  | false =>
    rw [(of_arg (.inl h)).1, (of_arg (.inl h)).2]
    go_enter Try.func8, Try.ntmps8
    go_wp2_with fail
    refine (depth_any b hb _).mono ?_
    rintro e w1 ⟨rfl, rfl⟩
    rw [h]
    go_wp2_with fail
    first | go_ret | go_ret2
    exact ⟨rfl, rfl⟩
  | true =>
    have hbd := isN_bd h
    by_cases h1 : n < 1
    · rw [(of_arg (.inr (.inl h1))).1, (of_arg (.inr (.inl h1))).2]
      go_enter Try.func8, Try.ntmps8
      go_wp2_with fail
      refine (depth_any b hb _).mono ?_
      rintro e w1 ⟨rfl, rfl⟩
      rw [h]
      go_wp2_with fail
      first | go_ret | go_ret2
      exact ⟨rfl, rfl⟩
    · have q1 : decide (n < 1) = false := by simp; omega
      by_cases h2 : 63 < n
      · rw [(of_arg (.inr (.inr h2))).1, (of_arg (.inr (.inr h2))).2]
        go_enter Try.func8, Try.ntmps8
        go_wp2_with fail
        refine (depth_any b hb _).mono ?_
        rintro e w1 ⟨rfl, rfl⟩
        rw [h]
        go_wp2_with fail
        first | go_ret | go_ret2
        exact ⟨rfl, rfl⟩
      · have q2 : decide (63 < n) = false := by simp; omega
        by_cases h6 : dN b = 6
        · rw [(of_deep h (by omega) h6).1, (of_deep h (by omega) h6).2]
          go_enter Try.func8, Try.ntmps8
          go_wp2_with fail
          refine (depth_any b hb _).mono ?_
          rintro e w1 ⟨rfl, rfl⟩
          rw [h, h6]
          go_wp2_with fail
          first | go_ret | go_ret2
          exact ⟨rfl, rfl⟩
        · have q6 : ((dN b : Int) == 6) = false := by simp; omega
          rw [(of_ok h (by omega) h6).1, (of_ok h (by omega) h6).2]
          have ho := or63 b n ⟨by omega, hbd.2⟩ (by omega)
          go_enter Try.func8, Try.ntmps8
          go_wp2_with fail
          refine (depth_any b hb _).mono ?_
          rintro e w1 ⟨rfl, rfl⟩
          rw [h]
          go_wp2_with fail
          first | go_ret | go_ret2
          exact ⟨rfl, rfl⟩
theorem wi_no {x b : Int} (h : ¬ (isN x = true ∧ dN b ≤ dN x ∧ x / 64 ^ (dN x - dN b) = b)) : wi x b = false := by
  unfold wi
  rw [decide_eq_false_iff_not, wi_iff]
  exact h
theorem wi_yes {x b : Int} (h : isN x = true ∧ dN b ≤ dN x ∧ x / 64 ^ (dN x - dN b) = b) : wi x b = true := by
  unfold wi
  rw [decide_eq_true_iff, wi_iff]
  exact h
set_option maxHeartbeats 400000 in
theorem within_any (x b : Int) (hx : U x) (hb : U b) (w : World) : Calls Try.prog 21 #[.int .u64 x, .int .u64 b] w fun e w' => e = .returned (.bool (wi x b)) ∧ w' = w := by
  have hd := dN_le x
  have he := dN_le b
  cases h : isN x with
  | false =>
    rw [wi_no (by simp [h])]
    go_enter Try.func21, Try.ntmps21
    go_wp2_with fail
    refine (depth_any x hx _).mono ?_
    rintro e w1 ⟨rfl, rfl⟩
    rw [h]
    go_wp2_with fail
    refine (depthOf_any b hb _).mono ?_
    rintro e w1 ⟨rfl, rfl⟩
    go_wp2_with fail
    go_ret
    exact ⟨rfl, rfl⟩
  | true =>
    by_cases hl : dN b ≤ dN x
    · obtain ⟨k, hk⟩ : ∃ k, k = dN x - dN b := ⟨_, rfl⟩
      have hk6 : k ≤ 6 := by omega
      have hdk : ((dN x : Int) - (dN b : Int)) = (k : Int) := by omega
      have hq : wi x b = (x / 64 ^ k == b) := by
        by_cases hc : x / 64 ^ k = b
        · rw [wi_yes ⟨h, hl, by rw [← hk]; exact hc⟩]; simp [hc]
        · rw [wi_no (fun hh => hc (by rw [hk]; exact hh.2.2))]; simp [hc]
      have q0 : decide ((0 : Int) ≤ (k : Int)) = true := by simp
      rw [hq]
      clear hk hq
      go_enter Try.func21, Try.ntmps21
      go_wp2_with fail
      refine (depth_any x hx _).mono ?_
      rintro e w1 ⟨rfl, rfl⟩
      rw [h]
      go_wp2_with fail
      refine (depthOf_any b hb _).mono ?_
      rintro e w1 ⟨rfl, rfl⟩
      go_wp2_with fail
      refine (above_any x k hk6 _).mono ?_
      rintro e w1 ⟨rfl, rfl⟩
      go_wp2_with fail
      go_ret
      exact ⟨rfl, rfl⟩
    · rw [wi_no (fun hh => hl hh.2.1)]
      have q0 : decide ((0 : Int) ≤ (dN x : Int) - (dN b : Int)) = false := by simp; omega
      go_enter Try.func21, Try.ntmps21
      go_wp2_with fail
      refine (depth_any x hx _).mono ?_
      rintro e w1 ⟨rfl, rfl⟩
      rw [h]
      go_wp2_with fail
      refine (depthOf_any b hb _).mono ?_
      rintro e w1 ⟨rfl, rfl⟩
      go_wp2_with fail
      go_ret
      exact ⟨rfl, rfl⟩
end Go.Proofs.Ytpnlibdfbopmhaa
