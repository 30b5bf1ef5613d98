/- What the functions of package name answer: contracts, for every number. -/
import Derived.Test.YtafnonmpanpfkaaRows
import Derived.Test.YtafnonmpanpfkaaQuads
import Derived.Test.YtafnonmpanpfkaaNmMath
import Derived.Lib.EndianBits
namespace Go.Proofs.Ytafnonmpanpfkaa
open Go.RowKit
set_option maxRecDepth 100000

/-- A number of 64 bits. -/
def U (x : Int) : Prop := 0 ≤ x ∧ x < 18446744073709551616
theorem U.div {x : Int} (h : U x) (k : Nat) : U (x / 64 ^ k) := by
  have := Int.ediv_le_self (64 ^ k) h.1
  exact ⟨Int.ediv_nonneg h.1 (Int.le_of_lt (pow_pos64 k)), by have := h.2; omega⟩
theorem and63 (x : Int) (h : U x) : bits .and .u64 x 63 = x % 64 := by
  have := bits_mask .u64 64 (by decide) wraps_u64 6 (by decide) x h.1 h.2
  simpa using this
theorem pow_six (k : Nat) : (2 : Int) ^ (k * 6) = 64 ^ k := by
  rw [Nat.mul_comm, Int.pow_mul]; rfl

theorem dp_one (f : Nat) : dp f 1 = some 0 := by cases f <;> rfl
theorem dp_cut {x : Int} (h : x ≠ 1) : dp 0 x = none := if_neg h
theorem dp_bad {f : Nat} {x : Int} (h : x ≠ 1) (h0 : x % 64 = 0) : dp f x = none := by
  cases f with
  | zero => exact if_neg h
  | succ f => unfold dp; rw [if_neg h, if_pos h0]
theorem dp_step {f : Nat} {x : Int} (h : x ≠ 1) (h0 : x % 64 ≠ 0) : dp (f + 1) x = (dp f (x / 64)).map (· + 1) := by
  rw [dp, if_neg h, if_neg h0]

/-- What Of answers. -/
def ofV (b n : Int) : Int := if isN b = false ∨ n < 1 ∨ 63 < n then 0 else if dN b = 6 then 0 else b * 64 + n
def ofE (b n : Int) : Int := if isN b = false ∨ n < 1 ∨ 63 < n then 1 else if dN b = 6 then 13 else 0
theorem of_arg {b n : Int} (h : isN b = false ∨ n < 1 ∨ 63 < n) : ofV b n = 0 ∧ ofE b n = 1 := ⟨if_pos h, if_pos h⟩
theorem of_deep {b n : Int} (h : isN b = true) (h1 : 1 ≤ n ∧ n ≤ 63) (h6 : dN b = 6) : ofV b n = 0 ∧ ofE b n = 13 := by
  have : ¬ (isN b = false ∨ n < 1 ∨ 63 < n) := by simp [h]; omega
  exact ⟨by unfold ofV; rw [if_neg this, if_pos h6], by unfold ofE; rw [if_neg this, if_pos h6]⟩
theorem of_ok {b n : Int} (h : isN b = true) (h1 : 1 ≤ n ∧ n ≤ 63) (h6 : dN b ≠ 6) : ofV b n = b * 64 + n ∧ ofE b n = 0 := by
  have : ¬ (isN b = false ∨ n < 1 ∨ 63 < n) := by simp [h]; omega
  exact ⟨by unfold ofV; rw [if_neg this, if_neg h6], by unfold ofE; rw [if_neg this, if_neg h6]⟩
theorem or63 (b n : Int) (hb : 0 ≤ b ∧ b < 137438953472) (hn : 1 ≤ n ∧ n ≤ 63) : bits .or .u64 (b * 64) n = b * 64 + n :=
  bits_join .u64 64 (by decide) wraps_u64 6 (b * 64) n (by omega) (by omega) (by omega) (by omega) (by omega) (by omega)
theorem wi_no {x b : Int} (h : ¬ (isN x = true ∧ dN b ≤ dN x ∧ x / 64 ^ (dN x - dN b) = b)) : wi x b = false := by
  unfold wi
  rw [decide_eq_false_iff_not, wi_iff]
  exact h
theorem wi_yes {x b : Int} (h : isN x = true ∧ dN b ≤ dN x ∧ x / 64 ^ (dN x - dN b) = b) : wi x b = true := by
  unfold wi
  rw [decide_eq_true_iff, wi_iff]
  exact h
end Go.Proofs.Ytafnonmpanpfkaa
