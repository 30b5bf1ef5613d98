/- What the functions that only read labels answer, from the levels on: contracts. -/
import Derived.Test.YtldkelpngeopmaaLab
import Derived.Test.YtldkelpngeopmaaLevel
import Derived.Test.YtldkelpngeopmaaMerge
import Derived.BigQuiet
namespace Go.Proofs.Ytldkelpngeopmaa
open Go.RowKit
set_option maxRecDepth 100000

theorem lev_of {x : Int} (h : 0 ≤ x ∧ x ≤ 5) : ∃ i : Fin 6, lev i = x := ⟨⟨x.toNat, by omega⟩, by simp [lev]; omega⟩
theorem top_lev (i j : Fin 6) : lev (top i j) = max (lev i) (lev j) := by revert i j; decide
theorem low_lev (i j : Fin 6) : lev (low i j) = min (lev i) (lev j) := by revert i j; decide
def riseL (x : Int) : Int := if x = 0 then 5 else x
theorem lmay_num (x : Int) (hx : 0 ≤ x) (w : World) : Calls Try.prog 57 #[.int .u8 x] w fun e w' => e = .returned (.bool (decide (x ≤ 4))) ∧ w' = w := by
  by_cases h : x ≤ 5
  · obtain ⟨i, rfl⟩ := lev_of ⟨hx, h⟩
    rw [show decide (lev i ≤ 4) = decide (i ≤ 4) by revert i; decide]
    exact may_lev i w
  · rw [decide_eq_false (by omega)]
    exact may_above x (by omega) w

/-- How two numbers stand. -/
def cmpI (x y : Int) : Int := if x < y then -1 else if y < x then 1 else 0
theorem UpL.lt {ps : List (Int × Int)} (h : UpL ps) {i j : Nat} {x y x' y' : Int} (hij : i < j) (hi : ps[i]? = some (x, y)) (hj : ps[j]? = some (x', y')) : x < x' := by
  obtain ⟨hi1, hi2⟩ := List.getElem?_eq_some_iff.1 hi
  obtain ⟨hj1, hj2⟩ := List.getElem?_eq_some_iff.1 hj
  have := List.pairwise_iff_getElem.1 h i j hi1 hj1 hij
  rw [hi2, hj2] at this
  exact this

end Go.Proofs.Ytldkelpngeopmaa
