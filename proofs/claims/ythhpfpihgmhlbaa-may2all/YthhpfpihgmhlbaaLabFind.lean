/- What the functions that only read labels answer, from the levels on: contracts. -/
import Derived.Test.YthhpfpihgmhlbaaLab
import Derived.Test.YthhpfpihgmhlbaaLevel
import Derived.Test.YthhpfpihgmhlbaaMerge
import Derived.BigQuiet
namespace Go.Proofs.Ythhpfpihgmhlbaa
open Go.RowKit

theorem lev_of {x : Int} (h : 0 ≤ x ∧ x ≤ 5) : ∃ i : Fin 6, lev i = x := ⟨⟨x.toNat, by omega⟩, by simp [lev]; omega⟩
theorem top_lev (i j : Fin 6) : lev (top i j) = max (lev i) (lev j) := by revert i j; decide
theorem low_lev (i j : Fin 6) : lev (low i j) = min (lev i) (lev j) := by revert i j; decide
def riseL (x : Int) : Int := if x = 0 then 5 else x
/-- How two numbers stand. -/
def cmpI (x y : Int) : Int := if x < y then -1 else if y < x then 1 else 0
theorem UpL.lt {ps : List (Int × Int)} (h : UpL ps) {i j : Nat} {x y x' y' : Int} (hij : i < j) (hi : ps[i]? = some (x, y)) (hj : ps[j]? = some (x', y')) : x < x' := by
  obtain ⟨hi1, hi2⟩ := List.getElem?_eq_some_iff.1 hi
  obtain ⟨hj1, hj2⟩ := List.getElem?_eq_some_iff.1 hj
  have := List.pairwise_iff_getElem.1 h i j hi1 hj1 hij
  rw [hi2, hj2] at this
  exact this

end Go.Proofs.Ythhpfpihgmhlbaa
