/- Whether two lists of letters say the same: a contract, for all lists. -/
import Derived.Test.YtkmpmljohjelhaaJRing
namespace Go.Proofs.Ytkmpmljohjelhaa
open Go.RowKit
set_option maxRecDepth 100000
set_option linter.unusedVariables false

/-- What two texts of bytes compare as. -/
theorem strR_beq {xs ys : List Int} (hx : Byt xs) (hy : Byt ys) : ((strOfNums xs).toList == (strOfNums ys).toList) = decide (xs = ys) := by
  by_cases h : xs = ys
  · subst h; simp
  · rw [decide_eq_false h]; exact beq_eq_false_iff_ne.2 fun e => h (strR_inj hx hy e)
theorem txt_get {ps : List Le} {i : Nat} {p : Le} (h : ps[i]? = some p) : (txt ps)[i]? = some p.xs := by simp [txt, h]

end Go.Proofs.Ytkmpmljohjelhaa
