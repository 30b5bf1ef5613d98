/- What the document's own RiseAll answers of labels: a contract. -/
import Derived.Test.YtdoemkncgfgkhaaLabBoth
import Derived.Test.YtdoemkncgfgkhaaLabRise
namespace Go.Proofs.Ytdoemkncgfgkhaa
open Go.RowKit
set_option maxRecDepth 100000

theorem rise_all_at (d : Int) {xs : List (Int × Int)} (h : UpL xs) (c : Int) : atL (riseL d) (xs.map fun p => (p.1, riseL p.2)).reverse c = riseL (atL d xs c) := by
  have hu : UpL (xs.map fun p => (p.1, riseL p.2)) := List.pairwise_map.2 h
  rw [at_rev _ hu]
  clear h hu
  induction xs with
  | nil => rfl
  | cons p xs ih =>
    rw [List.map_cons, atL_cons, atL_cons]
    by_cases hc : p.1 = c
    · rw [if_pos hc, if_pos hc]
    · rw [if_neg hc, if_neg hc, ih]

end Go.Proofs.Ytdoemkncgfgkhaa
