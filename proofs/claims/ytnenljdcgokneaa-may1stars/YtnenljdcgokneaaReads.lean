/- What the functions that only read lists of categories answer: contracts, for every list. -/
import Derived.Test.YtnenljdcgokneaaRows
import Derived.Test.YtnenljdcgokneaaSets
import Derived.BigQuiet
namespace Go.Proofs.Ytnenljdcgokneaa
open Go.RowKit

theorem info27 : (Try.prog.info? 30).map (fun i => (i.zero, i.size, i.bytes)) = some (some (.int .u16 0), 1, 2) := by kernel_rfl
theorem bel_drewN {B : Nat} {a w : World} (h : Below B a w) (n : Nat) : Below B a (w.drewN n) := ⟨h.os, h.tape, h.output, h.size, h.block⟩
/-- May a list be a set? -/
def mayS (xs : List Int) : Bool := decide (xs.length ≤ 16) && asc xs

theorem list_ext {xs ys : List Int} (hl : xs.length = ys.length) (h : ∀ j, j < xs.length → xs.getD j 0 = ys.getD j 0) : xs = ys := by
  apply List.ext_getElem hl
  intro i h1 h2
  have := h i h1
  rwa [getD_eq h1, getD_eq h2] at this

end Go.Proofs.Ytnenljdcgokneaa
