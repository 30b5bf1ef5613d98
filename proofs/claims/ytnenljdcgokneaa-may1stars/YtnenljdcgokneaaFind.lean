/- What the library's binary search and comparison, and cats.Has, answer of a set: contracts. -/
import Derived.Test.YtnenljdcgokneaaReads
namespace Go.Proofs.Ytnenljdcgokneaa
open Go.RowKit

set_option maxHeartbeats 400000 in
theorem isNaN_any (x : Int) (w : World) : Calls Try.prog 53 #[.int .u16 x] w fun e w' => e = .returned (.bool false) ∧ w' = w := by
  go_enter Try.func53, Try.ntmps53
  go_wp2
  go_ret
  exact ⟨by simp, rfl⟩
end Go.Proofs.Ytnenljdcgokneaa
