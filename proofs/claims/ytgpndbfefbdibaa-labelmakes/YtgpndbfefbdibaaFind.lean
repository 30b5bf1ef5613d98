/- What the library's binary search and comparison, and cats.Has, answer of a set: contracts. -/
import Derived.Test.YtgpndbfefbdibaaReads
namespace Go.Proofs.Ytgpndbfefbdibaa
open Go.RowKit

set_option maxHeartbeats 400000 in
theorem isNaN_any (x : Int) (w : World) : Calls Try.prog 55 #[.int .u16 x] w fun e w' => e = .returned (.bool false) ∧ w' = w := by
  go_enter Try.func55, Try.ntmps55
  go_wp2
  go_ret
  exact ⟨by simp, rfl⟩
end Go.Proofs.Ytgpndbfefbdibaa
