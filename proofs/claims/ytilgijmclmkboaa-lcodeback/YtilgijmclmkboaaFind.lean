/- What the library's binary search and comparison, and cats.Has, answer of a set: contracts. -/
import Derived.Test.YtilgijmclmkboaaReads
namespace Go.Proofs.Ytilgijmclmkboaa
open Go.RowKit

end Go.Proofs.Ytilgijmclmkboaa
