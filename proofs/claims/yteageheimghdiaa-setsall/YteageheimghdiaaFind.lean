/- What the library's binary search and comparison, and cats.Has, answer of a set: contracts. -/
import Derived.Test.YteageheimghdiaaReads
namespace Go.Proofs.Yteageheimghdiaa
open Go.RowKit

end Go.Proofs.Yteageheimghdiaa
