/- What the library's binary search and comparison, and cats.Has, answer of a set: contracts. -/
import Derived.Test.YtaogggldpjljoaaReads
namespace Go.Proofs.Ytaogggldpjljoaa
open Go.RowKit

end Go.Proofs.Ytaogggldpjljoaa
