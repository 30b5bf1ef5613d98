/- What the library's binary search and comparison, and cats.Has, answer of a set: contracts. -/
import Derived.Test.YthhpfpihgmhlbaaReads
namespace Go.Proofs.Ythhpfpihgmhlbaa
open Go.RowKit

end Go.Proofs.Ythhpfpihgmhlbaa
