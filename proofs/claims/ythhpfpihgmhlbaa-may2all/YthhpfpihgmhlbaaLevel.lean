/- Package level: what May, Flows, Max, Min and Rise answer of levels, and May of other numbers. -/
import Derived.Test.YthhpfpihgmhlbaaPlane
namespace Go.Proofs.Ythhpfpihgmhlbaa
open Go.RowKit

/-- What a level rises to. -/
def up (i : Fin 6) : Fin 6 := if i = 0 then 5 else i
end Go.Proofs.Ythhpfpihgmhlbaa
