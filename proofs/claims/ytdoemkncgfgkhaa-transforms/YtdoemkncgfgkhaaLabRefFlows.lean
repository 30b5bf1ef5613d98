/- What the document's own Flows, Join, Meet, RiseAll answer of labels: contracts. -/
import Derived.Test.YtdoemkncgfgkhaaLabMk
import Derived.Test.YtdoemkncgfgkhaaLabRise
namespace Go.Proofs.Ytdoemkncgfgkhaa
open Go.RowKit
set_option maxRecDepth 100000

end Go.Proofs.Ytdoemkncgfgkhaa
