/- What num.Take does: a contract, for every slice of bytes and every n. -/
import Derived.Test.YtafnonmpanpfkaaRows
import Derived.Test.YtafnonmpanpfkaaPlain
namespace Go.Proofs.Ytafnonmpanpfkaa
open Go.RowKit
set_option maxRecDepth 100000

theorem info5 : (Try.prog.info? 5).map (fun i => (i.zero, i.size, i.bytes)) = some (some (.int .u8 0), 1, 1) := by kernel_rfl

end Go.Proofs.Ytafnonmpanpfkaa
