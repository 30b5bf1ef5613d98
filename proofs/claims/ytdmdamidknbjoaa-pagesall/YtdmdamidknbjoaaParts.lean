/- Parts of a function's body, taken out by the number of the region that they open with, so that each can be walked in a declaration of its own. -/
import Derived.Test.YtdmdamidknbjoaaPlain
namespace Go.Proofs.Ytdmdamidknbjoaa
open Go.RowKit
set_option maxRecDepth 100000

def opens (n : Nat) : Code → Bool
  | .region k _ _ => k == n
  | .seq a _ => opens n a
  | _ => false
/-- The outermost sequence (or the region alone) that opens with region n. -/
def fromR (n : Nat) : Code → Option Code
  | .seq a b => if opens n a then some (.seq a b) else match fromR n a with
    | some c => some c
    | none => fromR n b
  | .region k o d => if k == n then some (.region k o d) else none
  | .block _ c => fromR n c
  | .loop c => fromR n c
  | .scope c => fromR n c
  | .cond _ a b => match fromR n a with
    | some c => some c
    | none => fromR n b
  | _ => none
def lft : Code → Code
  | .seq a _ => a
  | c => c
def rgt : Code → Code
  | .seq _ b => b
  | c => c
def part (f : Func) (n : Nat) : Code := (f.body.bind (fromR n)).getD .skip
/-- The whole of a function's body. -/
def whole (f : Func) : Code := f.body.getD .skip
end Go.Proofs.Ytdmdamidknbjoaa
