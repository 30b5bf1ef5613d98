/-
  No cell of these rows narrows 'for every input' (looked for: loops, veiled, ifaces, maps, wideKeys, modest, calm, conditions, laid).
  DERIVED. THE GIVEN ROWS OF THIS SEAT. 3 by the template 'for every input the law returns true; each argument reads behind the call as it read before'; 0 by the template 'total and deterministic' (their statements: YtafnonmpanpfkaaTotals.lean).
  GIVEN WITH THE SEED: the statements are not yours to turn. If you find one false, say at which input.
  Laid BY PROGRAM, IN A SANDBOX (cutbox-rows.mjs): the forced cells as the released guide's own fill.sh prints them over the translation ea945e77c8880815… (all of the seat's roots in one cut). By AI agents, Wed Nov 11 2026. No macro, syntax, notation, axiom, sorry.
-/
import Derived.Test.YtafnonmpanpfkaaChecked
import GoSem.Claim
import GoSem.ClaimJoined
import GoSem.ClaimMapViews
import Derived.JoinedTies
import Derived.KernelRfl
namespace Go.Proofs.Ytafnonmpanpfkaa
/- THE CELL 'sum', in the pinned program and in every row, IS THE sha256 OF THE DUMP (.gsa) THAT YtafnonmpanpfkaaProg.lean LOADS. Nothing in Lean hashes anything: it is a label: what it is worth is what the hold of that sum in a sandbox is worth. -/
noncomputable def Try.pinned : Pinned := { name := "ytafnonmpanpfkaa", sum := "ea945e77c8880815ba224079ea2b05db1f4d26be240e6ecc440a585fb660b823", checked := Try.checked }
namespace Rows
def none {H : Type} : Left H := { results := [], args := [] }

/-- 'transomlaw19.ArenaAll': WHATEVER THE INPUT: true; the input reads as it did. -/
def arenaAllSpec : ChangeSpec := { name := "arenaAll", fn := fun _ => fun
  | [d1, d2] => { results := [.lit (.bool true)], args := [d1, d2] }
  | _ => none }
def arenaAllRow : OpenClaim := { program := "ytafnonmpanpfkaa", sum := "ea945e77c8880815ba224079ea2b05db1f4d26be240e6ecc440a585fb660b823", func := "transom/transomlaw19.ArenaAll", spec := "arenaAll", inPlace := ["slices.overlaps[transom/arena.ref]"], unfollowed := true, recurses := true, apart := false }
def ArenaAllSaid : Prop := arenaAllRow.holds Try.pinned (OpenSpec.ofChange arenaAllSpec)

/-- ITS FALSE NEIGHBOUR: 'it returns false'. Refute it at one input. -/
def arenaAllWrong : ChangeSpec := { name := "arenaAll", fn := fun _ => fun
  | [d1, d2] => { results := [.lit (.bool false)], args := [d1, d2] }
  | _ => none }
def ArenaAllWrongFalsely : Prop := arenaAllRow.holds Try.pinned (OpenSpec.ofChange arenaAllWrong)

/-- 'transomlaw19.ArenaVersions': WHATEVER THE INPUT: true; the input reads as it did. -/
def arenaVersionsSpec : ChangeSpec := { name := "arenaVersions", fn := fun _ => fun
  | [d1, d2] => { results := [.lit (.bool true)], args := [d1, d2] }
  | _ => none }
def arenaVersionsRow : OpenClaim := { program := "ytafnonmpanpfkaa", sum := "ea945e77c8880815ba224079ea2b05db1f4d26be240e6ecc440a585fb660b823", func := "transom/transomlaw19.ArenaVersions", spec := "arenaVersions", inPlace := ["slices.overlaps[transom/arena.ref]"], unfollowed := true, recurses := true, apart := false }
def ArenaVersionsSaid : Prop := arenaVersionsRow.holds Try.pinned (OpenSpec.ofChange arenaVersionsSpec)

/-- ITS FALSE NEIGHBOUR: 'it returns false'. Refute it at one input. -/
def arenaVersionsWrong : ChangeSpec := { name := "arenaVersions", fn := fun _ => fun
  | [d1, d2] => { results := [.lit (.bool false)], args := [d1, d2] }
  | _ => none }
def ArenaVersionsWrongFalsely : Prop := arenaVersionsRow.holds Try.pinned (OpenSpec.ofChange arenaVersionsWrong)

/-- 'transomlaw19.ArenaOrder': WHATEVER THE INPUT: true; the input reads as it did. -/
def arenaOrderSpec : ChangeSpec := { name := "arenaOrder", fn := fun _ => fun
  | [d1, d2] => { results := [.lit (.bool true)], args := [d1, d2] }
  | _ => none }
def arenaOrderRow : OpenClaim := { program := "ytafnonmpanpfkaa", sum := "ea945e77c8880815ba224079ea2b05db1f4d26be240e6ecc440a585fb660b823", func := "transom/transomlaw19.ArenaOrder", spec := "arenaOrder", inPlace := ["slices.overlaps[transom/arena.ref]"], unfollowed := true, recurses := true, apart := false }
def ArenaOrderSaid : Prop := arenaOrderRow.holds Try.pinned (OpenSpec.ofChange arenaOrderSpec)

/-- ITS FALSE NEIGHBOUR: 'it returns false'. Refute it at one input. -/
def arenaOrderWrong : ChangeSpec := { name := "arenaOrder", fn := fun _ => fun
  | [d1, d2] => { results := [.lit (.bool false)], args := [d1, d2] }
  | _ => none }
def ArenaOrderWrongFalsely : Prop := arenaOrderRow.holds Try.pinned (OpenSpec.ofChange arenaOrderWrong)

/- THE SECOND FORM. 'bulk': how many values and letters a reading holds, each counted each time it is reached (what is shared counts as often as it is met; a slice's spare places count too). A statement '..UptoSaid' is the law's where the arguments, and the package variables that the reading takes, are together of bulk at most 1048576: NARROWER than '..Said'. Prove '..Said' where nothing that the law and all that it calls make is longer than what came in: it says more and counts as full. Else prove '..UptoSaid'. A law counts once. -/
mutual
def uptoBulk {H : Type} : DataW H → Nat
  | .lit (.string bytes) => bytes.length + 1
  | .lit _ => 1
  | .nil => 1
  | .ptr d => uptoBulk d + 1
  | .slice elems spare => uptoBulkAll elems + uptoBulkAll spare + 1
  | .agg parts => uptoBulkAll parts + 1
  | .iface _ d => uptoBulk d + 1
  | .map entries => uptoBulkEntries entries + 1
  | .held _ => 1
def uptoBulkAll {H : Type} : List (DataW H) → Nat
  | [] => 0
  | d :: r => uptoBulk d + uptoBulkAll r
def uptoBulkEntries {H : Type} : List (Lit × DataW H) → Nat
  | [] => 0
  | x :: r => uptoBulkEntry x + uptoBulkEntries r
def uptoBulkEntry {H : Type} : Lit × DataW H → Nat
  | (.string bytes, d) => bytes.length + uptoBulk d + 1
  | (_, d) => uptoBulk d + 1
 end
def uptoSmall : (H : Type) → List (DataW H) → Bool := fun _ ds => decide (uptoBulkAll ds ≤ 1048576)
def OpenSpec.upto (s : _root_.Go.ChangeSpec) : _root_.Go.OpenSpec := { _root_.Go.OpenSpec.ofChange s with cond := some uptoSmall }

/-- 'transomlaw19.ArenaAll', WHERE WHAT IT READS IS OF BULK AT MOST 1048576: true; the input reads as it did. -/
def arenaAllUptoRow : OpenClaim := { program := "ytafnonmpanpfkaa", sum := "ea945e77c8880815ba224079ea2b05db1f4d26be240e6ecc440a585fb660b823", func := "transom/transomlaw19.ArenaAll", spec := "arenaAll", inPlace := ["slices.overlaps[transom/arena.ref]"], unfollowed := true, recurses := true, apart := false, narrowed := true }
def ArenaAllUptoSaid : Prop := arenaAllUptoRow.holds Try.pinned (OpenSpec.upto arenaAllSpec)

/-- 'transomlaw19.ArenaVersions', WHERE WHAT IT READS IS OF BULK AT MOST 1048576: true; the input reads as it did. -/
def arenaVersionsUptoRow : OpenClaim := { program := "ytafnonmpanpfkaa", sum := "ea945e77c8880815ba224079ea2b05db1f4d26be240e6ecc440a585fb660b823", func := "transom/transomlaw19.ArenaVersions", spec := "arenaVersions", inPlace := ["slices.overlaps[transom/arena.ref]"], unfollowed := true, recurses := true, apart := false, narrowed := true }
def ArenaVersionsUptoSaid : Prop := arenaVersionsUptoRow.holds Try.pinned (OpenSpec.upto arenaVersionsSpec)

/-- 'transomlaw19.ArenaOrder', WHERE WHAT IT READS IS OF BULK AT MOST 1048576: true; the input reads as it did. -/
def arenaOrderUptoRow : OpenClaim := { program := "ytafnonmpanpfkaa", sum := "ea945e77c8880815ba224079ea2b05db1f4d26be240e6ecc440a585fb660b823", func := "transom/transomlaw19.ArenaOrder", spec := "arenaOrder", inPlace := ["slices.overlaps[transom/arena.ref]"], unfollowed := true, recurses := true, apart := false, narrowed := true }
def ArenaOrderUptoSaid : Prop := arenaOrderUptoRow.holds Try.pinned (OpenSpec.upto arenaOrderSpec)

end Rows
end Go.Proofs.Ytafnonmpanpfkaa
