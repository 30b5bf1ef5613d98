/-
  No cell of these rows narrows 'for every input' (looked for: loops, veiled, ifaces, maps, wideKeys, modest, calm, conditions, laid).
  DERIVED. THE GIVEN ROWS OF THIS SEAT. 3 by the template 'for every input the law returns true; each argument reads behind the call as it read before'; 0 by the template 'total and deterministic' (their statements: YtgpndbfefbdibabTotals.lean).
  GIVEN WITH THE SEED: the statements are not yours to turn. If you find one false, say at which input.
  Laid BY PROGRAM, IN A SANDBOX (cutbox-rows.mjs): the forced cells as the released guide's own fill.sh prints them over the translation 283f09cf6d906774… (all of the seat's roots in one cut). By AI agents, Wed Nov 11 2026. No macro, syntax, notation, axiom, sorry.
-/
import Derived.Test.YtgpndbfefbdibabChecked
import GoSem.Claim
import GoSem.ClaimJoined
import GoSem.ClaimMapViews
import Derived.JoinedTies
import Derived.KernelRfl
namespace Go.Proofs.Ytgpndbfefbdibab
/- THE CELL 'sum', in the pinned program and in every row, IS THE sha256 OF THE DUMP (.gsa) THAT YtgpndbfefbdibabProg.lean LOADS. Nothing in Lean hashes anything: it is a label: what it is worth is what the hold of that sum in a sandbox is worth. -/
noncomputable def Try.pinned : Pinned := { name := "ytgpndbfefbdibab", sum := "283f09cf6d906774eb2a0c7908d4c336cd1bdc319c81da153448aec5da97ec08", checked := Try.checked }
namespace Rows
def none {H : Type} : Left H := { results := [], args := [] }

/-- 'transomlaw5.LabelMost': WHATEVER THE INPUT: true; the input reads as it did. -/
def labelMostSpec : ChangeSpec := { name := "labelMost", fn := fun _ => fun
  | [d1, d2, d3] => { results := [.lit (.bool true)], args := [d1, d2, d3] }
  | _ => none }
def labelMostRow : OpenClaim := { program := "ytgpndbfefbdibab", sum := "283f09cf6d906774eb2a0c7908d4c336cd1bdc319c81da153448aec5da97ec08", func := "transom/transomlaw5.LabelMost", spec := "labelMost", unfollowed := true, recurses := true, apart := false }
def LabelMostSaid : Prop := labelMostRow.holds Try.pinned (OpenSpec.ofChange labelMostSpec)

/-- ITS FALSE NEIGHBOUR: 'it returns false'. Refute it at one input. -/
def labelMostWrong : ChangeSpec := { name := "labelMost", fn := fun _ => fun
  | [d1, d2, d3] => { results := [.lit (.bool false)], args := [d1, d2, d3] }
  | _ => none }
def LabelMostWrongFalsely : Prop := labelMostRow.holds Try.pinned (OpenSpec.ofChange labelMostWrong)

/-- 'transomlaw5.LabelForms': WHATEVER THE INPUT: true; the input reads as it did. -/
def labelFormsSpec : ChangeSpec := { name := "labelForms", fn := fun _ => fun
  | [] => { results := [.lit (.bool true)], args := [] }
  | _ => none }
def labelFormsRow : OpenClaim := { program := "ytgpndbfefbdibab", sum := "283f09cf6d906774eb2a0c7908d4c336cd1bdc319c81da153448aec5da97ec08", func := "transom/transomlaw5.LabelForms", spec := "labelForms", unfollowed := true, recurses := true, apart := false }
def LabelFormsSaid : Prop := labelFormsRow.holds Try.pinned (OpenSpec.ofChange labelFormsSpec)

/-- ITS FALSE NEIGHBOUR: 'it returns false'. Refute it at one input. -/
def labelFormsWrong : ChangeSpec := { name := "labelForms", fn := fun _ => fun
  | [] => { results := [.lit (.bool false)], args := [] }
  | _ => none }
def LabelFormsWrongFalsely : Prop := labelFormsRow.holds Try.pinned (OpenSpec.ofChange labelFormsWrong)

/-- 'transomlaw5.LabelMakesOnce': WHATEVER THE INPUT: true; the input reads as it did. -/
def labelMakesOnceSpec : ChangeSpec := { name := "labelMakesOnce", fn := fun _ => fun
  | [d1, d2, d3] => { results := [.lit (.bool true)], args := [d1, d2, d3] }
  | _ => none }
def labelMakesOnceRow : OpenClaim := { program := "ytgpndbfefbdibab", sum := "283f09cf6d906774eb2a0c7908d4c336cd1bdc319c81da153448aec5da97ec08", func := "transom/transomlaw5.LabelMakesOnce", spec := "labelMakesOnce", unfollowed := true, recurses := true, apart := false }
def LabelMakesOnceSaid : Prop := labelMakesOnceRow.holds Try.pinned (OpenSpec.ofChange labelMakesOnceSpec)

/-- ITS FALSE NEIGHBOUR: 'it returns false'. Refute it at one input. -/
def labelMakesOnceWrong : ChangeSpec := { name := "labelMakesOnce", fn := fun _ => fun
  | [d1, d2, d3] => { results := [.lit (.bool false)], args := [d1, d2, d3] }
  | _ => none }
def LabelMakesOnceWrongFalsely : Prop := labelMakesOnceRow.holds Try.pinned (OpenSpec.ofChange labelMakesOnceWrong)

/- THE SECOND FORM. 'bulk': how many values and letters a reading holds, each counted each time it is reached (what is shared counts as often as it is met; a slice's spare places count too). A statement '..UptoSaid' is the law's where the arguments, and the package variables that the reading takes, are together of bulk at most 1048576: NARROWER than '..Said'. Prove '..Said' where nothing that the law and all that it calls make is longer than what came in: it says more and counts as full. Else prove '..UptoSaid'. A law counts once. -/
mutual
def uptoBulk {H : Type} : DataW H → Nat
  | .lit (.string bytes) => bytes.length + 1
  | .lit _ => 1
  | .nil => 1
  | .ptr d => uptoBulk d + 1
  | .slice elems spare => uptoBulkAll elems + uptoBulkAll spare + 1
  | .agg parts => uptoBulkAll parts + 1
  | .iface _ d => uptoBulk d + 1
  | .map entries => uptoBulkEntries entries + 1
  | .held _ => 1
def uptoBulkAll {H : Type} : List (DataW H) → Nat
  | [] => 0
  | d :: r => uptoBulk d + uptoBulkAll r
def uptoBulkEntries {H : Type} : List (Lit × DataW H) → Nat
  | [] => 0
  | x :: r => uptoBulkEntry x + uptoBulkEntries r
def uptoBulkEntry {H : Type} : Lit × DataW H → Nat
  | (.string bytes, d) => bytes.length + uptoBulk d + 1
  | (_, d) => uptoBulk d + 1
 end
def uptoSmall : (H : Type) → List (DataW H) → Bool := fun _ ds => decide (uptoBulkAll ds ≤ 1048576)
def OpenSpec.upto (s : _root_.Go.ChangeSpec) : _root_.Go.OpenSpec := { _root_.Go.OpenSpec.ofChange s with cond := some uptoSmall }

/-- 'transomlaw5.LabelMost', WHERE WHAT IT READS IS OF BULK AT MOST 1048576: true; the input reads as it did. -/
def labelMostUptoRow : OpenClaim := { program := "ytgpndbfefbdibab", sum := "283f09cf6d906774eb2a0c7908d4c336cd1bdc319c81da153448aec5da97ec08", func := "transom/transomlaw5.LabelMost", spec := "labelMost", unfollowed := true, recurses := true, apart := false, narrowed := true }
def LabelMostUptoSaid : Prop := labelMostUptoRow.holds Try.pinned (OpenSpec.upto labelMostSpec)

/-- 'transomlaw5.LabelForms', WHERE WHAT IT READS IS OF BULK AT MOST 1048576: true; the input reads as it did. -/
def labelFormsUptoRow : OpenClaim := { program := "ytgpndbfefbdibab", sum := "283f09cf6d906774eb2a0c7908d4c336cd1bdc319c81da153448aec5da97ec08", func := "transom/transomlaw5.LabelForms", spec := "labelForms", unfollowed := true, recurses := true, apart := false, narrowed := true }
def LabelFormsUptoSaid : Prop := labelFormsUptoRow.holds Try.pinned (OpenSpec.upto labelFormsSpec)

/-- 'transomlaw5.LabelMakesOnce', WHERE WHAT IT READS IS OF BULK AT MOST 1048576: true; the input reads as it did. -/
def labelMakesOnceUptoRow : OpenClaim := { program := "ytgpndbfefbdibab", sum := "283f09cf6d906774eb2a0c7908d4c336cd1bdc319c81da153448aec5da97ec08", func := "transom/transomlaw5.LabelMakesOnce", spec := "labelMakesOnce", unfollowed := true, recurses := true, apart := false, narrowed := true }
def LabelMakesOnceUptoSaid : Prop := labelMakesOnceUptoRow.holds Try.pinned (OpenSpec.upto labelMakesOnceSpec)

end Rows
end Go.Proofs.Ytgpndbfefbdibab
