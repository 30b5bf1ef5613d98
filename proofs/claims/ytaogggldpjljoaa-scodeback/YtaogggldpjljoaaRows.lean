/-
  No cell of these rows narrows 'for every input' (looked for: loops, veiled, ifaces, maps, wideKeys, modest, calm, conditions, laid).
  DERIVED. THE GIVEN ROWS OF THIS SEAT. 4 by the template 'for every input the law returns true; each argument reads behind the call as it read before'; 0 by the template 'total and deterministic' (their statements: YtaogggldpjljoaaTotals.lean).
  GIVEN WITH THE SEED: the statements are not yours to turn. If you find one false, say at which input.
  Laid BY PROGRAM, IN A SANDBOX (cutbox-rows.mjs): the forced cells as the released guide's own fill.sh prints them over the translation c0fd9828698c1f82… (all of the seat's roots in one cut). By AI agents, Wed Nov 11 2026. No macro, syntax, notation, axiom, sorry.
-/
import Derived.Test.YtaogggldpjljoaaChecked
import GoSem.Claim
import GoSem.ClaimJoined
import GoSem.ClaimMapViews
import Derived.JoinedTies
import Derived.KernelRfl
namespace Go.Proofs.Ytaogggldpjljoaa
/- THE CELL 'sum', in the pinned program and in every row, IS THE sha256 OF THE DUMP (.gsa) THAT YtaogggldpjljoaaProg.lean LOADS. Nothing in Lean hashes anything: it is a label: what it is worth is what the hold of that sum in a sandbox is worth. -/
noncomputable def Try.pinned : Pinned := { name := "ytaogggldpjljoaa", sum := "c0fd9828698c1f82e3deb8b95afc4b526c3799180748c4a1e7deb876695bbbd4", checked := Try.checked }
namespace Rows
def none {H : Type} : Left H := { results := [], args := [] }

/-- 'transomlaw9.ScodeAll': WHATEVER THE INPUT: true; the input reads as it did. -/
def scodeAllSpec : ChangeSpec := { name := "scodeAll", fn := fun _ => fun
  | [d1, d2] => { results := [.lit (.bool true)], args := [d1, d2] }
  | _ => none }
def scodeAllRow : OpenClaim := { program := "ytaogggldpjljoaa", sum := "c0fd9828698c1f82e3deb8b95afc4b526c3799180748c4a1e7deb876695bbbd4", func := "transom/transomlaw9.ScodeAll", spec := "scodeAll", apart := false }
def ScodeAllSaid : Prop := scodeAllRow.holds Try.pinned (OpenSpec.ofChange scodeAllSpec)

/-- ITS FALSE NEIGHBOUR: 'it returns false'. Refute it at one input. -/
def scodeAllWrong : ChangeSpec := { name := "scodeAll", fn := fun _ => fun
  | [d1, d2] => { results := [.lit (.bool false)], args := [d1, d2] }
  | _ => none }
def ScodeAllWrongFalsely : Prop := scodeAllRow.holds Try.pinned (OpenSpec.ofChange scodeAllWrong)

/-- 'transomlaw9.ScodeBack': WHATEVER THE INPUT: true; the input reads as it did. -/
def scodeBackSpec : ChangeSpec := { name := "scodeBack", fn := fun _ => fun
  | [d1, d2, d3, d4] => { results := [.lit (.bool true)], args := [d1, d2, d3, d4] }
  | _ => none }
def scodeBackRow : OpenClaim := { program := "ytaogggldpjljoaa", sum := "c0fd9828698c1f82e3deb8b95afc4b526c3799180748c4a1e7deb876695bbbd4", func := "transom/transomlaw9.ScodeBack", spec := "scodeBack", apart := false }
def ScodeBackSaid : Prop := scodeBackRow.holds Try.pinned (OpenSpec.ofChange scodeBackSpec)

/-- ITS FALSE NEIGHBOUR: 'it returns false'. Refute it at one input. -/
def scodeBackWrong : ChangeSpec := { name := "scodeBack", fn := fun _ => fun
  | [d1, d2, d3, d4] => { results := [.lit (.bool false)], args := [d1, d2, d3, d4] }
  | _ => none }
def ScodeBackWrongFalsely : Prop := scodeBackRow.holds Try.pinned (OpenSpec.ofChange scodeBackWrong)

/-- 'transomlaw9.ScodeOne': WHATEVER THE INPUT: true; the input reads as it did. -/
def scodeOneSpec : ChangeSpec := { name := "scodeOne", fn := fun _ => fun
  | [d1, d2] => { results := [.lit (.bool true)], args := [d1, d2] }
  | _ => none }
def scodeOneRow : OpenClaim := { program := "ytaogggldpjljoaa", sum := "c0fd9828698c1f82e3deb8b95afc4b526c3799180748c4a1e7deb876695bbbd4", func := "transom/transomlaw9.ScodeOne", spec := "scodeOne", apart := false }
def ScodeOneSaid : Prop := scodeOneRow.holds Try.pinned (OpenSpec.ofChange scodeOneSpec)

/-- ITS FALSE NEIGHBOUR: 'it returns false'. Refute it at one input. -/
def scodeOneWrong : ChangeSpec := { name := "scodeOne", fn := fun _ => fun
  | [d1, d2] => { results := [.lit (.bool false)], args := [d1, d2] }
  | _ => none }
def ScodeOneWrongFalsely : Prop := scodeOneRow.holds Try.pinned (OpenSpec.ofChange scodeOneWrong)

/-- 'transomlaw9.ScodeForms': WHATEVER THE INPUT: true; the input reads as it did. -/
def scodeFormsSpec : ChangeSpec := { name := "scodeForms", fn := fun _ => fun
  | [] => { results := [.lit (.bool true)], args := [] }
  | _ => none }
def scodeFormsRow : OpenClaim := { program := "ytaogggldpjljoaa", sum := "c0fd9828698c1f82e3deb8b95afc4b526c3799180748c4a1e7deb876695bbbd4", func := "transom/transomlaw9.ScodeForms", spec := "scodeForms", apart := false }
def ScodeFormsSaid : Prop := scodeFormsRow.holds Try.pinned (OpenSpec.ofChange scodeFormsSpec)

/-- ITS FALSE NEIGHBOUR: 'it returns false'. Refute it at one input. -/
def scodeFormsWrong : ChangeSpec := { name := "scodeForms", fn := fun _ => fun
  | [] => { results := [.lit (.bool false)], args := [] }
  | _ => none }
def ScodeFormsWrongFalsely : Prop := scodeFormsRow.holds Try.pinned (OpenSpec.ofChange scodeFormsWrong)

/- THE SECOND FORM. 'bulk': how many values and letters a reading holds, each counted each time it is reached (what is shared counts as often as it is met; a slice's spare places count too). A statement '..UptoSaid' is the law's where the arguments, and the package variables that the reading takes, are together of bulk at most 1048576: NARROWER than '..Said'. Prove '..Said' where nothing that the law and all that it calls make is longer than what came in: it says more and counts as full. Else prove '..UptoSaid'. A law counts once. -/
mutual
def uptoBulk {H : Type} : DataW H → Nat
  | .lit (.string bytes) => bytes.length + 1
  | .lit _ => 1
  | .nil => 1
  | .ptr d => uptoBulk d + 1
  | .slice elems spare => uptoBulkAll elems + uptoBulkAll spare + 1
  | .agg parts => uptoBulkAll parts + 1
  | .iface _ d => uptoBulk d + 1
  | .map entries => uptoBulkEntries entries + 1
  | .held _ => 1
def uptoBulkAll {H : Type} : List (DataW H) → Nat
  | [] => 0
  | d :: r => uptoBulk d + uptoBulkAll r
def uptoBulkEntries {H : Type} : List (Lit × DataW H) → Nat
  | [] => 0
  | x :: r => uptoBulkEntry x + uptoBulkEntries r
def uptoBulkEntry {H : Type} : Lit × DataW H → Nat
  | (.string bytes, d) => bytes.length + uptoBulk d + 1
  | (_, d) => uptoBulk d + 1
 end
def uptoSmall : (H : Type) → List (DataW H) → Bool := fun _ ds => decide (uptoBulkAll ds ≤ 1048576)
def OpenSpec.upto (s : _root_.Go.ChangeSpec) : _root_.Go.OpenSpec := { _root_.Go.OpenSpec.ofChange s with cond := some uptoSmall }

/-- 'transomlaw9.ScodeAll', WHERE WHAT IT READS IS OF BULK AT MOST 1048576: true; the input reads as it did. -/
def scodeAllUptoRow : OpenClaim := { program := "ytaogggldpjljoaa", sum := "c0fd9828698c1f82e3deb8b95afc4b526c3799180748c4a1e7deb876695bbbd4", func := "transom/transomlaw9.ScodeAll", spec := "scodeAll", apart := false, narrowed := true }
def ScodeAllUptoSaid : Prop := scodeAllUptoRow.holds Try.pinned (OpenSpec.upto scodeAllSpec)

/-- 'transomlaw9.ScodeBack', WHERE WHAT IT READS IS OF BULK AT MOST 1048576: true; the input reads as it did. -/
def scodeBackUptoRow : OpenClaim := { program := "ytaogggldpjljoaa", sum := "c0fd9828698c1f82e3deb8b95afc4b526c3799180748c4a1e7deb876695bbbd4", func := "transom/transomlaw9.ScodeBack", spec := "scodeBack", apart := false, narrowed := true }
def ScodeBackUptoSaid : Prop := scodeBackUptoRow.holds Try.pinned (OpenSpec.upto scodeBackSpec)

/-- 'transomlaw9.ScodeOne', WHERE WHAT IT READS IS OF BULK AT MOST 1048576: true; the input reads as it did. -/
def scodeOneUptoRow : OpenClaim := { program := "ytaogggldpjljoaa", sum := "c0fd9828698c1f82e3deb8b95afc4b526c3799180748c4a1e7deb876695bbbd4", func := "transom/transomlaw9.ScodeOne", spec := "scodeOne", apart := false, narrowed := true }
def ScodeOneUptoSaid : Prop := scodeOneUptoRow.holds Try.pinned (OpenSpec.upto scodeOneSpec)

/-- 'transomlaw9.ScodeForms', WHERE WHAT IT READS IS OF BULK AT MOST 1048576: true; the input reads as it did. -/
def scodeFormsUptoRow : OpenClaim := { program := "ytaogggldpjljoaa", sum := "c0fd9828698c1f82e3deb8b95afc4b526c3799180748c4a1e7deb876695bbbd4", func := "transom/transomlaw9.ScodeForms", spec := "scodeForms", apart := false, narrowed := true }
def ScodeFormsUptoSaid : Prop := scodeFormsUptoRow.holds Try.pinned (OpenSpec.upto scodeFormsSpec)

end Rows
end Go.Proofs.Ytaogggldpjljoaa
