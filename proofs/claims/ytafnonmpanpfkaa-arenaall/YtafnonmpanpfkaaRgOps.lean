/- What ring's letters, Push and Pop and the document's Copy answer: contracts. -/
import Derived.Test.YtafnonmpanpfkaaRgRead
namespace Go.Proofs.Ytafnonmpanpfkaa
open Go.RowKit
set_option maxRecDepth 100000
set_option linter.unusedVariables false

/-- bytes.Clone of whatever bytes. -/
theorem cloneR_any (a : Option Addr) (n c : Nat) (xs : List Int) (w : World) (hr : Row w a n c xs) (hbd : n ≤ 140737488351232) :
    Calls Try.prog 23 #[.slice a n c] w fun e w' => ∃ a' c', e = .returned (.slice a' n c') ∧ LeO w' w.heap.size ⟨a', n, c', xs⟩ ∧ Below w.heap.size w w' := by
  cases a with
  | some x =>
    refine (clone_some x n c xs w hr hbd).mono ?_
    rintro e w1 ⟨g, c', rfl, ho, hb⟩
    exact ⟨_, c', rfl, LeO.made ho, hb⟩
  | none =>
    obtain ⟨rfl, rfl⟩ := hr.2.2.2.2.1 rfl
    have hnil : xs = [] := List.eq_nil_of_length_eq_zero hr.len
    subst hnil
    have hq := fun W => Lib.run_eql_slice_nil (P := Try.prog) W 32 5 none 0 0 0 0 Try.underlying32
    go_enter Try.func23, Try.ntmps23
    go_wp2_with fail
    go_ret
    exact ⟨none, 0, by simp, LeO.nil _ _, Below.refl _ _⟩

end Go.Proofs.Ytafnonmpanpfkaa
