/- Which labels may be: contracts of May and of the document's own. -/
import Derived.Test.YthhpfpihgmhlbaaLabRead2
namespace Go.Proofs.Ythhpfpihgmhlbaa
open Go.RowKit

/-- May a thread or an object have a label? -/
def mayB (d : Int) (xs : List (Int × Int)) : Bool := decide (1 ≤ d ∧ d ≤ 4) && decide (xs.length ≤ 16) && (xs.all fun p => decide (p.2 ≤ 4 ∧ p.2 ≠ d)) && asc (xs.map Prod.fst)
theorem mayB_iff {d : Int} {xs : List (Int × Int)} : mayB d xs = true ↔ (1 ≤ d ∧ d ≤ 4) ∧ xs.length ≤ 16 ∧ (∀ p ∈ xs, p.2 ≤ 4 ∧ p.2 ≠ d) ∧ UpL xs := by
  simp only [mayB, Bool.and_eq_true, decide_eq_true_eq, List.all_eq_true, asc_iff, ← up_iff]
  constructor
  · rintro ⟨⟨⟨h1, h2⟩, h3⟩, h4⟩; exact ⟨h1, h2, h3, h4⟩
  · rintro ⟨h1, h2, h3, h4⟩; exact ⟨⟨⟨h1, h2⟩, h3⟩, h4⟩
theorem mayB_false {d : Int} {xs : List (Int × Int)} (h : ¬ ((1 ≤ d ∧ d ≤ 4) ∧ xs.length ≤ 16 ∧ (∀ p ∈ xs, p.2 ≤ 4 ∧ p.2 ≠ d) ∧ UpL xs)) : mayB d xs = false := by
  cases hc : mayB d xs
  · rfl
  · exact absurd (mayB_iff.1 hc) h
theorem up_of {xs : List (Int × Int)} (h2 : ∀ (j : Nat) (x y x' y' : Int), xs[j]? = some (x, y) → xs[j + 1]? = some (x', y') → x < x') : UpL xs := by
  refine up_iff.2 (Srt.of_steps fun i hi => ?_)
  simp only [List.length_map] at hi
  have e1 : xs[i]? = some (xs[i].1, xs[i].2) := List.getElem?_eq_getElem (by omega)
  have e2 : xs[i + 1]? = some (xs[i + 1].1, xs[i + 1].2) := List.getElem?_eq_getElem hi
  have := h2 i _ _ _ _ e1 e2
  rw [getD_eq (by simp; omega), getD_eq (by simp; omega)]
  simpa using this

end Go.Proofs.Ythhpfpihgmhlbaa
