/- What the functions that only read labels answer: contracts. -/
import Derived.Test.YthhpfpihgmhlbaaLabFind
namespace Go.Proofs.Ythhpfpihgmhlbaa
open Go.RowKit

theorem atL_found {d : Int} {xs : List (Int × Int)} (hs : UpL xs) {p : Nat} {c y : Int} (h : xs[p]? = some (c, y)) : atL d xs c = y := atL_mem d hs (List.mem_of_getElem? h)
theorem atL_lost {d : Int} {xs : List (Int × Int)} {p : Nat} {c : Int} (hlo : ∀ t x y, xs[t]? = some (x, y) → t < p → x < c) (hhi : ∀ t x y, xs[t]? = some (x, y) → p ≤ t → c ≤ x) (hs : UpL xs) (hn : ¬ ∃ y, xs[p]? = some (c, y)) : atL d xs c = d := by
  refine atL_off d xs c fun q hq => ?_
  obtain ⟨i, hi, rfl⟩ := List.mem_iff_getElem.1 hq
  intro he
  have hx : xs[i]? = some (c, xs[i].2) := by rw [List.getElem?_eq_getElem hi, ← he]
  by_cases h1 : i < p
  · have := hlo i _ _ hx h1; omega
  · by_cases h2 : i = p
    · subst h2; exact hn ⟨_, hx⟩
    · have hp : p < xs.length := by omega
      have h3 : xs[p]? = some (xs[p].1, xs[p].2) := List.getElem?_eq_getElem hp
      have h4 := hhi p _ _ h3 (Nat.le_refl _)
      have h5 := hs.lt (show p < i by omega) h3 hx
      omega
theorem pairs_ext {xs ys : List (Int × Int)} (hl : xs.length = ys.length) (h : ∀ (i : Nat) (x y x' y' : Int), xs[i]? = some (x, y) → ys[i]? = some (x', y') → x = x' ∧ y = y') : xs = ys := by
  apply List.ext_getElem hl
  intro i h1 h2
  obtain ⟨e1, e2⟩ := h i xs[i].1 xs[i].2 ys[i].1 ys[i].2 (List.getElem?_eq_getElem h1) (List.getElem?_eq_getElem h2)
  exact Prod.ext e1 e2
end Go.Proofs.Ythhpfpihgmhlbaa
