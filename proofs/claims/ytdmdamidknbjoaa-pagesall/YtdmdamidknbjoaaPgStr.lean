/- Rows of bytes once more: the rest of one behind k, whatever the address; the string of one. -/
import Derived.Test.YtdmdamidknbjoaaPgPo
namespace Go.Proofs.Ytdmdamidknbjoaa
open Go.RowKit
set_option maxRecDepth 100000

theorem Row.rest {w : World} {b off n cap : Nat} {xs : List Int} (h : Row w (some ⟨b, off, none⟩) n cap xs) (k : Nat) (hk : k ≤ n) : Row w (some ⟨b, off + k, none⟩) (n - k) (cap - k) (xs.drop k) := by
  have h1 := h.sub k (n - k) (by omega)
  rwa [List.take_of_length_le (by simp [h.len])] at h1
theorem Row.done {w : World} {a : Option Addr} {n cap : Nat} {xs : List Int} (h : Row w a n cap xs) (x : Addr) (c : Nat) (hc : c ≤ 9223372036854775807) : Row w (some x) 0 c (xs.drop n) := by
  rw [List.drop_eq_nil_iff.2 (by have := h.len; omega)]
  exact Row.none_of w x c hc
/-- What 'string(b)' of bytes is. -/
theorem strB : Hid (∀ (W : World) (ao : Option Addr) (n c : Nat) (zs : List Int), Row W ao n c zs → (convert 29 9 (.slice ao n c)).run Try.prog W = .ok (.string (strOfNums zs)) W) := fun W ao n c zs hrow => run_str (P := Try.prog) W 29 9 5 Try.underlying29 Try.underlying5 Try.underlying9 ao n c zs hrow
/-- What a row reads as, by its places. -/
theorem list_of (f : Nat → Int) (xs : List Int) (n : Nat) (hn : xs.length = n) (h : ∀ j, j < n → f j = xs.getD j 0) : (List.range n).map f = xs := by
  apply List.ext_getElem?
  intro j
  by_cases hj : j < n
  · simp [hj, h j hj, List.getD, show j < xs.length by omega]
  · simp [hj, List.getElem?_eq_none (show xs.length ≤ j by omega)]
end Go.Proofs.Ytdmdamidknbjoaa
