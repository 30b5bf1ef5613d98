/- Lists of bytes that are laid one behind the other: each reads as it was written. No program of the seat is named here. -/
import Derived.Test.YtilgijmclmkboaaBytes
namespace Go.Proofs.Ytilgijmclmkboaa
open Go.RowKit

/-- The world in which these were laid, each a block of its own. -/
def litsW (e : TypeId) : World → List (List Int) → World
  | w, [] => w
  | w, L :: Ls => litsW e (w.alloc (.cells (L.map (Value.int .u8)).toArray e)) Ls
theorem lits_rows (e : TypeId) : ∀ (Ls : List (List Int)) (w : World), (∀ L ∈ Ls, Byt L ∧ L.length ≤ 9223372036854775807) →
    Below w.heap.size w (litsW e w Ls) ∧ (litsW e w Ls).heap.size = w.heap.size + Ls.length ∧ ∀ (i : Nat) (L : List Int), Ls[i]? = some L → Row (litsW e w Ls) (some ⟨w.heap.size + i, 0, none⟩) L.length L.length L
  | [], w, _ => ⟨Below.refl _ _, rfl, fun i L h => by simp at h⟩
  | K :: Ls, w, h => by
    have hK := h K (by simp)
    obtain ⟨h1, h2, h3⟩ := lits_rows e Ls (w.alloc (.cells (K.map (Value.int .u8)).toArray e)) (fun L hL => h L (by simp [hL]))
    have hsz : (w.alloc (.cells (K.map (Value.int .u8)).toArray e)).heap.size = w.heap.size + 1 := by simp
    refine ⟨ext_trans (below_alloc _ _) h1, ?_, fun i L hi => ?_⟩
    · show (litsW e _ Ls).heap.size = _
      rw [h2, hsz, List.length_cons]; omega
    · cases i with
      | zero =>
        obtain rfl : K = L := by simpa using hi
        exact (row_lit w e K K.length rfl hK.2 hK.1).below h1
      | succ i =>
        have := h3 i L (by simpa using hi)
        rw [hsz] at this
        rw [show w.heap.size + (i + 1) = w.heap.size + 1 + i by omega]
        exact this
end Go.Proofs.Ytilgijmclmkboaa
