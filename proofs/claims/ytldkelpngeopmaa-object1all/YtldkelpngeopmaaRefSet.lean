/- What the document's own Make of a list of categories is: a contract, for every list. -/
import Derived.Test.YtldkelpngeopmaaMerge
import Derived.Test.YtldkelpngeopmaaRegion
namespace Go.Proofs.Ytldkelpngeopmaa
open Go.RowKit
set_option maxRecDepth 100000

theorem mem_take_succ {xs : List Int} {i : Nat} (hi : i < xs.length) {x : Int} : x ∈ xs.take (i + 1) ↔ x ∈ xs.take i ∨ x = xs.getD i 0 := by
  rw [List.take_succ_eq_append_getElem hi, List.mem_append, List.mem_singleton, getD_eq hi]
theorem ownw_lit_at (w : World) (g : Nat) (hg : w.heap.size = g) (e : TypeId) (xs : List Int) (n : Nat) (hn : xs.length = n) (hm : n ≤ 9223372036854775807) (hb : Wrd xs) {B : Nat} (hB : B ≤ w.heap.size) : OwnW e (w.alloc (.cells (xs.map (Value.int .u16)).toArray e)) B (some ⟨g, 0, none⟩) n n xs := by
  subst hg; exact (ownw_lit w e xs n hn hm hb).mono hB
theorem roww_lit_at (w : World) (g : Nat) (hg : w.heap.size = g) (e : TypeId) (xs : List Int) (n : Nat) (hn : xs.length = n) (hm : n ≤ 9223372036854775807) (hb : Wrd xs) : RowW (w.alloc (.cells (xs.map (Value.int .u16)).toArray e)) (some ⟨g, 0, none⟩) n n xs := by
  subst hg; exact roww_lit w e xs n hn hm hb

end Go.Proofs.Ytldkelpngeopmaa
