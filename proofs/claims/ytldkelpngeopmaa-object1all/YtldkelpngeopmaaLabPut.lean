/- What appends a pair to pairs, and what goes through two labels at once, answer: contracts. -/
import Derived.Test.YtldkelpngeopmaaLabRead2
import Derived.Test.YtldkelpngeopmaaRegion
namespace Go.Proofs.Ytldkelpngeopmaa
open Go.RowKit
set_option maxRecDepth 100000

theorem info29 : (Try.prog.info? 46).map (fun i => (i.zero, i.size, i.bytes)) = some (some (.agg #[.int .u16 0, .int .u8 0]), 2, 4) := by kernel_rfl
theorem grown_of_below {w w' : World} (h : Below w.heap.size w w') (r : Option Nat) : w.grownBy w' r := ⟨h.os, h.tape, h.output, h.size, fun k hk _ => h.block k hk⟩
theorem grown_trans {a b c : World} {r r' : Option Nat} (h : a.grownBy b r) (k : b.grownBy c r') (hr : ∀ x, r' = some x → r = some x ∨ a.heap.size ≤ x) : a.grownBy c r :=
  ⟨k.os.trans h.os, k.tape.trans h.tape, k.output.trans h.output, Nat.le_trans h.size k.size, fun i hi hne => (k.block i (Nat.lt_of_lt_of_le hi h.size) (fun e => by
    rcases hr i e.symm with h1 | h1
    · exact hne h1.symm
    · omega)).trans (h.block i hi hne)⟩
theorem below_of_grown {a b : World} {r : Option Nat} {B : Nat} (h : a.grownBy b r) (hB : B ≤ a.heap.size) (hr : ∀ x, r = some x → B ≤ x) : Below B a b :=
  ⟨h.os, h.tape, h.output, h.size, fun i hi => h.block i (by omega) (fun e => by have := hr i e.symm; omega)⟩
theorem own_block {α : Type} {E : Enc α} {e : TypeId} {w : World} {B n cap : Nat} {so : Option Addr} {ys : List α} (hown : OwnG E e w B so n cap ys) : ∀ k, (Value.slice so n cap).ownBlock = some k → B ≤ k ∧ k < w.heap.size := by
  intro k hk
  rcases hown.cases with ⟨rfl, _⟩ | ⟨g, cur, rfl, hBg, hg, _⟩
  · simp [Value.ownBlock] at hk
  · obtain rfl : g = k := by simpa [Value.ownBlock] using hk
    exact ⟨hBg, (Array.getElem?_eq_some_iff.1 hg).1⟩

/-- What is kept of a pair beside a Default. -/
def unl (x y d : Int) : List (Int × Int) := if y = d then [] else [(x, y)]
end Go.Proofs.Ytldkelpngeopmaa
