/- What appends a pair to pairs, and what goes through two labels at once, answer: contracts. -/
import Derived.Test.YtdoemkncgfgkhaaLabRead2
import Derived.Test.YtdoemkncgfgkhaaRegion
namespace Go.Proofs.Ytdoemkncgfgkhaa
open Go.RowKit
set_option maxRecDepth 100000

theorem info29 : (Try.prog.info? 40).map (fun i => (i.zero, i.size, i.bytes)) = some (some (.agg #[.int .u16 0, .int .u8 0]), 2, 4) := by kernel_rfl
theorem info58 : (Try.prog.info? 72).map (fun i => (i.zero, i.size, i.bytes)) = some (some (.agg #[.int .u16 0, .int .u8 0, .int .u8 0]), 3, 4) := by kernel_rfl

theorem grown_of_below {w w' : World} (h : Below w.heap.size w w') (r : Option Nat) : w.grownBy w' r := ⟨h.os, h.tape, h.output, h.size, fun k hk _ => h.block k hk⟩
theorem grown_trans {a b c : World} {r r' : Option Nat} (h : a.grownBy b r) (k : b.grownBy c r') (hr : ∀ x, r' = some x → r = some x ∨ a.heap.size ≤ x) : a.grownBy c r :=
  ⟨k.os.trans h.os, k.tape.trans h.tape, k.output.trans h.output, Nat.le_trans h.size k.size, fun i hi hne => (k.block i (Nat.lt_of_lt_of_le hi h.size) (fun e => by
    rcases hr i e.symm with h1 | h1
    · exact hne h1.symm
    · omega)).trans (h.block i hi hne)⟩
theorem below_of_grown {a b : World} {r : Option Nat} {B : Nat} (h : a.grownBy b r) (hB : B ≤ a.heap.size) (hr : ∀ x, r = some x → B ≤ x) : Below B a b :=
  ⟨h.os, h.tape, h.output, h.size, fun i hi => h.block i (by omega) (fun e => by have := hr i e.symm; omega)⟩
theorem own_block {α : Type} {E : Enc α} {e : TypeId} {w : World} {B n cap : Nat} {so : Option Addr} {ys : List α} (hown : OwnG E e w B so n cap ys) : ∀ k, (Value.slice so n cap).ownBlock = some k → B ≤ k ∧ k < w.heap.size := by
  intro k hk
  rcases hown.cases with ⟨rfl, _⟩ | ⟨g, cur, rfl, hBg, hg, _⟩
  · simp [Value.ownBlock] at hk
  · obtain rfl : g = k := by simpa [Value.ownBlock] using hk
    exact ⟨hBg, (Array.getElem?_eq_some_iff.1 hg).1⟩

/-- What is kept of a pair beside a Default. -/
def unl (x y d : Int) : List (Int × Int) := if y = d then [] else [(x, y)]
set_option maxHeartbeats 400000 in
theorem appendUnlike_any (so : Option Addr) (n cap : Nat) (ys : List (Int × Int)) (x y d : Int) (hxy : (0 ≤ x ∧ x < 65536) ∧ 0 ≤ y ∧ y < 256) (w : World) (B : Nat) (hB : B ≤ w.heap.size)
    (hown : OwnG PE 40 w B so n cap ys) (hbd : n + 1 ≤ 137438953472) :
    Calls Try.prog 63 #[.slice so n cap, .agg #[.int .u16 x, .int .u8 y], .int .u8 d] w fun e w' => ∃ so' cap' k, e = .returned (.slice so' k cap') ∧ OwnG PE 40 w' B so' k cap' (ys ++ unl x y d) ∧ k ≤ n + 1 ∧ w.grownBy w' (Value.slice so n cap).ownBlock := by
  by_cases h : y = d
  · subst h
    go_enter Try.func63, Try.ntmps63
    go_wp2_with fail
    go_ret
    exact ⟨so, cap, n, rfl, by simpa [unl] using hown.below (below_alloc _ _), by omega, grown_of_below (below_alloc _ _) _⟩
  · have h' : (y == d) = false := by simpa using h
    have h0 := below_alloc w (.cells #[.int .u16 x, .int .u8 y] 40)
    have h1 := two_allocs w (.cells #[.int .u16 x, .int .u8 y] 40) (.cells #[.int .u16 x, .int .u8 y] 40)
    go_enter Try.func63, Try.ntmps63
    go_wp2_with (at_builtin; refine wp_append_g (E := PE) _ rfl (.tmp 12) (.tmp 14) 22 rfl 40 Try.underlying22 (.agg #[.int .u16 0, .int .u8 0]) 4 info29 rfl (by omega) B n cap so ys rfl (hown.below h1) (some ⟨w.heap.size + 1, 0, none⟩) 1 1 [(x, y)] rfl (owng_lit PE _ 40 [(x, y)] _ rfl 1 rfl (by omega) (Enc.Ok.one hxy) _ w.heap.size (by simp) (by omega)).row (by omega) (by simp; omega) w (h1.mono hB) ?_; intro so' cap' w1 hown1 hbel1 hgr1)
    go_ret
    refine ⟨so', cap', n + 1, rfl, by simpa [unl, h] using hown1, by omega, grown_trans (grown_of_below h1 _) hgr1 (fun x hx => .inl hx)⟩
end Go.Proofs.Ytdoemkncgfgkhaa
