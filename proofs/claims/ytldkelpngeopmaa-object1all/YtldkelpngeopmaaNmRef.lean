/- What the document's own functions on names answer: contracts, for every number. -/
import Derived.Test.YtldkelpngeopmaaNmPath
namespace Go.Proofs.Ytldkelpngeopmaa
open Go.RowKit
set_option maxRecDepth 100000

theorem len_yes {w : World} {so : Option Addr} {n co : Nat} {x : Int} (h : RowQ w so n co (pth x)) (hN : isN x = true) : n = dN x + 1 := by
  have := h.len; rw [pth_len, if_pos hN] at this; exact this.symm
theorem len_no {w : World} {so : Option Addr} {n co : Nat} {x : Int} (h : RowQ w so n co (pth x)) (hN : isN x = false) : n = 0 := by
  have := h.len; rw [pth_len, if_neg (by simp [hN])] at this; exact this.symm

theorem nmRefMay_any (x : Int) (hx : U x) (w : World) : Calls Try.prog 40 #[.int .u64 x] w fun e w' => e = .returned (.bool (isN x)) ∧ Below w.heap.size w w' := by
  go_enter Try.func40, Try.ntmps40
  go_wp2_with fail
  refine (refPath_any x hx _).mono ?_
  rintro e w1 ⟨so, n, co, rfl, hr, hb⟩
  have hq : decide (0 < n) = isN x := by
    cases h : isN x with
    | true => have := len_yes hr h; simp; omega
    | false => have := len_no hr h; simp; omega
  go_wp2_with fail
  go_ret
  exact ⟨by rw [← hq]; rfl, hb⟩
end Go.Proofs.Ytldkelpngeopmaa
