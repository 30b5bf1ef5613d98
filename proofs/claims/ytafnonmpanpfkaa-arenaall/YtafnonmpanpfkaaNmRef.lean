/- What the document's own functions on names answer: contracts, for every number. -/
import Derived.Test.YtafnonmpanpfkaaNmPath
namespace Go.Proofs.Ytafnonmpanpfkaa
open Go.RowKit
set_option maxRecDepth 100000

theorem len_yes {w : World} {so : Option Addr} {n co : Nat} {x : Int} (h : RowQ w so n co (pth x)) (hN : isN x = true) : n = dN x + 1 := by
  have := h.len; rw [pth_len, if_pos hN] at this; exact this.symm
theorem len_no {w : World} {so : Option Addr} {n co : Nat} {x : Int} (h : RowQ w so n co (pth x)) (hN : isN x = false) : n = 0 := by
  have := h.len; rw [pth_len, if_neg (by simp [hN])] at this; exact this.symm

set_option maxHeartbeats 400000 in
/-- Two lists that read alike are the same. -/
theorem sameIDs_true (a b : Option Addr) (n ca cb : Nat) (xs : List Int) (w : World) (hr : RowQ w a n ca xs) (hs : RowQ w b n cb xs) :
    Calls Try.prog 30 #[.slice a n ca, .slice b n cb] w fun e w' => e = .returned (.bool true) ∧ Below w.heap.size w w' := by
  have hcap := hr.cap_le
  go_enter Try.func30, Try.ntmps30
  go_wp2_with fail
  go_loopw [5] (fun i wr => ∃ k : Nat, k ≤ n ∧ i = .int .i64 k ∧ Below w.heap.size w wr) (fun i _ => n - (intOf i).toNat)
  case atStart => exact ⟨0, by omega, rfl, Below.refl _ _⟩
  case round =>
    obtain ⟨k, hk, rfl, hbel⟩ := hrel
    by_cases hlt : k < n
    · have hp : (k : Int) < (n : Int) := by omega
      obtain ⟨b1, o1, rfl, hc1⟩ := (hr.below hbel).at (by omega)
      obtain ⟨b2, o2, rfl, hc2⟩ := (hs.below hbel).at (by omega)
      have c1 := hc1 k hlt
      have c2 := hc2 k hlt
      generalize xs.getD k 0 = X at c1 c2
      clear hc1 hc2
      go_wp2
      go_quiet (fail)
      go_wp2
      go_roundw
      case rel => exact ⟨k + 1, by omega, by go_num, ⟨hbel.os, hbel.tape, hbel.output, hbel.size, hbel.block⟩⟩
      case measure => simp [intOf]; omega
    · have hp : decide ((k : Int) < (n : Int)) = false := by simp; omega
      go_wp2
      go_ret
      exact ⟨rfl, hbel⟩

end Go.Proofs.Ytafnonmpanpfkaa
