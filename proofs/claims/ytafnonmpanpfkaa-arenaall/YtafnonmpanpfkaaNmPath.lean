/- The path of a name, the code's and the document's: contracts, for every number; and what the document's other functions answer. -/
import Derived.Test.YtafnonmpanpfkaaNmOps
import Derived.Lib.MinMax
import Derived.Deep.OwnRows
import Derived.BigQuiet
namespace Go.Proofs.Ytafnonmpanpfkaa
open Go.RowKit
set_option maxRecDepth 100000

theorem infoQ : (Try.prog.info? 31).map (fun i => (i.zero, i.size, i.bytes)) = some (some (.int .u64 0), 1, 8) := by kernel_rfl
theorem made_own (w : World) (m : Nat) (h : m ≤ 1000) : OwnQ 31 (w.alloc (.cells (madeCells #[.int .u64 0] m) 31)) w.heap.size (some ⟨w.heap.size, 0, none⟩) m m (List.replicate m 0) := by
  have hy : madeCells #[Value.int .u64 0] m = (List.replicate m (Value.int .u64 0)).toArray := by
    have := toList_madeCells_one (Value.int .u64 0) m
    rw [← this]
  refine OwnQ.of_cells (Nat.le_refl _) (heap_alloc_new w _) (Nat.le_refl _) (by unfold maxLen; omega) (by rw [hy]; simp) (by simp) (fun y hy => by rw [List.eq_of_mem_replicate hy]; omega) ?_
  rw [hy]
  simp

/-- Not a name: somewhere on the way down a number is missing, or it never comes to Root. -/
theorem no_name {x : Int} {n : Nat} (hgt : ∀ k, k < n → 1 < x / 64 ^ k) (h : x / 64 ^ n ≤ 0 ∨ (1 < x / 64 ^ n ∧ x / 64 ^ n % 64 = 0) ∨ (6 < n ∧ Nm x n)) : isN x = false := by
  cases hc : isN x with
  | false => rfl
  | true =>
    exfalso
    obtain ⟨h6, hm⟩ := nm_of hc
    generalize dN x = d at *
    have hd : n ≤ d := by
      by_cases hl : d < n
      · have := hgt d hl; have := hm.1; omega
      · omega
    rcases h with h | ⟨h, h0⟩ | ⟨h, hn⟩
    · have h1 := hm.1
      rw [show d = n + (d - n) by omega, ← div_div64] at h1
      have h2 : x / 64 ^ n / 64 ^ (d - n) ≤ 0 := Int.ediv_le_iff_le_mul (pow_pos64 _) |>.2 (by have := pow_pos64 (d - n); omega)
      omega
    · by_cases he : n = d
      · subst he; have := hm.1; omega
      · exact hm.2 n (by omega) h0
    · have := hn.uniq hm; omega
theorem few {x : Int} {n : Nat} (hx : U x) (hgt : ∀ k, k < n → 1 < x / 64 ^ k) : n ≤ 11 := by
  by_cases h : n ≤ 11
  · exact h
  · have h1 := hgt 11 (by omega)
    have h2 := hx.2
    have h3 := hx.1
    rw [show (64 : Int) ^ 11 = 73786976294838206464 by decide] at h1
    omega

end Go.Proofs.Ytafnonmpanpfkaa
