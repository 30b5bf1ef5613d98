/- What transomlaw0's Twin and Kept do: contracts. -/
import Derived.Test.YtafnonmpanpfkaaNum
namespace Go.Proofs.Ytafnonmpanpfkaa
open Go.RowKit
set_option maxRecDepth 100000

theorem Own.stored {e : TypeId} {w : World} {B g n cap : Nat} {xs : List Int} (h : Own e w B g n cap xs) (j : Nat) (b : Int) (hb : 0 ≤ b ∧ b < 256) :
    Own e (w.setCell ⟨g, j, none⟩ (.int .u8 b)) B g n cap (xs.set j b) := by
  obtain ⟨h1, h2, h3⟩ := h
  refine ⟨by simpa using h1, fun x hx => ?_, ?_⟩
  · rcases List.mem_or_eq_of_mem_set hx with h | rfl
    · exact h2 x h
    · exact hb
  · have := h3.stored j (.int .u8 b)
    rw [List.map_set]
    exact this.1
theorem Own.free {e : TypeId} {w : World} {B g n cap : Nat} {xs : List Int} (h : Own e w B g n cap xs) (j : Nat) : w.frozen? ⟨g, j, none⟩ = false := h.2.2.frozenAt j

set_option maxHeartbeats 1000000 in
theorem twin_any (a : Option Addr) (len cap : Nat) (xs : List Int) (w : World) (hr : Row w a len cap xs) (hbd : len ≤ 140737488351232) :
    Calls Try.prog 8 #[.slice a len cap] w fun e w' => ∃ g, e = .returned (.slice (some ⟨g, 0, none⟩) len (len + 3)) ∧ Own 5 w' w.heap.size g (len + 3) (len + 3) (xs ++ [229, 229, 229]) ∧ Below w.heap.size w w' := by
  go_enter Try.func8, Try.ntmps8
  go_wp2_with (first | (at_make; refine wp_make_bytes _ rfl (.tmp 7) (.tmp 7) 32 rfl 5 Try.underlying32 info5 _ _ (len + 3) (len + 3) rfl rfl (by omega) (by omega) (by omega) (by omega) w.heap.size (Nat.le_refl _) w (Below.refl _ _) ?_; intro w1 hg1 hbel1 hsz1) | (refine wp_copy_bytes _ rfl (.tmp 9) (.tmp 10) 32 rfl 5 Try.underlying32 info5 w.heap.size (len + 3) (len + 3) rfl a len cap xs rfl (hr.below hbel1) (by omega) (by omega) (List.replicate (len + 3) (Value.int .u8 0)) (by simp) hg1.out w.heap.size (Nat.le_refl _) w hbel1 ?_; intro w2 hg2 hbel2))
  have hown2 : Own 5 w2 w.heap.size w.heap.size (len + 3) (len + 3) (xs ++ [0, 0, 0]) := by
    refine Own.of_block (Nat.le_refl _) hg2.out (Nat.le_refl _) (by unfold maxLen; omega) (by simp [hr.len]) (by simp [hr.len]) (hr.byt.append (byt_of _ rfl)) ?_
    have e3 : (List.replicate (len + 3) (Value.int .u8 0)).drop len = [Value.int .u8 0, .int .u8 0, .int .u8 0] := by
      rw [List.drop_replicate, Nat.add_sub_cancel_left]; rfl
    rw [e3]
    rw [List.take_of_length_le (by simp [hr.len])]
    simp
  clear hg1 hg2
  go_loopw [4] (fun i wr => ∃ (k : Nat) (zs : List Int), len ≤ k ∧ k ≤ len + 3 ∧ i = .int .i64 k ∧ Own 5 wr w.heap.size w.heap.size (len + 3) (len + 3) zs ∧ Below w.heap.size w wr ∧ zs.take k = xs ++ List.replicate (k - len) 229) (fun i _ => len + 3 - (intOf i).toNat)
  case atStart =>
    refine ⟨len, xs ++ [0, 0, 0], Nat.le_refl _, by omega, rfl, hown2, hbel2, ?_⟩
    rw [List.take_append_of_le_length (by rw [hr.len]; exact Nat.le_refl _), List.take_of_length_le (by rw [hr.len]; exact Nat.le_refl _)]
    simp
  case round =>
    clear hown2 hbel2
    obtain ⟨k, zs, hk1, hk2, rfl, hown, hbel, hzs⟩ := hrel
    by_cases hlt : k < len + 3
    · have hp : (k : Int) < (len : Int) + 3 := by omega
      have hc := hown.cell k (by omega)
      have hf := hown.free k
      have hst := hown.stored k 229 (by omega)
      go_wp2_with fail
      go_roundw
      case rel =>
        refine ⟨k + 1, zs.set k 229, by omega, by omega, by go_num, hst, hbel.setCell (Nat.le_refl _) _, ?_⟩
        have hl := hown.1
        rw [List.take_succ_eq_append_getElem (by simp; omega), List.take_set_of_le (Nat.le_refl _), hzs, List.getElem_set_self, show k + 1 - len = (k - len) + 1 by omega, List.replicate_succ', List.append_assoc]
      case measure => simp [intOf]; omega
    · have hp : ¬ (k : Int) < (len : Int) + 3 := by omega
      go_wp2_with fail
      go_ret
      obtain rfl : k = len + 3 := by omega
      refine ⟨w.heap.size, rfl, ?_, hbel⟩
      rw [List.take_of_length_le (by rw [hown.1]; exact Nat.le_refl _), Nat.add_sub_cancel_left] at hzs
      rw [hzs] at hown
      exact hown

set_option maxHeartbeats 1000000 in
theorem kept_any (g len : Nat) (xs : List Int) (a : Option Addr) (cap : Nat) (w : World) (hg : Row w (some ⟨g, 0, none⟩) (len + 3) (len + 3) (xs ++ [229, 229, 229])) (hr : Row w a len cap xs) :
    Calls Try.prog 11 #[.slice (some ⟨g, 0, none⟩) len (len + 3), .slice a len cap] w fun e w' => e = .returned (.bool true) ∧ Below w.heap.size w w' := by
  have hpre := hg.pre len (by omega)
  rw [List.take_append_of_le_length (by rw [hr.len]; exact Nat.le_refl _), List.take_of_length_le (by rw [hr.len]; exact Nat.le_refl _)] at hpre
  have hs1 := run_str (P := Try.prog) w 32 9 5 Try.underlying32 Try.underlying5 Try.underlying9 _ _ _ _ hpre
  have hs2 := run_str (P := Try.prog) w 32 9 5 Try.underlying32 Try.underlying5 Try.underlying9 _ _ _ _ hr
  have hcap := hg.cap_le
  go_enter Try.func11, Try.ntmps11
  have hcell : ∀ k, len ≤ k → k < len + 3 → w.cell? ⟨g, k, none⟩ = some (.int .u8 229) := by
    intro k h1 h2
    obtain ⟨b, off, he, hc⟩ := hg.at (by omega)
    simp only [Option.some.injEq, Addr.mk.injEq, and_true] at he
    obtain ⟨rfl, rfl⟩ := he
    have h3 := hc k (by omega)
    have h4 : (xs ++ [229, 229, 229]).getD k 0 = (229 : Int) := by
      have hl := hr.len
      obtain ⟨j, rfl⟩ : ∃ j, k = xs.length + j := ⟨k - xs.length, by omega⟩
      have hj : j < 3 := by omega
      rw [List.getD_eq_getElem?_getD, List.getElem?_append_right (by omega), Nat.add_sub_cancel_left]
      match j, hj with
      | 0, _ => rfl
      | 1, _ => rfl
      | 2, _ => rfl
    rw [h4] at h3
    simpa using h3
  go_wp2_with fail
  go_loop [6] (fun i => ∃ k : Nat, len ≤ k ∧ k ≤ len + 3 ∧ i = .int .i64 k) (fun i => len + 3 - (intOf i).toNat)
  case atStart => exact ⟨len, Nat.le_refl _, by omega, rfl⟩
  case round =>
    obtain ⟨k, hk1, hk2, rfl⟩ := hrel
    by_cases hlt : k < len + 3
    · have hp : (k : Int) < (len : Int) + 3 := by omega
      have hc := hcell k hk1 hlt
      go_wp2_with fail
      go_round
      case rel => exact ⟨k + 1, by omega, by omega, by go_num⟩
      case measure => simp [intOf]; omega
    · have hp : ¬ (k : Int) < (len : Int) + 3 := by omega
      go_wp2_with fail
      go_ret
      exact ⟨rfl, Below.refl _ _⟩
end Go.Proofs.Ytafnonmpanpfkaa
