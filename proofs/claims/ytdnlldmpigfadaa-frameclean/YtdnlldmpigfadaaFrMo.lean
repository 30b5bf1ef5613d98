/- A memory of frames that a call itself made: its calls' contracts once more, in one word. -/
import Derived.Test.YtdnlldmpigfadaaFrBegun
namespace Go.Proofs.Ytdnlldmpigfadaa
open Go.RowKit

/-- At p there is a memory of k frames, all of it made since W. -/
def Mo (W w : World) (p k : Nat) (A : Mm) : Prop := ∃ (S : Nat → Prop) (g : Nat) (b : Nat → Nat), Mem w S p k A g b ∧ Below W.heap.size W w ∧ ∀ x, S x → W.heap.size ≤ x
/-- The first j frames are taken, and all noughts. -/
def firstN (j : Nat) : Mm := fun i => if i < j then some (fun _ => 0) else none
theorem firstN_zero : firstN 0 = fun _ => none := by funext i; simp [firstN]
theorem firstN_succ (j : Nat) : upd (firstN j) j (some fun _ => 0) = firstN (j + 1) := by
  funext i
  unfold upd firstN
  by_cases h : i = j
  · subst h; simp
  · rw [if_neg h]
    by_cases h2 : i < j
    · rw [if_pos h2, if_pos (by omega)]
    · rw [if_neg h2, if_neg (by omega)]
theorem firstN_lt {j i : Nat} (h : i < j) : firstN j i = some fun _ => 0 := if_pos h
theorem firstN_ge {j i : Nat} (h : j ≤ i) : firstN j i = none := if_neg (by omega)
section
variable {W w : World} {p k : Nat} {A : Mm}
theorem Mo.below (h : Mo W w p k A) : Below W.heap.size W w := by obtain ⟨_, _, _, _, hb, _⟩ := h; exact hb
theorem mo_new (hb : Below W.heap.size W w) (n : Int) (k : Nat) (hk : min (max n 0) 512 = (k : Int)) :
    Calls Try.prog 8 #[.int .i64 n] w fun e w' => ∃ p, e = .returned (.pointer (some ⟨p, 0, none⟩)) ∧ Mo W w' p k (fun _ => none) :=
  (new_any n k hk w).mono fun _ _ ⟨p, g, b, S, he, hM, hb2, hS⟩ => ⟨p, he, S, g, b, hM, hb.trans (hb2.mono hb.size), fun x hx => Nat.le_trans hb.size (hS x hx)⟩
theorem mo_take (h : Mo W w p k A) (m : Nat) (hm : m < k) (h1 : ∀ i, i < m → A i ≠ none) (h2 : A m = none) : Calls Try.prog 9 #[.pointer (some ⟨p, 0, none⟩)] w fun e w' =>
    e = .returned (.tuple #[.int .i64 m, .int .i64 0]) ∧ Mo W w' p k (upd A m (some fun _ => 0)) := by
  obtain ⟨S, g, b, hM, hb, hS⟩ := h
  exact (take_free hM m hm h1 h2).mono fun _ _ ⟨he, hM2, hc⟩ => ⟨he, _, _, _, hM2, hb.trans (hc.below hS hb.size), fun x hx => hx.elim (hS x) (fun e => by have := hb.size; omega)⟩
theorem mo_full (h : Mo W w p k A) (h1 : ∀ i, i < k → A i ≠ none) : Calls Try.prog 9 #[.pointer (some ⟨p, 0, none⟩)] w fun e w' => e = .returned (.tuple #[.int .i64 0, .int .i64 9]) ∧ w' = w := by
  obtain ⟨S, g, b, hM, hb, hS⟩ := h
  exact take_full hM h1
theorem mo_store (h : Mo W w p k A) (i j : Nat) (f : Fr) (hA : A i = some f) (hj : j < 16) (v : Int) (hv : 0 ≤ v ∧ v < 256) : Calls Try.prog 11 #[.pointer (some ⟨p, 0, none⟩), .int .i64 i, .int .i64 j, .int .u8 v] w fun e w' =>
    e = .returned (.int .i64 0) ∧ Mo W w' p k (upd A i (some (upd f j v))) := by
  obtain ⟨S, g, b, hM, hb, hS⟩ := h
  exact (store_ok hM i j f hA hj v hv).mono fun _ _ ⟨he, hM2, hc⟩ => ⟨he, _, _, _, hM2, hb.trans (hc.below hS hb.size), hS⟩
theorem mo_free (h : Mo W w p k A) (i : Nat) (f : Fr) (hA : A i = some f) : Calls Try.prog 10 #[.pointer (some ⟨p, 0, none⟩), .int .i64 i] w fun e w' =>
    e = .returned (.int .i64 0) ∧ Mo W w' p k (upd A i none) := by
  obtain ⟨S, g, b, hM, hb, hS⟩ := h
  exact (free_ok hM i f hA).mono fun _ _ ⟨he, hM2, hc⟩ => ⟨he, _, _, _, hM2, hb.trans (hc.below hS hb.size), hS⟩
theorem mo_free_none (h : Mo W w p k A) (n : Int) (hA : at_ A n = none) : Calls Try.prog 10 #[.pointer (some ⟨p, 0, none⟩), .int .i64 n] w fun e w' => e = .returned (.int .i64 7) ∧ w' = w := by
  obtain ⟨S, g, b, hM, hb, hS⟩ := h
  exact free_none hM n hA
theorem mo_load (h : Mo W w p k A) (i j : Nat) (f : Fr) (hA : A i = some f) (hj : j < 16) (v : Int) (hv : f j = v) : Calls Try.prog 12 #[.pointer (some ⟨p, 0, none⟩), .int .i64 i, .int .i64 j] w fun e w' =>
    e = .returned (.tuple #[.int .u8 v, .int .i64 0]) ∧ w' = w := by
  obtain ⟨S, g, b, hM, hb, hS⟩ := h
  subst hv
  exact load_ok hM i j f hA hj
theorem mo_load_range (h : Mo W w p k A) (i : Nat) (off : Int) (f : Fr) (hA : A i = some f) (ho : off < 0 ∨ 16 ≤ off) : Calls Try.prog 12 #[.pointer (some ⟨p, 0, none⟩), .int .i64 i, .int .i64 off] w fun e w' =>
    e = .returned (.tuple #[.int .u8 0, .int .i64 11]) ∧ w' = w := by
  obtain ⟨S, g, b, hM, hb, hS⟩ := h
  exact load_range hM i off f hA ho
theorem mo_store_range (h : Mo W w p k A) (i : Nat) (off : Int) (f : Fr) (hA : A i = some f) (ho : off < 0 ∨ 16 ≤ off) (v : Int) : Calls Try.prog 11 #[.pointer (some ⟨p, 0, none⟩), .int .i64 i, .int .i64 off, .int .u8 v] w fun e w' =>
    e = .returned (.int .i64 11) ∧ w' = w := by
  obtain ⟨S, g, b, hM, hb, hS⟩ := h
  exact store_range hM i off f hA ho v
theorem mo_used (h : Mo W w p k A) (c : Nat) (hc : cnt A k = c) : Calls Try.prog 13 #[.pointer (some ⟨p, 0, none⟩)] w fun e w' => e = .returned (.int .i64 c) ∧ w' = w := by
  obtain ⟨S, g, b, hM, hb, hS⟩ := h
  exact used_any hM c hc
end
end Go.Proofs.Ytdnlldmpigfadaa
