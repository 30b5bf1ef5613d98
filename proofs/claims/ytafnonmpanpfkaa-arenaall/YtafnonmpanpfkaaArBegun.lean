/- arena does something: contract of the statements' own begun. -/
import Derived.Test.YtafnonmpanpfkaaArBytes
import Derived.Test.YtafnonmpanpfkaaArSize
import Derived.Test.YtafnonmpanpfkaaArDup
namespace Go.Proofs.Ytafnonmpanpfkaa
open Go.RowKit
set_option maxRecDepth 100000
set_option linter.unusedVariables false

/-- An arena that was made since w0. -/
def ArN (w0 w : World) (p : Nat) (v : Int) (T : Tx) (N : Nat) : Prop := ∃ S, Ar w S p v T N ∧ (∀ b, S b → w0.heap.size ≤ b) ∧ Below w0.heap.size w0 w
section
variable {w0 w w' : World} {p N : Nat} {v : Int} {T : Tx}
theorem ArN.below (h : ArN w0 w p v T N) (hb : Below w.heap.size w w') : ArN w0 w' p v T N := by
  obtain ⟨S, h1, h2, h3⟩ := h
  exact ⟨S, h1.below hb, h2, h3.trans (hb.mono h3.size)⟩
theorem ArN.new (h : ArN w0 w p v T N) : Below w0.heap.size w0 w := by
  obtain ⟨S, h1, h2, h3⟩ := h
  exact h3
theorem arn_new (v : Int) (w0 w : World) (hb : Below w0.heap.size w0 w) : Calls Try.prog 7 #[.int .u8 v] w fun e w' => e = .returned (.pointer (some ⟨w.heap.size, 0, none⟩)) ∧ ArN w0 w' w.heap.size v (fun _ => none) 0 ∧ Below w.heap.size w w' := by
  refine (new_any v w).mono ?_
  rintro e w1 ⟨rfl, hA, b1⟩
  have := hb.size
  exact ⟨rfl, ⟨_, hA, fun b h => h.elim False.elim (fun h => by omega), hb.trans (b1.mono hb.size)⟩, b1⟩
/-- A put of bytes that are an argument's or were laid anew. -/
theorem ArN.put (h : ArN w0 w p v T N) (hb : Below w.heap.size w w') (hN : N ≤ 274877906944) (c : Int) (hc : U c) {a : Option Addr} {n cap : Nat} {xs : List Int} (hr : Row w' a n cap xs) (hx : Rec v xs) (hd : ∀ y, a = some y → y.block < w0.heap.size ∨ w.heap.size ≤ y.block) :
    Calls Try.prog 9 #[.pointer (some ⟨p, 0, none⟩), .int .u64 c, .slice a n cap] w' fun e w2 => e = .returned (.int .i64 0) ∧ ArN w0 w2 p v (upT T c (some xs)) (N + 2) := by
  obtain ⟨S, h1, h2, h3⟩ := h
  refine (put_ok (h1.below hb) hN c hc hr hx (fun y hy hS => ?_)).mono ?_
  · rcases hd y hy with hd | hd
    · have := h2 _ hS; omega
    · have := h1.lt _ hS; omega
  rintro e w2 ⟨rfl, hA, t⟩
  have h4 := h3.trans (hb.mono h3.size)
  refine ⟨rfl, _, hA, fun b hb => hb.elim (h2 b) (fun hb => Nat.le_trans h4.size hb.1), ?_⟩
  exact ⟨t.os.trans h4.os, t.tape.trans h4.tape, t.output.trans h4.output, Nat.le_trans h4.size t.size, fun b hb => (t.block b (Nat.lt_of_lt_of_le hb h4.size) (fun hc => by have := h2 b hc; omega)).trans (h4.block b hb)⟩
theorem rec_two (x y : Int) : Rec x [x, y] := ⟨rfl, by simp⟩
set_option maxHeartbeats 2000000 in
theorem begun19_true (w : World) : Calls Try.prog 6 #[] w fun e w' => e = .returned (.bool true) ∧ Below w.heap.size w w' := by
  go_enter Try.func6, Try.ntmps6
  go_wp2_with fail
  refine (arn_new 1 w w (Below.refl _ _)).mono ?_
  rintro e w1 ⟨rfl, hA, b1⟩
  have hr1 := row_lit w1 5 [1, 9] 2 rfl (by omega) (byt_of _ rfl)
  have ha1 := below_alloc w1 (.cells #[.int .u8 1, .int .u8 9] 5)
  have hput := hA.put ha1 (by omega) 5 (by unfold U; omega) hr1 (rec_two 1 9) (fun y hy => .inr (by obtain rfl := Option.some.inj hy; exact Nat.le_refl _))
  clear hA hr1 ha1
  go_wp2_with fail
  refine hput.mono ?_
  rintro e w2 ⟨rfl, hA⟩
  clear hput
  have hr1 := row_lit w2 5 [2] 1 rfl (by omega) (byt_of _ rfl)
  have ha1 := below_alloc w2 (.cells #[.int .u8 2] 5)
  have hput : Calls Try.prog 9 #[.pointer (some ⟨w.heap.size, 0, none⟩), .int .u64 5, .slice (some ⟨w2.heap.size, 0, none⟩) 1 1] (w2.alloc (.cells #[.int .u8 2] 5)) fun e w3 => e = .returned (.int .i64 1) ∧ ArN w w3 w.heap.size 1 (upT (fun _ => none) 5 (some [1, 9])) (0 + 2) := by
    have hA1 := hA.below ha1
    obtain ⟨S, h1, h2, h3⟩ := id hA1
    refine (put_no h1 5 hr1 (by simp)).mono ?_
    rintro e w3 ⟨rfl, b⟩
    exact ⟨rfl, hA1.below b⟩
  clear hA hr1 ha1
  go_wp2_with fail
  refine hput.mono ?_
  rintro e w3 ⟨rfl, hA⟩
  clear hput
  obtain ⟨S, h1, h2, h3⟩ := hA
  have hL : Lst (upT (fun _ => none) 5 (some [1, 9])) [(5, [1, 9])] := (⟨by simp, fun i xs => by simp⟩ : Lst (fun _ => none) []).snoc (fun q hq => by simp at hq)
  go_wp2_with fail
  refine (get_ok h1 (by omega) (upT_same _ _ _)).mono ?_
  rintro e w4 ⟨a, n, cap, rfl, hle, b4⟩
  have hn : n = 2 := by have := hle.row.len; simpa using this.symm
  subst hn
  have k4 := h1.below b4
  go_wp2_with fail
  refine (size_any k4 (by omega) hL).mono ?_
  rintro e w5 ⟨rfl, b5⟩
  have k5 := k4.below b5
  have ht : tot [((5 : Int), ([1, 9] : List Int))] = 2 := rfl
  rw [ht]
  go_wp2_with fail
  refine (ids_any k5 (by omega) hL).mono ?_
  rintro e w6 ⟨ia, ic, rfl, hq, b6⟩
  have k6 := k5.below b6
  go_wp2_with fail
  refine (arbytes_any k6 (by omega) hL).mono ?_
  rintro e w7 ⟨ba, bm, bc, rfl, hb, b7⟩
  have hm : bm = 12 := hb.len.symm
  subst hm
  go_wp2_with fail
  go_ret
  have b8 := ext_trans (ext_trans b4 b5) (ext_trans b6 b7)
  exact ⟨rfl, h3.trans (b8.mono h3.size)⟩
end
end Go.Proofs.Ytafnonmpanpfkaa
