/- An arena copied: contract of Copy. -/
import Derived.Test.YtafnonmpanpfkaaArIDs
namespace Go.Proofs.Ytafnonmpanpfkaa
open Go.RowKit
set_option maxRecDepth 100000
set_option linter.unusedVariables false

theorem Lst.snoc {T : Tx} {l : List (Int × List Int)} (h : Lst T l) {i : Int} {xs : List Int} (hi : ∀ q ∈ l, q.1 < i) : Lst (upT T i (some xs)) (l ++ [(i, xs)]) := by
  refine ⟨?_, fun j ys => ?_⟩
  · rw [List.pairwise_append]
    exact ⟨h.up, by simp, fun q hq r hr => by simp at hr; subst hr; exact hi q hq⟩
  · by_cases e : j = i
    · subst e
      rw [upT_same]
      simp only [List.mem_append, List.mem_singleton, Prod.mk.injEq, true_and, Option.some.injEq]
      constructor
      · rintro (hq | hq)
        · have := hi _ hq; simp at this
        · exact hq.symm
      · intro hq
        exact .inr hq.symm
    · rw [upT_other _ _ e, ← h.mem]
      simp [e]
theorem Lst.fun_eq {T T' : Tx} {l : List (Int × List Int)} (h : Lst T l) (k : Lst T' l) : T = T' := by
  funext i
  cases hT : T i with
  | some xs => exact ((k.mem i xs).1 ((h.mem i xs).2 hT)).symm
  | none =>
    cases hT' : T' i with
    | none => rfl
    | some xs =>
      have := (h.mem i xs).1 ((k.mem i xs).2 hT')
      rw [hT] at this
      cases this
section
variable {w w' : World} {S : Nat → Prop} {p : Nat}
/-- Where Copy stands behind some records: B is the variable's block, q the new arena's. -/
def JC (w : World) (v : Int) (B q : Nat) (l : List (Int × List Int)) (W : World) : Prop := ∃ Sc T, Ar W Sc q v T (2 * l.length) ∧ Lst T l ∧ (∀ b, Sc b → w.heap.size ≤ b ∧ b ≠ B) ∧ W.heap[B]? = some (.cells #[.pointer (some ⟨q, 0, none⟩)] 24 (0, 0)) ∧ Below w.heap.size w W
theorem JC.below {v : Int} {B q : Nat} {W W' : World} {l : List (Int × List Int)} (h : JC w v B q l W) (hb : Below W.heap.size W W') : JC w v B q l W' := by
  obtain ⟨Sc, T, h1, h2, h3, h4, h5⟩ := h
  exact ⟨Sc, T, h1.below hb, h2, h3, (hb.block _ (Array.getElem?_eq_some_iff.1 h4).1).trans h4, h5.trans (hb.mono h5.size)⟩
set_option maxHeartbeats 1000000 in
theorem copy_step {v : Int} {B q : Nat} (l : List (Int × List Int)) (i : Int) (xs : List Int) (a : Option Addr) (n c : Nat) (W : World) (hl : l.length ≤ 34359738368) (hi : U i) (hlt : ∀ q ∈ l, q.1 < i) (hx : Rec v xs) (hr : Row W a n c xs) (ha : ∀ y, a = some y → y.block < w.heap.size) (h : JC w v B q l W) :
    Calls Try.prog 29 #[.int .u64 i, .slice a n c, .pointer (some ⟨B, 0, none⟩)] W fun e W' => e = .returned (.tuple #[]) ∧ JC w v B q (l ++ [(i, xs)]) W' := by
  obtain ⟨Sc, T, h1, h2, h3, h4, h5⟩ := h
  obtain ⟨c1, f1⟩ := cell_fz h4 0 _ rfl
  have hBl := (Array.getElem?_eq_some_iff.1 h4).1
  go_enter Try.func29, Try.ntmps29
  go_wp2_with fail
  refine (put_ok h1 (by omega) i hi hr hx (fun y hy hc => by have := ha y hy; have := (h3 _ hc).1; omega)).mono ?_
  rintro e w1 ⟨rfl, hA, t1⟩
  go_wp2_with fail
  go_end0
  have hs5 := h5.size
  refine ⟨rfl, gr Sc W w1, upT T i (some xs), ?_, h2.snoc hlt, fun b hb => ?_, ?_, ?_⟩
  · rw [List.length_append]
    exact hA
  · exact hb.elim (h3 b) (fun hb => ⟨by omega, by omega⟩)
  · rw [t1.block B hBl (fun hc => (h3 B hc).2 rfl)]
    exact h4
  · exact ⟨t1.os.trans h5.os, t1.tape.trans h5.tape, t1.output.trans h5.output, Nat.le_trans h5.size t1.size, fun b hb => (t1.block b (by omega) (fun hc => by have := (h3 b hc).1; omega)).trans (h5.block b hb)⟩
set_option maxHeartbeats 1000000 in
theorem dup_any {v : Int} {T : Tx} {N : Nat} (h : Ar w S p v T N) (hN : N ≤ 34359738) {ls : List (Int × List Int)} (hl : Lst T ls) :
    Calls Try.prog 15 #[.pointer (some ⟨p, 0, none⟩)] w fun e w' => ∃ q Sc, e = .returned (.pointer (some ⟨q, 0, none⟩)) ∧ Ar w' Sc q v T (2 * ls.length) ∧ (∀ b, Sc b → w.heap.size ≤ b) ∧ Below w.heap.size w w' := by
  obtain ⟨x, h, hv, hi⟩ := h
  have hls : says x.Sl x.rf = ls := hi.lst.eq hl
  have hbd : ls.length ≤ 34359738 := by rw [← hls]; have := says_len x.Sl x.rf; have := hi.bnd.1; omega
  have hrec : ∀ q ∈ ls, Rec v q.2 := fun q hq => hi.good q.1 q.2 ((hl.mem _ _).1 hq)
  have hst : ∀ (B q : Nat) (l r : List (Int × List Int)) (i : Int) (xs : List Int) (a : Option Addr) (n cap : Nat) (W : World), says x.Sl x.rf = l ++ (i, xs) :: r → JC w v B q l W → Row W a n cap xs → (∀ y, a = some y → S y.block) → U i →
      Calls Try.prog 29 #[.int .u64 i, .slice a n cap, .pointer (some ⟨B, 0, none⟩)] W fun e W' => e = .returned (.tuple #[]) ∧ JC w v B q (l ++ [(i, xs)]) W' := fun B q l r i xs a n cap W hs hJ hr ha hU => by
    rw [hls] at hs
    have hlen : ls.length = l.length + (r.length + 1) := by rw [hs]; simp
    have hup := hl.up
    rw [hs, List.pairwise_append] at hup
    exact copy_step l i xs a n cap W (by omega) hU (fun q hq => hup.2.2 q hq (i, xs) (by simp)) (hrec (i, xs) (by rw [hs]; simp)) hr (fun y hy => h.lt _ (ha y hy)) hJ
  have HST : Hid _ := hst
  have c0 := h.c0
  rw [hv] at c0
  clear hst
  go_enter Try.func15, Try.ntmps15
  go_wp2_with fail
  refine (new_any v w).mono ?_
  rintro e w1 ⟨rfl, hA, b1⟩
  have hb2 := below_alloc w1 (.cells #[.pointer (some ⟨w.heap.size, 0, none⟩)] 24)
  have h2 := (h.below b1).below hb2
  go_wp2_with fail
  refine (each_any h2 hi (by omega) 29 (some ⟨w1.heap.size, 0, none⟩) (enters_of Try.func29 (by kernel_rfl) rfl) (JC w v w1.heap.size w.heap.size) (fun l W hJ => h.below hJ.choose_spec.choose_spec.2.2.2.2) (fun l W W' hJ hb => hJ.below hb) ?_ (HST.out _ _)).mono ?_
  · exact ⟨_, _, hA.below hb2, ⟨by simp, fun i xs => by simp⟩, fun b hb => hb.elim False.elim (fun hb => ⟨hb.1, by omega⟩), heap_alloc_new _ _, ext_trans b1 hb2⟩
  rintro e w2 ⟨rfl, hJ⟩
  rw [hls] at hJ
  obtain ⟨Sc, T', q1, q2, q3, q4, q5⟩ := hJ
  obtain rfl := hl.fun_eq q2
  obtain ⟨c1, f1⟩ := cell_fz q4 0 _ rfl
  go_wp2_with fail
  go_ret
  exact ⟨_, Sc, rfl, q1, fun b hb => (q3 b hb).1, q5⟩
theorem dup_nil (w : World) : Calls Try.prog 15 #[.pointer none] w fun e w' => e = .returned (.pointer none) ∧ w' = w := by
  go_enter Try.func15, Try.ntmps15
  go_wp2_with fail
  go_ret
  exact ⟨rfl, rfl⟩
end
end Go.Proofs.Ytafnonmpanpfkaa
