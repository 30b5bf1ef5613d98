/- How many bytes all records have: contract of Size. -/
import Derived.Test.YtafnonmpanpfkaaArIDs
namespace Go.Proofs.Ytafnonmpanpfkaa
open Go.RowKit
set_option maxRecDepth 100000
set_option linter.unusedVariables false

def tot (l : List (Int × List Int)) : Nat := (l.map fun q => q.2.length).sum
theorem tot_snoc (l : List (Int × List Int)) (i : Int) (xs : List Int) : tot (l ++ [(i, xs)]) = tot l + xs.length := by simp [tot]
theorem tot_le {l : List (Int × List Int)} (h : ∀ q ∈ l, q.2.length ≤ 65535) : tot l ≤ 65535 * l.length := by
  induction l with
  | nil => simp [tot]
  | cons q l ih =>
    have h1 := h q (by simp)
    have h2 := ih fun q hq => h q (by simp [hq])
    have e : tot (q :: l) = q.2.length + tot l := by simp [tot]
    rw [e, List.length_cons]
    omega
section
variable {w w' : World} {S : Nat → Prop} {p : Nat}
def JZ (w : World) (l : List (Int × List Int)) (W : World) : Prop := W.heap[w.heap.size]? = some (.cells #[.int .i64 (tot l)] 3 (0, 0)) ∧ Below w.heap.size w W
theorem JZ.below {W W' : World} {l : List (Int × List Int)} (h : JZ w l W) (hb : Below W.heap.size W W') : JZ w l W' :=
  ⟨(hb.block _ (Array.getElem?_eq_some_iff.1 h.1).1).trans h.1, h.2.trans (hb.mono h.2.size)⟩
set_option maxHeartbeats 1000000 in
theorem size_step (l : List (Int × List Int)) (i : Int) (xs : List Int) (a : Option Addr) (n c : Nat) (W : World) (hb : tot l ≤ 4503599627370496) (hr : Row W a n c xs) (hn : n ≤ 65535) (h : JZ w l W) :
    Calls Try.prog 34 #[.int .u64 i, .slice a n c, .pointer (some ⟨w.heap.size, 0, none⟩)] W fun e W' => e = .returned (.tuple #[]) ∧ JZ w (l ++ [(i, xs)]) W' := by
  obtain ⟨h1, h3⟩ := h
  obtain ⟨c1, f1⟩ := cell_fz h1 0 _ rfl
  have hcap := hr.cap_le
  have hxn := hr.len
  obtain ⟨t, ht⟩ : ∃ t, t = tot l := ⟨_, rfl⟩
  rw [← ht] at h1 c1 hb
  have HT : Hid (t = tot l) := ht
  have HX : Hid (xs.length = n) := hxn
  clear ht hxn hr
  go_enter Try.func34, Try.ntmps34
  go_wp2_with fail
  go_end0
  refine ⟨rfl, ?_, h3.setCell (Nat.le_refl _) _⟩
  rw [tot_snoc, ← HT.out, HX.out]
  exact set_block h1
set_option maxHeartbeats 1000000 in
theorem size_any {v : Int} {T : Tx} {N : Nat} (h : Ar w S p v T N) (hN : N ≤ 34359738) {ls : List (Int × List Int)} (hl : Lst T ls) :
    Calls Try.prog 19 #[.pointer (some ⟨p, 0, none⟩)] w fun e w' => e = .returned (.int .i64 (tot ls)) ∧ Below w.heap.size w w' := by
  obtain ⟨x, h, hv, hi⟩ := h
  have hls : says x.Sl x.rf = ls := hi.lst.eq hl
  have hb0 := below_alloc w (.cells #[.int .i64 0] 3)
  have h1 := h.below hb0
  have hbd : ls.length ≤ 34359738 := by rw [← hls]; have := says_len x.Sl x.rf; have := hi.bnd.1; omega
  have hrec : ∀ q ∈ ls, q.2.length ≤ 65535 := fun q hq => (hi.good q.1 q.2 ((hl.mem _ _).1 hq)).2
  have hst : ∀ (l r : List (Int × List Int)) (i : Int) (xs : List Int) (a : Option Addr) (n cap : Nat) (W : World), says x.Sl x.rf = l ++ (i, xs) :: r → JZ w l W → Row W a n cap xs → (∀ y, a = some y → S y.block) → U i →
      Calls Try.prog 34 #[.int .u64 i, .slice a n cap, .pointer (some ⟨w.heap.size, 0, none⟩)] W fun e W' => e = .returned (.tuple #[]) ∧ JZ w (l ++ [(i, xs)]) W' := fun l r i xs a n cap W hs hJ hr ha hU => by
    rw [hls] at hs
    have hlen : ls.length = l.length + (r.length + 1) := by rw [hs]; simp
    have hx : xs.length ≤ 65535 := hrec (i, xs) (by rw [hs]; simp)
    have hrl := hr.len
    have := tot_le (l := l) (fun q hq => hrec q (by rw [hs]; simp [hq]))
    exact size_step l i xs a n cap W (by omega) hr (by omega) hJ
  go_enter Try.func19, Try.ntmps19
  go_wp2_with fail
  refine (each_any h1 hi (by omega) 34 (some ⟨w.heap.size, 0, none⟩) (enters_of Try.func34 (by kernel_rfl) rfl) (JZ w) (fun l W hJ => h.below hJ.2) (fun l W W' hJ hb => hJ.below hb) ⟨heap_alloc_new _ _, hb0⟩ hst).mono ?_
  rintro e w1 ⟨rfl, hJ⟩
  rw [hls] at hJ
  obtain ⟨q1, q3⟩ := hJ
  obtain ⟨c1, f1⟩ := cell_fz q1 0 _ rfl
  go_wp2_with fail
  go_ret
  exact ⟨rfl, q3⟩
theorem size_nil (w : World) : Calls Try.prog 19 #[.pointer none] w fun e w' => e = .returned (.int .i64 0) ∧ Below w.heap.size w w' := by
  have hb0 := below_alloc w (.cells #[.int .i64 0] 3)
  obtain ⟨c1, f1⟩ := cell_fz (heap_alloc_new w (.cells #[.int .i64 0] 3)) 0 _ rfl
  go_enter Try.func19, Try.ntmps19
  go_wp2_with fail
  refine (each_nil _ _).mono ?_
  rintro e w1 ⟨rfl, rfl⟩
  go_wp2_with fail
  go_ret
  exact ⟨rfl, hb0⟩
end
end Go.Proofs.Ytafnonmpanpfkaa
