/- Which ids have records: contract of IDs. -/
import Derived.Test.YtafnonmpanpfkaaArEach
import Derived.Test.YtafnonmpanpfkaaArEnc
import Derived.Shelf.Abstract
namespace Go.Proofs.Ytafnonmpanpfkaa
open Go.RowKit
set_option maxRecDepth 100000
set_option linter.unusedVariables false

section
variable {w w' : World} {S : Nat → Prop} {p : Nat}
theorem says_len (Sl : Nat → Slot) (rf : List Rf) : (says Sl rf).length ≤ rf.length := by
  unfold says
  rw [List.length_map]
  exact List.length_filter_le _ _
theorem set_block {W : World} {B : Nat} {u v : Value} {t : TypeId} (h : W.heap[B]? = some (.cells #[u] t (0, 0))) : (W.setCell ⟨B, 0, none⟩ v).heap[B]? = some (.cells #[v] t (0, 0)) := by
  simp [World.setCell, Array.getElem?_modify, h]
theorem grown_below {B : Nat} {w0 w w' : World} (h : Below B w0 w) (hB : B ≤ w.heap.size) {α : Type} {E : Enc α} {e : TypeId} {n cap : Nat} {a : Option Addr} {xs : List α} (ho : OwnG E e w B a n cap xs) (hg : w.grownBy w' (Value.slice a n cap).ownBlock) : Below B w0 w' :=
  h.grown hg hB (fun k hk => by
    rcases ho.cases with ⟨rfl, _⟩ | ⟨g, cur, rfl, hBg, _⟩
    · simp [Value.ownBlock] at hk
    · obtain rfl : g = k := by simpa [Value.ownBlock] using hk
      exact hBg)
/-- Where IDs stands behind some records. -/
def JI (w : World) (l : List (Int × List Int)) (W : World) : Prop := ∃ so cap, W.heap[w.heap.size]? = some (.cells #[.slice so l.length cap] 27 (0, 0)) ∧ OwnG EQ 31 W w.heap.size so l.length cap (l.map Prod.fst) ∧ Below w.heap.size w W
theorem JI.below {W W' : World} {l : List (Int × List Int)} (h : JI w l W) (hb : Below W.heap.size W W') : JI w l W' := by
  obtain ⟨so, cap, h1, h2, h3⟩ := h
  exact ⟨so, cap, (hb.block _ (Array.getElem?_eq_some_iff.1 h1).1).trans h1, h2.below hb, h3.trans (hb.mono h3.size)⟩
set_option maxHeartbeats 1000000 in
theorem ids_step (l : List (Int × List Int)) (i : Int) (xs : List Int) (v : Value) (W : World) (hl : l.length ≤ 1099511627776) (hi : U i) (h : JI w l W) :
    Calls Try.prog 33 #[.int .u64 i, v, .pointer (some ⟨w.heap.size, 0, none⟩)] W fun e W' => e = .returned (.tuple #[]) ∧ JI w (l ++ [(i, xs)]) W' := by
  obtain ⟨so, cap, h1, h2, h3⟩ := h
  obtain ⟨c1, f1⟩ := cell_fz h1 0 _ rfl
  have hs3 := h3.size
  have hba := below_alloc W (.cells #[.int .u64 i] 31)
  have o2 := h2.below hba
  have k1 := (hba.block _ (Array.getElem?_eq_some_iff.1 h1).1).trans h1
  have hrow : RowG EQ (W.alloc (.cells #[.int .u64 i] 31)) (some ⟨W.heap.size, 0, none⟩) 1 1 [i] := (owng_lit EQ _ 31 [i] _ rfl 1 rfl (by omega) (Enc.Ok.one hi) _ 0 rfl (by omega)).row
  have hB : w.heap.size ≤ (W.alloc (.cells #[.int .u64 i] 31)).heap.size := Nat.le_trans hs3 hba.size
  go_enter Try.func33, Try.ntmps33
  go_wp2_with (at_builtin; refine wp_append_h _ rfl (.tmp 5) (.tmp 7) 27 rfl 31 Try.underlying27 _ _ infoEQ rfl w.heap.size l.length cap so (l.map Prod.fst) rfl o2 _ 1 1 [i] rfl hrow (by omega) hB ?_; intro so' cap' w2 ow g2 a2; obtain ⟨q1, q2⟩ := cell_fz ((Far.block ⟨g2, o2.ty⟩ k1 (by decide)).trans k1) 0 _ rfl)
  go_end0
  refine ⟨rfl, so', cap', ?_, ?_, ?_⟩
  · rw [List.length_append]
    exact set_block ((Far.block ⟨g2, o2.ty⟩ k1 (by decide)).trans k1)
  · rw [List.length_append, List.map_append]
    exact ow.far (Far.set (w := w2) ⟨w.heap.size, 0, none⟩ _ ((Far.block ⟨g2, o2.ty⟩ k1 (by decide)).trans k1)) (by decide)
  · exact (grown_below (h3.trans (hba.mono hs3)) hB o2 g2).setCell (Nat.le_refl _) _
set_option maxHeartbeats 1000000 in
theorem ids_any {v : Int} {T : Tx} {N : Nat} (h : Ar w S p v T N) (hN : N ≤ 34359738368) {ls : List (Int × List Int)} (hl : Lst T ls) :
    Calls Try.prog 18 #[.pointer (some ⟨p, 0, none⟩)] w fun e w' => ∃ a cap, e = .returned (.slice a ls.length cap) ∧ RowQ w' a ls.length cap (ls.map Prod.fst) ∧ Below w.heap.size w w' := by
  obtain ⟨x, h, hv, hi⟩ := h
  have hls : says x.Sl x.rf = ls := hi.lst.eq hl
  have hb0 := below_alloc w (.cells #[.slice none 0 0] 27)
  have h1 := h.below hb0
  have hbd : ls.length ≤ 34359738368 := by rw [← hls]; have := says_len x.Sl x.rf; have := hi.bnd.1; omega
  have hlen : ∀ (l r : List (Int × List Int)) (q : Int × List Int), says x.Sl x.rf = l ++ q :: r → l.length ≤ 1099511627776 := fun l r q hs => by
    rw [hls] at hs
    have : ls.length = l.length + (r.length + 1) := by rw [hs]; simp
    omega
  have hst : ∀ (l r : List (Int × List Int)) (i : Int) (xs : List Int) (a : Option Addr) (n cap : Nat) (W : World), says x.Sl x.rf = l ++ (i, xs) :: r → JI w l W → Row W a n cap xs → (∀ y, a = some y → S y.block) → U i →
      Calls Try.prog 33 #[.int .u64 i, .slice a n cap, .pointer (some ⟨w.heap.size, 0, none⟩)] W fun e W' => e = .returned (.tuple #[]) ∧ JI w (l ++ [(i, xs)]) W' := fun l r i xs a n cap W hs hJ _ _ hU => ids_step l i xs _ W (hlen l r _ hs) hU hJ
  go_enter Try.func18, Try.ntmps18
  go_wp2_with fail
  refine (each_any h1 hi hN 33 (some ⟨w.heap.size, 0, none⟩) (enters_of Try.func33 (by kernel_rfl) rfl) (JI w) (fun l W hJ => h.below hJ.choose_spec.choose_spec.2.2) (fun l W W' hJ hb => hJ.below hb) ⟨none, 0, heap_alloc_new _ _, OwnG.of_nil _ _ _ _, hb0⟩ hst).mono ?_
  rintro e w1 ⟨rfl, hJ⟩
  rw [hls] at hJ
  obtain ⟨so, cap, q1, q2, q3⟩ := hJ
  obtain ⟨c1, f1⟩ := cell_fz q1 0 _ rfl
  go_wp2_with fail
  go_ret
  exact ⟨so, cap, rfl, q2.row.q, q3⟩
theorem ids_nil (w : World) : Calls Try.prog 18 #[.pointer none] w fun e w' => e = .returned (.slice none 0 0) ∧ Below w.heap.size w w' := by
  have hb0 := below_alloc w (.cells #[.slice none 0 0] 27)
  obtain ⟨c1, f1⟩ := cell_fz (heap_alloc_new w (.cells #[.slice none 0 0] 27)) 0 _ rfl
  go_enter Try.func18, Try.ntmps18
  go_wp2_with fail
  refine (each_nil _ _).mono ?_
  rintro e w1 ⟨rfl, rfl⟩
  go_wp2_with fail
  go_ret
  exact ⟨rfl, hb0⟩
end
end Go.Proofs.Ytafnonmpanpfkaa
