/- 'begun' answers true, whatever the world. -/
import Derived.Test.YtdnlldmpigfadaaFrOps
namespace Go.Proofs.Ytdnlldmpigfadaa
open Go.RowKit

theorem ext_trans' {a b c : World} (h : Below a.heap.size a b) (k : Below b.heap.size b c) : Below a.heap.size a c := h.trans (k.mono h.size)
set_option maxHeartbeats 400000 in
theorem begun12_true (w : World) : Calls Try.prog 7 #[] w fun e w' => e = .returned (.bool true) ∧ Below w.heap.size w w' := by
  go_enter Try.func7, Try.ntmps7
  go_wp2_with fail
  refine (new_any 2 2 rfl _).mono ?_
  rintro e w1 ⟨p, g, b1, S1, rfl, hM1, hb1, hS1⟩
  go_wp2_with fail
  refine (take_free hM1 0 (by omega) (fun i hi => by omega) rfl).mono ?_
  rintro e w2 ⟨rfl, hM2, hc2⟩
  have hb2 : Below w.heap.size w w2 := hb1.trans (hc2.below hS1 hb1.size)
  have hS2 : ∀ x, (S1 x ∨ x = w1.heap.size) → w.heap.size ≤ x := fun x hx => hx.elim (hS1 x) (fun e => by have := hb1.size; omega)
  clear hM1 hc2 hb1 hS1
  go_wp2_with fail
  refine (store_ok hM2 0 3 _ (upd_same _ _ _) (by omega) 7 (by omega)).mono ?_
  rintro e w3 ⟨rfl, hM3, hc3⟩
  have hb3 : Below w.heap.size w w3 := hb2.trans (hc3.below hS2 hb2.size)
  clear hM2 hc3 hb2 hS2
  go_wp2_with fail
  refine (load_ok hM3 0 3 _ (upd_same _ _ _) (by omega)).mono ?_
  rintro e w4 ⟨rfl, rfl⟩
  rw [upd_same]
  go_wp2_with fail
  refine (load_none hM3 1 0 rfl).mono ?_
  rintro e w5 ⟨rfl, rfl⟩
  go_wp2_with fail
  refine (used_any hM3 1 rfl).mono ?_
  rintro e w6 ⟨rfl, rfl⟩
  go_wp2_with fail
  go_ret
  exact ⟨rfl, hb3⟩
end Go.Proofs.Ytdnlldmpigfadaa
