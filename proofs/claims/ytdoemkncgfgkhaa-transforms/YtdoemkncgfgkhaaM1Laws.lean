/- What the walks of the statements of layer 7 share. -/
import Derived.Test.YtdoemkncgfgkhaaM1Begun
namespace Go.Proofs.Ytdoemkncgfgkhaa
open Go.RowKit
set_option maxRecDepth 100000

theorem three_labs (w : World) (v0 v1 v2 v3 v4 v5 : Value) : ∀ W, Below (((w.alloc (Obj.cells #[v0, v1] 24)).alloc (Obj.cells #[v2, v3] 24)).alloc (Obj.cells #[v4, v5] 24)).heap.size (((w.alloc (Obj.cells #[v0, v1] 24)).alloc (Obj.cells #[v2, v3] 24)).alloc (Obj.cells #[v4, v5] 24)) W →
    W.cell? ⟨w.heap.size, 0, none⟩ = some v0 ∧ W.cell? ⟨w.heap.size, 1, none⟩ = some v1 ∧ W.cell? ⟨w.heap.size + 1, 0, none⟩ = some v2 ∧ W.cell? ⟨w.heap.size + 1, 1, none⟩ = some v3 ∧ W.cell? ⟨w.heap.size + 1 + 1, 0, none⟩ = some v4 ∧ W.cell? ⟨w.heap.size + 1 + 1, 1, none⟩ = some v5 ∧ Below w.heap.size w W := fun W h => by
  obtain ⟨h0, h1, h2, h3, hb⟩ := two_labs w v0 v1 v2 v3 W (ext_trans (below_alloc _ _) h)
  exact ⟨h0, h1, h2, h3, by rw [h.cell (by simp)]; exact cell_of_heap (heap_new_at _ _ _ (by simp)) 0 _ rfl, by rw [h.cell (by simp)]; exact cell_of_heap (heap_new_at _ _ _ (by simp)) 1 _ rfl, hb⟩
theorem may_lb {w : World} {d : Int} {a : Option Addr} {n cap : Nat} {xs : List (Int × Int)} (hd : 0 ≤ d) (h : RowG PE w a n cap xs) (hm : mayB d xs = true) : Lb w d a n cap xs ∧ 1 ≤ d := by
  obtain ⟨h1, h2, h3, h4⟩ := mayB_iff.1 hm
  exact ⟨⟨h, ⟨⟨hd, by omega⟩, fun p hp => ⟨(h.ok p hp).2.1, by have := (h3 p hp).1; omega⟩⟩, h4, by have := h.len; omega⟩, h1.1⟩
end Go.Proofs.Ytdoemkncgfgkhaa
