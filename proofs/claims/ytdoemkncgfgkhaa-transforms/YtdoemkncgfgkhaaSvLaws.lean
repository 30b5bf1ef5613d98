/- What the walks over several labels of sets share. -/
import Derived.Test.YtdoemkncgfgkhaaSvBegun
namespace Go.Proofs.Ytdoemkncgfgkhaa
open Go.RowKit
set_option maxRecDepth 100000

theorem heap_boxes2 (w : World) (x y : Sv) : ∀ W, Below ((w.alloc (Obj.cells #[.slice x.a1 x.n1 x.c1, .slice x.a2 x.n2 x.c2, .slice x.a3 x.n3 x.c3] 27)).alloc (Obj.cells #[.slice y.a1 y.n1 y.c1, .slice y.a2 y.n2 y.c2, .slice y.a3 y.n3 y.c3] 27)).heap.size ((w.alloc (Obj.cells #[.slice x.a1 x.n1 x.c1, .slice x.a2 x.n2 x.c2, .slice x.a3 x.n3 x.c3] 27)).alloc (Obj.cells #[.slice y.a1 y.n1 y.c1, .slice y.a2 y.n2 y.c2, .slice y.a3 y.n3 y.c3] 27)) W → W.heap[w.heap.size]? = some (.cells #[.slice x.a1 x.n1 x.c1, .slice x.a2 x.n2 x.c2, .slice x.a3 x.n3 x.c3] 27 (0, 0)) ∧ W.heap[w.heap.size + 1]? = some (.cells #[.slice y.a1 y.n1 y.c1, .slice y.a2 y.n2 y.c2, .slice y.a3 y.n3 y.c3] 27 (0, 0)) ∧ Below w.heap.size w W := fun W h =>
  ⟨by rw [(ext_trans (below_alloc _ _) h).block _ (by simp)]; exact sv_heap_new_at _ _ _ rfl, by rw [h.block _ (by simp)]; exact sv_heap_new_at _ _ _ (by simp), ext_trans (sv_two_allocs _ _ _) h⟩
theorem heap_boxes3 (w : World) (x y z : Sv) : ∀ W, Below (((w.alloc (Obj.cells #[.slice x.a1 x.n1 x.c1, .slice x.a2 x.n2 x.c2, .slice x.a3 x.n3 x.c3] 27)).alloc (Obj.cells #[.slice y.a1 y.n1 y.c1, .slice y.a2 y.n2 y.c2, .slice y.a3 y.n3 y.c3] 27)).alloc (Obj.cells #[.slice z.a1 z.n1 z.c1, .slice z.a2 z.n2 z.c2, .slice z.a3 z.n3 z.c3] 27)).heap.size (((w.alloc (Obj.cells #[.slice x.a1 x.n1 x.c1, .slice x.a2 x.n2 x.c2, .slice x.a3 x.n3 x.c3] 27)).alloc (Obj.cells #[.slice y.a1 y.n1 y.c1, .slice y.a2 y.n2 y.c2, .slice y.a3 y.n3 y.c3] 27)).alloc (Obj.cells #[.slice z.a1 z.n1 z.c1, .slice z.a2 z.n2 z.c2, .slice z.a3 z.n3 z.c3] 27)) W → W.heap[w.heap.size]? = some (.cells #[.slice x.a1 x.n1 x.c1, .slice x.a2 x.n2 x.c2, .slice x.a3 x.n3 x.c3] 27 (0, 0)) ∧ W.heap[w.heap.size + 1]? = some (.cells #[.slice y.a1 y.n1 y.c1, .slice y.a2 y.n2 y.c2, .slice y.a3 y.n3 y.c3] 27 (0, 0)) ∧ W.heap[w.heap.size + 1 + 1]? = some (.cells #[.slice z.a1 z.n1 z.c1, .slice z.a2 z.n2 z.c2, .slice z.a3 z.n3 z.c3] 27 (0, 0)) ∧ Below w.heap.size w W := fun W h => by
  obtain ⟨h0, h1, h2⟩ := heap_boxes2 w x y W (ext_trans (below_alloc _ _) h)
  exact ⟨h0, h1, by rw [h.block _ (by simp)]; exact sv_heap_new_at _ _ _ (by simp), h2⟩
theorem heap_opened {W : World} {g : Nat} {x : Sv} (h : W.heap[g]? = some (.cells #[.slice x.a1 x.n1 x.c1, .slice x.a2 x.n2 x.c2, .slice x.a3 x.n3 x.c3] 27 (0, 0))) : (W.setCell ⟨g, 2, none⟩ (.slice none 0 0)).heap[g]? = some (.cells #[.slice x.a1 x.n1 x.c1, .slice x.a2 x.n2 x.c2, .slice none 0 0] 27 (0, 0)) := by
  rw [heap_setCell_same W g 2 _ 27 _ h]; rfl
theorem heap_else {W : World} {g k : Nat} {v : Value} {o : Obj} (h : W.heap[k]? = some o) (hne : k ≠ g) : (W.setCell ⟨g, 2, none⟩ v).heap[k]? = some o := by
  rw [Below.heap_setCell W ⟨g, 2, none⟩ v k (fun e => hne e)]; exact h
theorem refMay_is (q : Bool) {x : Sv} {w : World} (hx : x.In w) (hq : Hid (mayV x.xs x.ys x.zs = q)) :
    Calls Try.prog 11 #[.agg #[.slice x.a1 x.n1 x.c1, .slice x.a2 x.n2 x.c2, .slice x.a3 x.n3 x.c3]] w fun e w' => e = .returned (.bool q) ∧ Below w.heap.size w w' := by
  have := refMaySets_any x w hx
  rwa [hq.out] at this
theorem sflows_is (q : Bool) {x y : Sv} {w : World} (hx : x.In w) (hy : y.In w) (h1 : x.n1 + y.n1 ≤ 70368744177664) (h2 : y.n2 + x.n2 ≤ 70368744177664) (hq : Hid (x.flows y = q)) :
    Calls Try.prog 31 #[.agg #[.slice x.a1 x.n1 x.c1, .slice x.a2 x.n2 x.c2, .slice x.a3 x.n3 x.c3], .agg #[.slice y.a1 y.n1 y.c1, .slice y.a2 y.n2 y.c2, .slice y.a3 y.n3 y.c3]] w fun e w' => e = .returned (.bool q) ∧ Below w.heap.size w w' := by
  have := flowsS_any x y w hx hy h1 h2
  rwa [hq.out] at this
theorem refSame_is (q : Bool) {x y : Sv} {w : World} (hx : x.In w) (hy : y.In w) (hq : Hid (x.same y = q)) :
    Calls Try.prog 14 #[.agg #[.slice x.a1 x.n1 x.c1, .slice x.a2 x.n2 x.c2, .slice x.a3 x.n3 x.c3], .agg #[.slice y.a1 y.n1 y.c1, .slice y.a2 y.n2 y.c2, .slice y.a3 y.n3 y.c3]] w fun e w' => e = .returned (.bool q) ∧ Below w.heap.size w w' := by
  have := refSameS_any x y w hx hy
  rwa [hq.out] at this
/-- The same with a third length that is written out. -/
def Sv.zero3 (x : Sv) : Sv := { x with n3 := 0 }
theorem Sv.In.zero3 {x : Sv} {w : World} (h : x.In w) (h0 : x.n3 = 0) : x.zero3.In w := by
  have e : x.zero3 = x := by unfold Sv.zero3; rw [← h0]
  rw [e]; exact h
theorem MayP.len {x : Sv} {w : World} (h : MayP x.xs x.ys x.zs) (hx : x.In w) : x.n1 + x.n2 + x.n3 ≤ 16 := by
  have := h.2.2
  rwa [hx.r1.len, hx.r2.len, hx.r3.len] at this
end Go.Proofs.Ytdoemkncgfgkhaa
