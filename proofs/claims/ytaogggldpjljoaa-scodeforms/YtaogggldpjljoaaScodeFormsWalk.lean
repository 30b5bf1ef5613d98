/- ScodeForms walked: it answers true, and turns nothing that was there. -/
import Derived.Test.YtaogggldpjljoaaScBegun
namespace Go.Proofs.Ytaogggldpjljoaa
open Go.RowKit
set_option linter.unusedVariables false

set_option maxHeartbeats 8000000 in
theorem scodeForms_walk (w : World) : Calls Try.prog 6 #[] w fun e w' => e = .returned (.bool true) ∧ Below w.heap.size w w' := by
  go_enter Try.func6, Try.ntmps6
  go_wp2_with fail
  refine (begun9_true _).mono ?_
  rintro e w1 ⟨rfl, b1⟩
  go_wp2_with fail
  refine (stake_any (some ⟨w1.heap.size, 0, none⟩) 3 3 [0, 0, 0] _ (row_lit_at w1 w1.heap.size (by simp) 5 [0, 0, 0] 3 rfl (by omega) (byt_of _ rfl)) (by omega)).mono ?_
  rintro e v0 ⟨x0, rfl, i0, l0, t0⟩
  rw [show svN [0, 0, 0] = 3 by decide +kernel, show svE [0, 0, 0] = 0 by decide +kernel]
  have b2 := ext_trans b1 (ext_trans (ext_trans (below_alloc w1 _) t0) (below_alloc v0 (Obj.cells #[.slice x0.a1 x0.n1 x0.c1, .slice x0.a2 x0.n2 x0.c2, .slice x0.a3 x0.n3 x0.c3] 24)))
  clear l0 i0 b1 t0
  go_wp2_with fail
  refine (stake_any (some ⟨(v0.heap.size + 1), 0, none⟩) 2 2 [0, 0] _ (row_lit_at (v0.alloc (Obj.cells #[.slice x0.a1 x0.n1 x0.c1, .slice x0.a2 x0.n2 x0.c2, .slice x0.a3 x0.n3 x0.c3] 24)) (v0.heap.size + 1) (by simp) 5 [0, 0] 2 rfl (by omega) (byt_of _ rfl)) (by omega)).mono ?_
  rintro e v1 ⟨x1, rfl, i1, l1, t1⟩
  rw [show svN [0, 0] = 0 by decide +kernel, show svE [0, 0] = 3 by decide +kernel]
  have b3 := ext_trans b2 (ext_trans (ext_trans (below_alloc (v0.alloc (Obj.cells #[.slice x0.a1 x0.n1 x0.c1, .slice x0.a2 x0.n2 x0.c2, .slice x0.a3 x0.n3 x0.c3] 24)) _) t1) (below_alloc v1 (Obj.cells #[.slice x1.a1 x1.n1 x1.c1, .slice x1.a2 x1.n2 x1.c2, .slice x1.a3 x1.n3 x1.c3] 24)))
  clear l1 i1 b2 t1
  go_wp2_with fail
  refine (stake_any (some ⟨(v1.heap.size + 1), 0, none⟩) 7 7 [1, 0, 3, 1, 0, 3, 0] _ (row_lit_at (v1.alloc (Obj.cells #[.slice x1.a1 x1.n1 x1.c1, .slice x1.a2 x1.n2 x1.c2, .slice x1.a3 x1.n3 x1.c3] 24)) (v1.heap.size + 1) (by simp) 5 [1, 0, 3, 1, 0, 3, 0] 7 rfl (by omega) (byt_of _ rfl)) (by omega)).mono ?_
  rintro e v2 ⟨x2, rfl, i2, l2, t2⟩
  rw [show svN [1, 0, 3, 1, 0, 3, 0] = 0 by decide +kernel, show svE [1, 0, 3, 1, 0, 3, 0] = 2 by decide +kernel]
  have b4 := ext_trans b3 (ext_trans (ext_trans (below_alloc (v1.alloc (Obj.cells #[.slice x1.a1 x1.n1 x1.c1, .slice x1.a2 x1.n2 x1.c2, .slice x1.a3 x1.n3 x1.c3] 24)) _) t2) (below_alloc v2 (Obj.cells #[.slice x2.a1 x2.n1 x2.c1, .slice x2.a2 x2.n2 x2.c2, .slice x2.a3 x2.n3 x2.c3] 24)))
  clear l2 i2 b3 t2
  go_wp2_with fail
  refine (stake_any (some ⟨(v2.heap.size + 1), 0, none⟩) 7 7 [2, 0, 3, 0, 3, 0, 0] _ (row_lit_at (v2.alloc (Obj.cells #[.slice x2.a1 x2.n1 x2.c1, .slice x2.a2 x2.n2 x2.c2, .slice x2.a3 x2.n3 x2.c3] 24)) (v2.heap.size + 1) (by simp) 5 [2, 0, 3, 0, 3, 0, 0] 7 rfl (by omega) (byt_of _ rfl)) (by omega)).mono ?_
  rintro e v3 ⟨x3, rfl, i3, l3, t3⟩
  rw [show svN [2, 0, 3, 0, 3, 0, 0] = 0 by decide +kernel, show svE [2, 0, 3, 0, 3, 0, 0] = 2 by decide +kernel]
  have b5 := ext_trans b4 (ext_trans (ext_trans (below_alloc (v2.alloc (Obj.cells #[.slice x2.a1 x2.n1 x2.c1, .slice x2.a2 x2.n2 x2.c2, .slice x2.a3 x2.n3 x2.c3] 24)) _) t3) (below_alloc v3 (Obj.cells #[.slice x3.a1 x3.n1 x3.c1, .slice x3.a2 x3.n2 x3.c2, .slice x3.a3 x3.n3 x3.c3] 24)))
  clear l3 i3 b4 t3
  go_wp2_with fail
  refine (stake_any (some ⟨(v3.heap.size + 1), 0, none⟩) 10 10 [1, 0, 3, 1, 0, 4, 1, 0, 5, 7] _ (row_lit_at (v3.alloc (Obj.cells #[.slice x3.a1 x3.n1 x3.c1, .slice x3.a2 x3.n2 x3.c2, .slice x3.a3 x3.n3 x3.c3] 24)) (v3.heap.size + 1) (by simp) 5 [1, 0, 3, 1, 0, 4, 1, 0, 5, 7] 10 rfl (by omega) (byt_of _ rfl)) (by omega)).mono ?_
  rintro e v4 ⟨x4, rfl, i4, l4, t4⟩
  rw [show svN [1, 0, 3, 1, 0, 4, 1, 0, 5, 7] = 9 by decide +kernel, show svE [1, 0, 3, 1, 0, 4, 1, 0, 5, 7] = 0 by decide +kernel]
  have b6 := ext_trans b5 (ext_trans (ext_trans (below_alloc (v3.alloc (Obj.cells #[.slice x3.a1 x3.n1 x3.c1, .slice x3.a2 x3.n2 x3.c2, .slice x3.a3 x3.n3 x3.c3] 24)) _) t4) (below_alloc v4 (Obj.cells #[.slice x4.a1 x4.n1 x4.c1, .slice x4.a2 x4.n2 x4.c2, .slice x4.a3 x4.n3 x4.c3] 24)))
  have HZ : Hid (x4.zs = [5]) := by show _ = _; rw [l4.2.2]; decide +kernel
  have HN : Hid (x4.n3 = 1) := by show _ = _; rw [← i4.r3.len, HZ.out]; rfl
  have r3 := i4.r3
  have bx := Boxed.new v4 x4
  clear b5 i4 l4
  go_wp2_with fail
  refine (stake_any (some ⟨(v4.heap.size + 1), 0, none⟩) 5 5 [1, 0, 3, 1, 0] _ (row_lit_at (v4.alloc (Obj.cells #[.slice x4.a1 x4.n1 x4.c1, .slice x4.a2 x4.n2 x4.c2, .slice x4.a3 x4.n3 x4.c3] 24)) (v4.heap.size + 1) (by simp) 5 [1, 0, 3, 1, 0] 5 rfl (by omega) (byt_of _ rfl)) (by omega)).mono ?_
  rintro e v5 ⟨x5, rfl, i5, l5, t5⟩
  rw [show svN [1, 0, 3, 1, 0] = 0 by decide +kernel, show svE [1, 0, 3, 1, 0] = 3 by decide +kernel]
  have b7 := ext_trans b6 (ext_trans (ext_trans (below_alloc (v4.alloc (Obj.cells #[.slice x4.a1 x4.n1 x4.c1, .slice x4.a2 x4.n2 x4.c2, .slice x4.a3 x4.n3 x4.c3] 24)) _) t5) (below_alloc v5 (Obj.cells #[.slice x5.a1 x5.n1 x5.c1, .slice x5.a2 x5.n2 x5.c2, .slice x5.a3 x5.n3 x5.c3] 24)))
  have by5 := bx.below (ext_trans (ext_trans (below_alloc _ _) t5) (below_alloc v5 (Obj.cells #[.slice x5.a1 x5.n1 x5.c1, .slice x5.a2 x5.n2 x5.c2, .slice x5.a3 x5.n3 x5.c3] 24)))
  have r5 := r3.below (ext_trans (ext_trans (below_alloc v4 (Obj.cells #[.slice x4.a1 x4.n1 x4.c1, .slice x4.a2 x4.n2 x4.c2, .slice x4.a3 x4.n3 x4.c3] 24)) (ext_trans (below_alloc _ _) t5)) (below_alloc v5 (Obj.cells #[.slice x5.a1 x5.n1 x5.c1, .slice x5.a2 x5.n2 x5.c2, .slice x5.a3 x5.n3 x5.c3] 24)))
  have hn3 := HN.out
  rw [hn3, HZ.out] at r5
  obtain ⟨bb, off, ha, hc⟩ := r5.at (by omega)
  obtain ⟨_, _, y2⟩ := by5
  have c5 := hc 0 (by omega)
  rw [ha, hn3] at y2
  rw [Nat.add_zero] at c5
  replace c5 : _ = some (Value.int .u16 5) := c5
  clear hc ha hn3 HZ HN r5 r3 bx
  clear l5 i5 b6 t4
  go_wp2_with fail
  go_ret
  exact ⟨rfl, b7⟩
end Go.Proofs.Ytaogggldpjljoaa
