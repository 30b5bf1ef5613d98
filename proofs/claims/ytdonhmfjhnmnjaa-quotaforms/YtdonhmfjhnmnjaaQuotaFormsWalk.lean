/- What quota answers of things written out: the closed law. -/
import Derived.Test.YtdonhmfjhnmnjaaQtBegun
namespace Go.Proofs.Ytdonhmfjhnmnjaa
open Go.RowKit
set_option maxRecDepth 100000

set_option maxHeartbeats 4000000 in
theorem quotaForms_walk (w : World) : Calls Try.prog 5 #[] w fun e w' => e = .returned (.bool true) ∧ Below w.heap.size w w' := by
  go_enter Try.func5, Try.ntmps5
  go_wp2_with fail
  refine (begun15_true _).mono ?_
  rintro e w1 ⟨rfl, b⟩
  go_wp2_with fail
  have a0 := OvAt.new w1 0 1 0 10 3 0
  replace b := ext_trans b (below_alloc w1 (.cells #[.int .u64 0, .int .i64 1, .int .u8 0, .slice none 0 0, .slice none 0 0, .slice none 0 0, .slice none 0 0, .int .i64 10, .int .i64 3, .int .i64 0, .slice none 0 0, .slice none 0 0, .slice none 0 0] 32))
  refine (add_nil 0 1 0 10 3 0 7 _ (by omega) (by unfold I64; omega)).mono ?_
  rintro e w2 ⟨rfl, b'⟩
  rw [show addB 0 1 0 10 3 0 7 = ov 0 1 0 10 10 0 from rfl, show addE 10 3 7 = 0 from rfl]
  replace b := ext_trans b b'
  replace a0 := a0.below b'
  clear b'
  have a0l := a0.lt
  obtain ⟨a0c0, a0c1, a0c2, a0c3, a0c4, a0c5, a0c6, a0c7, a0c8, a0c9, a0c10, a0c11, a0c12⟩ := a0.cells
  go_wp2_with fail
  replace a0 := a0.alloc (.cells #[.int .u64 0, .int .i64 1, .int .u8 0, .slice none 0 0, .slice none 0 0, .slice none 0 0, .slice none 0 0, .int .i64 10, .int .i64 10, .int .i64 0, .slice none 0 0, .slice none 0 0, .slice none 0 0] 32)
  replace b := ext_trans b (below_alloc _ (.cells #[.int .u64 0, .int .i64 1, .int .u8 0, .slice none 0 0, .slice none 0 0, .slice none 0 0, .slice none 0 0, .int .i64 10, .int .i64 10, .int .i64 0, .slice none 0 0, .slice none 0 0, .slice none 0 0] 32))
  have a1 := OvAt.new w2 0 1 0 10 10 0
  refine (add_nil 0 1 0 10 3 0 8 _ (by omega) (by unfold I64; omega)).mono ?_
  rintro e w3 ⟨rfl, b'⟩
  rw [show addB 0 1 0 10 3 0 8 = ov 0 0 0 0 0 0 from rfl, show addE 10 3 8 = 10 from rfl]
  replace b := ext_trans b b'
  replace a0 := a0.below b'
  replace a1 := a1.below b'
  clear b'
  clear a0l a0c0 a0c1 a0c2 a0c3 a0c4 a0c5 a0c6 a0c7 a0c8 a0c9 a0c10 a0c11 a0c12
  have a0l := a0.lt
  obtain ⟨a0c0, a0c1, a0c2, a0c3, a0c4, a0c5, a0c6, a0c7, a0c8, a0c9, a0c10, a0c11, a0c12⟩ := a0.cells
  go_wp2_with fail
  replace a0 := a0.alloc (.cells #[.int .u64 0, .int .i64 0, .int .u8 0, .slice none 0 0, .slice none 0 0, .slice none 0 0, .slice none 0 0, .int .i64 0, .int .i64 0, .int .i64 0, .slice none 0 0, .slice none 0 0, .slice none 0 0] 32)
  replace a1 := a1.alloc (.cells #[.int .u64 0, .int .i64 0, .int .u8 0, .slice none 0 0, .slice none 0 0, .slice none 0 0, .slice none 0 0, .int .i64 0, .int .i64 0, .int .i64 0, .slice none 0 0, .slice none 0 0, .slice none 0 0] 32)
  replace b := ext_trans b (below_alloc _ (.cells #[.int .u64 0, .int .i64 0, .int .u8 0, .slice none 0 0, .slice none 0 0, .slice none 0 0, .slice none 0 0, .int .i64 0, .int .i64 0, .int .i64 0, .slice none 0 0, .slice none 0 0, .slice none 0 0] 32))
  have a2 := OvAt.new w3 0 0 0 0 0 0
  refine (add_nil 0 1 0 10 3 0 (-1) _ (by omega) (by unfold I64; omega)).mono ?_
  rintro e w4 ⟨rfl, b'⟩
  rw [show addB 0 1 0 10 3 0 (-1) = ov 0 0 0 0 0 0 from rfl, show addE 10 3 (-1) = 1 from rfl]
  replace b := ext_trans b b'
  replace a0 := a0.below b'
  replace a1 := a1.below b'
  replace a2 := a2.below b'
  clear b'
  clear a0l a0c0 a0c1 a0c2 a0c3 a0c4 a0c5 a0c6 a0c7 a0c8 a0c9 a0c10 a0c11 a0c12
  have a0l := a0.lt
  obtain ⟨a0c0, a0c1, a0c2, a0c3, a0c4, a0c5, a0c6, a0c7, a0c8, a0c9, a0c10, a0c11, a0c12⟩ := a0.cells
  go_wp2_with fail
  replace a0 := a0.alloc (.cells #[.int .u64 0, .int .i64 0, .int .u8 0, .slice none 0 0, .slice none 0 0, .slice none 0 0, .slice none 0 0, .int .i64 0, .int .i64 0, .int .i64 0, .slice none 0 0, .slice none 0 0, .slice none 0 0] 32)
  replace a1 := a1.alloc (.cells #[.int .u64 0, .int .i64 0, .int .u8 0, .slice none 0 0, .slice none 0 0, .slice none 0 0, .slice none 0 0, .int .i64 0, .int .i64 0, .int .i64 0, .slice none 0 0, .slice none 0 0, .slice none 0 0] 32)
  replace a2 := a2.alloc (.cells #[.int .u64 0, .int .i64 0, .int .u8 0, .slice none 0 0, .slice none 0 0, .slice none 0 0, .slice none 0 0, .int .i64 0, .int .i64 0, .int .i64 0, .slice none 0 0, .slice none 0 0, .slice none 0 0] 32)
  replace b := ext_trans b (below_alloc _ (.cells #[.int .u64 0, .int .i64 0, .int .u8 0, .slice none 0 0, .slice none 0 0, .slice none 0 0, .slice none 0 0, .int .i64 0, .int .i64 0, .int .i64 0, .slice none 0 0, .slice none 0 0, .slice none 0 0] 32))
  have a3 := OvAt.new w4 0 0 0 0 0 0
  refine (add_nil 0 1 0 10 3 0 0 _ (by omega) (by unfold I64; omega)).mono ?_
  rintro e w5 ⟨rfl, b'⟩
  rw [show addB 0 1 0 10 3 0 0 = ov 0 1 0 10 3 0 from rfl, show addE 10 3 0 = 0 from rfl]
  replace b := ext_trans b b'
  replace a0 := a0.below b'
  replace a1 := a1.below b'
  replace a2 := a2.below b'
  replace a3 := a3.below b'
  clear b'
  clear a0l a0c0 a0c1 a0c2 a0c3 a0c4 a0c5 a0c6 a0c7 a0c8 a0c9 a0c10 a0c11 a0c12
  have a0l := a0.lt
  obtain ⟨a0c0, a0c1, a0c2, a0c3, a0c4, a0c5, a0c6, a0c7, a0c8, a0c9, a0c10, a0c11, a0c12⟩ := a0.cells
  go_wp2_with fail
  replace a0 := a0.alloc (.cells #[.int .u64 0, .int .i64 1, .int .u8 0, .slice none 0 0, .slice none 0 0, .slice none 0 0, .slice none 0 0, .int .i64 10, .int .i64 3, .int .i64 0, .slice none 0 0, .slice none 0 0, .slice none 0 0] 32)
  replace a1 := a1.alloc (.cells #[.int .u64 0, .int .i64 1, .int .u8 0, .slice none 0 0, .slice none 0 0, .slice none 0 0, .slice none 0 0, .int .i64 10, .int .i64 3, .int .i64 0, .slice none 0 0, .slice none 0 0, .slice none 0 0] 32)
  replace a2 := a2.alloc (.cells #[.int .u64 0, .int .i64 1, .int .u8 0, .slice none 0 0, .slice none 0 0, .slice none 0 0, .slice none 0 0, .int .i64 10, .int .i64 3, .int .i64 0, .slice none 0 0, .slice none 0 0, .slice none 0 0] 32)
  replace a3 := a3.alloc (.cells #[.int .u64 0, .int .i64 1, .int .u8 0, .slice none 0 0, .slice none 0 0, .slice none 0 0, .slice none 0 0, .int .i64 10, .int .i64 3, .int .i64 0, .slice none 0 0, .slice none 0 0, .slice none 0 0] 32)
  replace b := ext_trans b (below_alloc _ (.cells #[.int .u64 0, .int .i64 1, .int .u8 0, .slice none 0 0, .slice none 0 0, .slice none 0 0, .slice none 0 0, .int .i64 10, .int .i64 3, .int .i64 0, .slice none 0 0, .slice none 0 0, .slice none 0 0] 32))
  have a4 := OvAt.new w5 0 1 0 10 3 0
  refine (add_nil 0 1 0 10 3 0 9223372036854775807 _ (by omega) (by unfold I64; omega)).mono ?_
  rintro e w6 ⟨rfl, b'⟩
  rw [show addB 0 1 0 10 3 0 9223372036854775807 = ov 0 0 0 0 0 0 from rfl, show addE 10 3 9223372036854775807 = 10 from rfl]
  replace b := ext_trans b b'
  replace a0 := a0.below b'
  replace a1 := a1.below b'
  replace a2 := a2.below b'
  replace a3 := a3.below b'
  replace a4 := a4.below b'
  clear b'
  clear a0l a0c0 a0c1 a0c2 a0c3 a0c4 a0c5 a0c6 a0c7 a0c8 a0c9 a0c10 a0c11 a0c12
  have a0l := a0.lt
  obtain ⟨a0c0, a0c1, a0c2, a0c3, a0c4, a0c5, a0c6, a0c7, a0c8, a0c9, a0c10, a0c11, a0c12⟩ := a0.cells
  go_wp2_with fail
  replace a0 := a0.alloc (.cells #[.int .u64 0, .int .i64 0, .int .u8 0, .slice none 0 0, .slice none 0 0, .slice none 0 0, .slice none 0 0, .int .i64 0, .int .i64 0, .int .i64 0, .slice none 0 0, .slice none 0 0, .slice none 0 0] 32)
  replace a1 := a1.alloc (.cells #[.int .u64 0, .int .i64 0, .int .u8 0, .slice none 0 0, .slice none 0 0, .slice none 0 0, .slice none 0 0, .int .i64 0, .int .i64 0, .int .i64 0, .slice none 0 0, .slice none 0 0, .slice none 0 0] 32)
  replace a2 := a2.alloc (.cells #[.int .u64 0, .int .i64 0, .int .u8 0, .slice none 0 0, .slice none 0 0, .slice none 0 0, .slice none 0 0, .int .i64 0, .int .i64 0, .int .i64 0, .slice none 0 0, .slice none 0 0, .slice none 0 0] 32)
  replace a3 := a3.alloc (.cells #[.int .u64 0, .int .i64 0, .int .u8 0, .slice none 0 0, .slice none 0 0, .slice none 0 0, .slice none 0 0, .int .i64 0, .int .i64 0, .int .i64 0, .slice none 0 0, .slice none 0 0, .slice none 0 0] 32)
  replace a4 := a4.alloc (.cells #[.int .u64 0, .int .i64 0, .int .u8 0, .slice none 0 0, .slice none 0 0, .slice none 0 0, .slice none 0 0, .int .i64 0, .int .i64 0, .int .i64 0, .slice none 0 0, .slice none 0 0, .slice none 0 0] 32)
  replace b := ext_trans b (below_alloc _ (.cells #[.int .u64 0, .int .i64 0, .int .u8 0, .slice none 0 0, .slice none 0 0, .slice none 0 0, .slice none 0 0, .int .i64 0, .int .i64 0, .int .i64 0, .slice none 0 0, .slice none 0 0, .slice none 0 0] 32))
  have a5 := OvAt.new w6 0 0 0 0 0 0
  refine (cost_any 0 1 0 10 3 0 _ _ _ _ _ _ _ _ _ _ (by omega) (by omega)).mono ?_
  rintro e w7 ⟨rfl, b'⟩
  rw [show costV 1 10 0 = 11 from rfl]
  replace b := ext_trans b b'
  replace a0 := a0.below b'
  replace a1 := a1.below b'
  replace a2 := a2.below b'
  replace a3 := a3.below b'
  replace a4 := a4.below b'
  replace a5 := a5.below b'
  clear b'
  clear a0l a0c0 a0c1 a0c2 a0c3 a0c4 a0c5 a0c6 a0c7 a0c8 a0c9 a0c10 a0c11 a0c12
  have a0l := a0.lt
  obtain ⟨a0c0, a0c1, a0c2, a0c3, a0c4, a0c5, a0c6, a0c7, a0c8, a0c9, a0c10, a0c11, a0c12⟩ := a0.cells
  have a1l := a1.lt
  obtain ⟨a1c0, a1c1, a1c2, a1c3, a1c4, a1c5, a1c6, a1c7, a1c8, a1c9, a1c10, a1c11, a1c12⟩ := a1.cells
  have a2l := a2.lt
  obtain ⟨a2c0, a2c1, a2c2, a2c3, a2c4, a2c5, a2c6, a2c7, a2c8, a2c9, a2c10, a2c11, a2c12⟩ := a2.cells
  have a3l := a3.lt
  obtain ⟨a3c0, a3c1, a3c2, a3c3, a3c4, a3c5, a3c6, a3c7, a3c8, a3c9, a3c10, a3c11, a3c12⟩ := a3.cells
  have a4l := a4.lt
  obtain ⟨a4c0, a4c1, a4c2, a4c3, a4c4, a4c5, a4c6, a4c7, a4c8, a4c9, a4c10, a4c11, a4c12⟩ := a4.cells
  have a5l := a5.lt
  obtain ⟨a5c0, a5c1, a5c2, a5c3, a5c4, a5c5, a5c6, a5c7, a5c8, a5c9, a5c10, a5c11, a5c12⟩ := a5.cells
  go_wp2_with fail
  refine (cost_any 0 2 0 0 0 0 _ _ _ _ _ _ _ _ _ _ (by omega) (by omega)).mono ?_
  rintro e w8 ⟨rfl, b'⟩
  rw [show costV 2 0 0 = 1 from rfl]
  replace b := ext_trans b b'
  replace a0 := a0.below b'
  replace a1 := a1.below b'
  replace a2 := a2.below b'
  replace a3 := a3.below b'
  replace a4 := a4.below b'
  replace a5 := a5.below b'
  clear b'
  clear a0l a0c0 a0c1 a0c2 a0c3 a0c4 a0c5 a0c6 a0c7 a0c8 a0c9 a0c10 a0c11 a0c12
  clear a1l a1c0 a1c1 a1c2 a1c3 a1c4 a1c5 a1c6 a1c7 a1c8 a1c9 a1c10 a1c11 a1c12
  clear a2l a2c0 a2c1 a2c2 a2c3 a2c4 a2c5 a2c6 a2c7 a2c8 a2c9 a2c10 a2c11 a2c12
  clear a3l a3c0 a3c1 a3c2 a3c3 a3c4 a3c5 a3c6 a3c7 a3c8 a3c9 a3c10 a3c11 a3c12
  clear a4l a4c0 a4c1 a4c2 a4c3 a4c4 a4c5 a4c6 a4c7 a4c8 a4c9 a4c10 a4c11 a4c12
  clear a5l a5c0 a5c1 a5c2 a5c3 a5c4 a5c5 a5c6 a5c7 a5c8 a5c9 a5c10 a5c11 a5c12
  have a0l := a0.lt
  obtain ⟨a0c0, a0c1, a0c2, a0c3, a0c4, a0c5, a0c6, a0c7, a0c8, a0c9, a0c10, a0c11, a0c12⟩ := a0.cells
  have a1l := a1.lt
  obtain ⟨a1c0, a1c1, a1c2, a1c3, a1c4, a1c5, a1c6, a1c7, a1c8, a1c9, a1c10, a1c11, a1c12⟩ := a1.cells
  have a2l := a2.lt
  obtain ⟨a2c0, a2c1, a2c2, a2c3, a2c4, a2c5, a2c6, a2c7, a2c8, a2c9, a2c10, a2c11, a2c12⟩ := a2.cells
  have a3l := a3.lt
  obtain ⟨a3c0, a3c1, a3c2, a3c3, a3c4, a3c5, a3c6, a3c7, a3c8, a3c9, a3c10, a3c11, a3c12⟩ := a3.cells
  have a4l := a4.lt
  obtain ⟨a4c0, a4c1, a4c2, a4c3, a4c4, a4c5, a4c6, a4c7, a4c8, a4c9, a4c10, a4c11, a4c12⟩ := a4.cells
  have a5l := a5.lt
  obtain ⟨a5c0, a5c1, a5c2, a5c3, a5c4, a5c5, a5c6, a5c7, a5c8, a5c9, a5c10, a5c11, a5c12⟩ := a5.cells
  go_wp2_with fail
  refine (cost_any 0 3 0 0 0 0 _ _ _ _ _ _ _ _ _ _ (by omega) (by omega)).mono ?_
  rintro e w9 ⟨rfl, b'⟩
  rw [show costV 3 0 0 = 2 from rfl]
  replace b := ext_trans (ext_trans b (below_alloc _ _)) b'
  replace a0 := (a0.below (below_alloc _ _)).below b'
  replace a1 := (a1.below (below_alloc _ _)).below b'
  replace a2 := (a2.below (below_alloc _ _)).below b'
  replace a3 := (a3.below (below_alloc _ _)).below b'
  replace a4 := (a4.below (below_alloc _ _)).below b'
  replace a5 := (a5.below (below_alloc _ _)).below b'
  clear b'
  clear a0l a0c0 a0c1 a0c2 a0c3 a0c4 a0c5 a0c6 a0c7 a0c8 a0c9 a0c10 a0c11 a0c12
  clear a1l a1c0 a1c1 a1c2 a1c3 a1c4 a1c5 a1c6 a1c7 a1c8 a1c9 a1c10 a1c11 a1c12
  clear a2l a2c0 a2c1 a2c2 a2c3 a2c4 a2c5 a2c6 a2c7 a2c8 a2c9 a2c10 a2c11 a2c12
  clear a3l a3c0 a3c1 a3c2 a3c3 a3c4 a3c5 a3c6 a3c7 a3c8 a3c9 a3c10 a3c11 a3c12
  clear a4l a4c0 a4c1 a4c2 a4c3 a4c4 a4c5 a4c6 a4c7 a4c8 a4c9 a4c10 a4c11 a4c12
  clear a5l a5c0 a5c1 a5c2 a5c3 a5c4 a5c5 a5c6 a5c7 a5c8 a5c9 a5c10 a5c11 a5c12
  have a0l := a0.lt
  obtain ⟨a0c0, a0c1, a0c2, a0c3, a0c4, a0c5, a0c6, a0c7, a0c8, a0c9, a0c10, a0c11, a0c12⟩ := a0.cells
  have a1l := a1.lt
  obtain ⟨a1c0, a1c1, a1c2, a1c3, a1c4, a1c5, a1c6, a1c7, a1c8, a1c9, a1c10, a1c11, a1c12⟩ := a1.cells
  have a2l := a2.lt
  obtain ⟨a2c0, a2c1, a2c2, a2c3, a2c4, a2c5, a2c6, a2c7, a2c8, a2c9, a2c10, a2c11, a2c12⟩ := a2.cells
  have a3l := a3.lt
  obtain ⟨a3c0, a3c1, a3c2, a3c3, a3c4, a3c5, a3c6, a3c7, a3c8, a3c9, a3c10, a3c11, a3c12⟩ := a3.cells
  have a4l := a4.lt
  obtain ⟨a4c0, a4c1, a4c2, a4c3, a4c4, a4c5, a4c6, a4c7, a4c8, a4c9, a4c10, a4c11, a4c12⟩ := a4.cells
  have a5l := a5.lt
  obtain ⟨a5c0, a5c1, a5c2, a5c3, a5c4, a5c5, a5c6, a5c7, a5c8, a5c9, a5c10, a5c11, a5c12⟩ := a5.cells
  go_wp2_with fail
  refine (cost_any 0 4 0 0 0 0 _ _ _ _ _ _ _ _ _ _ (by omega) (by omega)).mono ?_
  rintro e w10 ⟨rfl, b'⟩
  rw [show costV 4 0 0 = 8 from rfl]
  replace b := ext_trans b b'
  replace a0 := a0.below b'
  replace a1 := a1.below b'
  replace a2 := a2.below b'
  replace a3 := a3.below b'
  replace a4 := a4.below b'
  replace a5 := a5.below b'
  clear b'
  clear a0l a0c0 a0c1 a0c2 a0c3 a0c4 a0c5 a0c6 a0c7 a0c8 a0c9 a0c10 a0c11 a0c12
  clear a1l a1c0 a1c1 a1c2 a1c3 a1c4 a1c5 a1c6 a1c7 a1c8 a1c9 a1c10 a1c11 a1c12
  clear a2l a2c0 a2c1 a2c2 a2c3 a2c4 a2c5 a2c6 a2c7 a2c8 a2c9 a2c10 a2c11 a2c12
  clear a3l a3c0 a3c1 a3c2 a3c3 a3c4 a3c5 a3c6 a3c7 a3c8 a3c9 a3c10 a3c11 a3c12
  clear a4l a4c0 a4c1 a4c2 a4c3 a4c4 a4c5 a4c6 a4c7 a4c8 a4c9 a4c10 a4c11 a4c12
  clear a5l a5c0 a5c1 a5c2 a5c3 a5c4 a5c5 a5c6 a5c7 a5c8 a5c9 a5c10 a5c11 a5c12
  have a0l := a0.lt
  obtain ⟨a0c0, a0c1, a0c2, a0c3, a0c4, a0c5, a0c6, a0c7, a0c8, a0c9, a0c10, a0c11, a0c12⟩ := a0.cells
  have a1l := a1.lt
  obtain ⟨a1c0, a1c1, a1c2, a1c3, a1c4, a1c5, a1c6, a1c7, a1c8, a1c9, a1c10, a1c11, a1c12⟩ := a1.cells
  have a2l := a2.lt
  obtain ⟨a2c0, a2c1, a2c2, a2c3, a2c4, a2c5, a2c6, a2c7, a2c8, a2c9, a2c10, a2c11, a2c12⟩ := a2.cells
  have a3l := a3.lt
  obtain ⟨a3c0, a3c1, a3c2, a3c3, a3c4, a3c5, a3c6, a3c7, a3c8, a3c9, a3c10, a3c11, a3c12⟩ := a3.cells
  have a4l := a4.lt
  obtain ⟨a4c0, a4c1, a4c2, a4c3, a4c4, a4c5, a4c6, a4c7, a4c8, a4c9, a4c10, a4c11, a4c12⟩ := a4.cells
  have a5l := a5.lt
  obtain ⟨a5c0, a5c1, a5c2, a5c3, a5c4, a5c5, a5c6, a5c7, a5c8, a5c9, a5c10, a5c11, a5c12⟩ := a5.cells
  go_wp2_with fail
  refine (cost_any 0 9 0 0 0 0 _ _ _ _ _ _ _ _ _ _ (by omega) (by omega)).mono ?_
  rintro e w11 ⟨rfl, b'⟩
  rw [show costV 9 0 0 = 0 from rfl]
  replace b := ext_trans b b'
  replace a0 := a0.below b'
  replace a1 := a1.below b'
  replace a2 := a2.below b'
  replace a3 := a3.below b'
  replace a4 := a4.below b'
  replace a5 := a5.below b'
  clear b'
  clear a0l a0c0 a0c1 a0c2 a0c3 a0c4 a0c5 a0c6 a0c7 a0c8 a0c9 a0c10 a0c11 a0c12
  clear a1l a1c0 a1c1 a1c2 a1c3 a1c4 a1c5 a1c6 a1c7 a1c8 a1c9 a1c10 a1c11 a1c12
  clear a2l a2c0 a2c1 a2c2 a2c3 a2c4 a2c5 a2c6 a2c7 a2c8 a2c9 a2c10 a2c11 a2c12
  clear a3l a3c0 a3c1 a3c2 a3c3 a3c4 a3c5 a3c6 a3c7 a3c8 a3c9 a3c10 a3c11 a3c12
  clear a4l a4c0 a4c1 a4c2 a4c3 a4c4 a4c5 a4c6 a4c7 a4c8 a4c9 a4c10 a4c11 a4c12
  clear a5l a5c0 a5c1 a5c2 a5c3 a5c4 a5c5 a5c6 a5c7 a5c8 a5c9 a5c10 a5c11 a5c12
  have a0l := a0.lt
  obtain ⟨a0c0, a0c1, a0c2, a0c3, a0c4, a0c5, a0c6, a0c7, a0c8, a0c9, a0c10, a0c11, a0c12⟩ := a0.cells
  have a1l := a1.lt
  obtain ⟨a1c0, a1c1, a1c2, a1c3, a1c4, a1c5, a1c6, a1c7, a1c8, a1c9, a1c10, a1c11, a1c12⟩ := a1.cells
  have a2l := a2.lt
  obtain ⟨a2c0, a2c1, a2c2, a2c3, a2c4, a2c5, a2c6, a2c7, a2c8, a2c9, a2c10, a2c11, a2c12⟩ := a2.cells
  have a3l := a3.lt
  obtain ⟨a3c0, a3c1, a3c2, a3c3, a3c4, a3c5, a3c6, a3c7, a3c8, a3c9, a3c10, a3c11, a3c12⟩ := a3.cells
  have a4l := a4.lt
  obtain ⟨a4c0, a4c1, a4c2, a4c3, a4c4, a4c5, a4c6, a4c7, a4c8, a4c9, a4c10, a4c11, a4c12⟩ := a4.cells
  have a5l := a5.lt
  obtain ⟨a5c0, a5c1, a5c2, a5c3, a5c4, a5c5, a5c6, a5c7, a5c8, a5c9, a5c10, a5c11, a5c12⟩ := a5.cells
  go_wp2_with fail
  refine (sub_nil 0 1 0 10 3 0 4 _ (by omega) (by unfold I64; omega)).mono ?_
  rintro e w12 ⟨rfl, b'⟩
  rw [show subU 3 4 = 0 from rfl]
  replace b := ext_trans b b'
  replace a0 := a0.below b'
  replace a1 := a1.below b'
  replace a2 := a2.below b'
  replace a3 := a3.below b'
  replace a4 := a4.below b'
  replace a5 := a5.below b'
  clear b'
  clear a0l a0c0 a0c1 a0c2 a0c3 a0c4 a0c5 a0c6 a0c7 a0c8 a0c9 a0c10 a0c11 a0c12
  clear a1l a1c0 a1c1 a1c2 a1c3 a1c4 a1c5 a1c6 a1c7 a1c8 a1c9 a1c10 a1c11 a1c12
  clear a2l a2c0 a2c1 a2c2 a2c3 a2c4 a2c5 a2c6 a2c7 a2c8 a2c9 a2c10 a2c11 a2c12
  clear a3l a3c0 a3c1 a3c2 a3c3 a3c4 a3c5 a3c6 a3c7 a3c8 a3c9 a3c10 a3c11 a3c12
  clear a4l a4c0 a4c1 a4c2 a4c3 a4c4 a4c5 a4c6 a4c7 a4c8 a4c9 a4c10 a4c11 a4c12
  clear a5l a5c0 a5c1 a5c2 a5c3 a5c4 a5c5 a5c6 a5c7 a5c8 a5c9 a5c10 a5c11 a5c12
  have a0l := a0.lt
  obtain ⟨a0c0, a0c1, a0c2, a0c3, a0c4, a0c5, a0c6, a0c7, a0c8, a0c9, a0c10, a0c11, a0c12⟩ := a0.cells
  have a1l := a1.lt
  obtain ⟨a1c0, a1c1, a1c2, a1c3, a1c4, a1c5, a1c6, a1c7, a1c8, a1c9, a1c10, a1c11, a1c12⟩ := a1.cells
  have a2l := a2.lt
  obtain ⟨a2c0, a2c1, a2c2, a2c3, a2c4, a2c5, a2c6, a2c7, a2c8, a2c9, a2c10, a2c11, a2c12⟩ := a2.cells
  have a3l := a3.lt
  obtain ⟨a3c0, a3c1, a3c2, a3c3, a3c4, a3c5, a3c6, a3c7, a3c8, a3c9, a3c10, a3c11, a3c12⟩ := a3.cells
  have a4l := a4.lt
  obtain ⟨a4c0, a4c1, a4c2, a4c3, a4c4, a4c5, a4c6, a4c7, a4c8, a4c9, a4c10, a4c11, a4c12⟩ := a4.cells
  have a5l := a5.lt
  obtain ⟨a5c0, a5c1, a5c2, a5c3, a5c4, a5c5, a5c6, a5c7, a5c8, a5c9, a5c10, a5c11, a5c12⟩ := a5.cells
  go_wp2_with fail
  refine (sub_nil 0 1 0 10 3 0 (-4) _ (by omega) (by unfold I64; omega)).mono ?_
  rintro e w13 ⟨rfl, b'⟩
  rw [show subU 3 (-4) = 3 from rfl]
  replace b := ext_trans b b'
  replace a0 := a0.below b'
  replace a1 := a1.below b'
  replace a2 := a2.below b'
  replace a3 := a3.below b'
  replace a4 := a4.below b'
  replace a5 := a5.below b'
  clear b'
  clear a0l a0c0 a0c1 a0c2 a0c3 a0c4 a0c5 a0c6 a0c7 a0c8 a0c9 a0c10 a0c11 a0c12
  clear a1l a1c0 a1c1 a1c2 a1c3 a1c4 a1c5 a1c6 a1c7 a1c8 a1c9 a1c10 a1c11 a1c12
  clear a2l a2c0 a2c1 a2c2 a2c3 a2c4 a2c5 a2c6 a2c7 a2c8 a2c9 a2c10 a2c11 a2c12
  clear a3l a3c0 a3c1 a3c2 a3c3 a3c4 a3c5 a3c6 a3c7 a3c8 a3c9 a3c10 a3c11 a3c12
  clear a4l a4c0 a4c1 a4c2 a4c3 a4c4 a4c5 a4c6 a4c7 a4c8 a4c9 a4c10 a4c11 a4c12
  clear a5l a5c0 a5c1 a5c2 a5c3 a5c4 a5c5 a5c6 a5c7 a5c8 a5c9 a5c10 a5c11 a5c12
  have a0l := a0.lt
  obtain ⟨a0c0, a0c1, a0c2, a0c3, a0c4, a0c5, a0c6, a0c7, a0c8, a0c9, a0c10, a0c11, a0c12⟩ := a0.cells
  have a1l := a1.lt
  obtain ⟨a1c0, a1c1, a1c2, a1c3, a1c4, a1c5, a1c6, a1c7, a1c8, a1c9, a1c10, a1c11, a1c12⟩ := a1.cells
  have a2l := a2.lt
  obtain ⟨a2c0, a2c1, a2c2, a2c3, a2c4, a2c5, a2c6, a2c7, a2c8, a2c9, a2c10, a2c11, a2c12⟩ := a2.cells
  have a3l := a3.lt
  obtain ⟨a3c0, a3c1, a3c2, a3c3, a3c4, a3c5, a3c6, a3c7, a3c8, a3c9, a3c10, a3c11, a3c12⟩ := a3.cells
  have a4l := a4.lt
  obtain ⟨a4c0, a4c1, a4c2, a4c3, a4c4, a4c5, a4c6, a4c7, a4c8, a4c9, a4c10, a4c11, a4c12⟩ := a4.cells
  have a5l := a5.lt
  obtain ⟨a5c0, a5c1, a5c2, a5c3, a5c4, a5c5, a5c6, a5c7, a5c8, a5c9, a5c10, a5c11, a5c12⟩ := a5.cells
  go_wp2_with fail
  refine (sub_nil 0 1 0 10 3 0 9223372036854775807 _ (by omega) (by unfold I64; omega)).mono ?_
  rintro e w14 ⟨rfl, b'⟩
  rw [show subU 3 9223372036854775807 = 0 from rfl]
  replace b := ext_trans b b'
  replace a0 := a0.below b'
  replace a1 := a1.below b'
  replace a2 := a2.below b'
  replace a3 := a3.below b'
  replace a4 := a4.below b'
  replace a5 := a5.below b'
  clear b'
  clear a0l a0c0 a0c1 a0c2 a0c3 a0c4 a0c5 a0c6 a0c7 a0c8 a0c9 a0c10 a0c11 a0c12
  clear a1l a1c0 a1c1 a1c2 a1c3 a1c4 a1c5 a1c6 a1c7 a1c8 a1c9 a1c10 a1c11 a1c12
  clear a2l a2c0 a2c1 a2c2 a2c3 a2c4 a2c5 a2c6 a2c7 a2c8 a2c9 a2c10 a2c11 a2c12
  clear a3l a3c0 a3c1 a3c2 a3c3 a3c4 a3c5 a3c6 a3c7 a3c8 a3c9 a3c10 a3c11 a3c12
  clear a4l a4c0 a4c1 a4c2 a4c3 a4c4 a4c5 a4c6 a4c7 a4c8 a4c9 a4c10 a4c11 a4c12
  clear a5l a5c0 a5c1 a5c2 a5c3 a5c4 a5c5 a5c6 a5c7 a5c8 a5c9 a5c10 a5c11 a5c12
  have a0l := a0.lt
  obtain ⟨a0c0, a0c1, a0c2, a0c3, a0c4, a0c5, a0c6, a0c7, a0c8, a0c9, a0c10, a0c11, a0c12⟩ := a0.cells
  have a1l := a1.lt
  obtain ⟨a1c0, a1c1, a1c2, a1c3, a1c4, a1c5, a1c6, a1c7, a1c8, a1c9, a1c10, a1c11, a1c12⟩ := a1.cells
  have a2l := a2.lt
  obtain ⟨a2c0, a2c1, a2c2, a2c3, a2c4, a2c5, a2c6, a2c7, a2c8, a2c9, a2c10, a2c11, a2c12⟩ := a2.cells
  have a3l := a3.lt
  obtain ⟨a3c0, a3c1, a3c2, a3c3, a3c4, a3c5, a3c6, a3c7, a3c8, a3c9, a3c10, a3c11, a3c12⟩ := a3.cells
  have a4l := a4.lt
  obtain ⟨a4c0, a4c1, a4c2, a4c3, a4c4, a4c5, a4c6, a4c7, a4c8, a4c9, a4c10, a4c11, a4c12⟩ := a4.cells
  have a5l := a5.lt
  obtain ⟨a5c0, a5c1, a5c2, a5c3, a5c4, a5c5, a5c6, a5c7, a5c8, a5c9, a5c10, a5c11, a5c12⟩ := a5.cells
  go_wp2_with fail
  go_ret
  exact ⟨rfl, b⟩
end Go.Proofs.Ytdonhmfjhnmnjaa
