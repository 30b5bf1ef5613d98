/- Two objects that have nothing but numbers, and the same, are the same to the document. -/
import Derived.Test.YtdonhmfjhnmnjaaQtOps
namespace Go.Proofs.Ytdonhmfjhnmnjaa
open Go.RowKit
set_option maxRecDepth 100000

theorem strQ : ∀ (W : World), (convert 29 9 (.slice none 0 0)).run Try.prog W = .ok (.string (strOfNums [])) W := fun W => run_str (P := Try.prog) W 29 9 5 Try.underlying29 Try.underlying5 Try.underlying9 none 0 0 [] (Row.nil W)
theorem sameL_nil (d : Int) (w : World) : Calls Try.prog 15 #[.agg #[.int .u8 d, .slice none 0 0], .agg #[.int .u8 d, .slice none 0 0]] w fun e w' => e = .returned (.bool true) ∧ Below w.heap.size w w' := by
  go_enter Try.func15, Try.ntmps15
  go_wp2_with fail
  go_loop [5] (fun i => i = .int .i64 0) (fun _ => 0)
  case atStart => rfl
  case round =>
    obtain rfl := hrel
    go_wp2_with fail
    go_ret
    exact ⟨rfl, two_allocsQ _ _ _⟩
theorem sameW_nil (w : World) : Calls Try.prog 17 #[.slice none 0 0, .slice none 0 0] w fun e w' => e = .returned (.bool true) ∧ w' = w := by
  go_enter Try.func17, Try.ntmps17
  go_wp2_with fail
  go_loop [5] (fun i => i = .int .i64 0) (fun _ => 0)
  case atStart => rfl
  case round =>
    obtain rfl := hrel
    go_wp2_with fail
    go_ret
    exact ⟨rfl, rfl⟩
theorem sameR_nil (w : World) : Calls Try.prog 18 #[.slice none 0 0, .slice none 0 0] w fun e w' => e = .returned (.bool true) ∧ w' = w := by
  go_enter Try.func18, Try.ntmps18
  go_wp2_with fail
  go_loop [5] (fun i => i = .int .i64 0) (fun _ => 0)
  case atStart => rfl
  case round =>
    obtain rfl := hrel
    go_wp2_with fail
    go_ret
    exact ⟨rfl, rfl⟩
set_option maxHeartbeats 1000000 in
theorem sameS_nil (w : World) : Calls Try.prog 16 #[.agg #[.slice none 0 0, .slice none 0 0, .slice none 0 0], .agg #[.slice none 0 0, .slice none 0 0, .slice none 0 0]] w fun e w' => e = .returned (.bool true) ∧ Below w.heap.size w w' := by
  go_enter Try.func16, Try.ntmps16
  go_wp2_with fail
  refine (sameW_nil _).mono ?_
  rintro e w1 ⟨rfl, rfl⟩
  go_wp2_with fail
  refine (sameW_nil _).mono ?_
  rintro e w1 ⟨rfl, rfl⟩
  go_wp2_with fail
  refine (sameW_nil _).mono ?_
  rintro e w1 ⟨rfl, rfl⟩
  go_wp2_with fail
  go_ret
  exact ⟨rfl, two_allocsQ _ _ _⟩
theorem heap_first (w : World) (x y : Obj) : ((w.alloc x).alloc y).heap[w.heap.size]? = some x := by
  rw [heap_alloc_old (w.alloc x) y (by simp)]
  exact heap_alloc_new w x
set_option maxHeartbeats 2000000 in
theorem same_ov (i k d q u n : Int) (w : World) : Calls Try.prog 11 #[ov i k d q u n, ov i k d q u n] w fun e w' => e = .returned (.bool true) ∧ Below w.heap.size w w' := by
  have hs := strQ
  go_enter Try.func11, Try.ntmps11
  go_wp2_with fail
  obtain ⟨W0, hW0⟩ : ∃ W0, W0 = (w.alloc (.cells #[.int .u64 i, .int .i64 k, .int .u8 d, .slice none 0 0, .slice none 0 0, .slice none 0 0, .slice none 0 0, .int .i64 q, .int .i64 u, .int .i64 n, .slice none 0 0, .slice none 0 0, .slice none 0 0] 32)).alloc (.cells #[.int .u64 i, .int .i64 k, .int .u8 d, .slice none 0 0, .slice none 0 0, .slice none 0 0, .slice none 0 0, .int .i64 q, .int .i64 u, .int .i64 n, .slice none 0 0, .slice none 0 0, .slice none 0 0] 32) := ⟨_, rfl⟩
  have hb0 : Below w.heap.size w W0 := hW0 ▸ two_allocsQ _ _ _
  have h1 : W0.heap[w.heap.size]? = _ := hW0 ▸ heap_first _ _ _
  have h2 : W0.heap[w.heap.size + 1]? = _ := hW0 ▸ heap_second _ _ _
  have z1 : w.heap.size < W0.heap.size := by rw [hW0]; simp; omega
  have z2 : w.heap.size + 1 < W0.heap.size := by rw [hW0]; simp
  rw [← hW0]
  clear hW0
  refine (sameL_nil d _).mono ?_
  rintro e w1 ⟨rfl, b1⟩
  obtain ⟨c0, c1, c2, c3, c4, c5, c6, c7, c8, c9, c10, c11, c12⟩ := cells_ov ((b1.block _ z1).trans h1)
  obtain ⟨d0, d1, d2, d3, d4, d5, d6, d7, d8, d9, d10, d11, d12⟩ := cells_ov ((b1.block _ z2).trans h2)
  go_wp2_with fail
  refine (sameS_nil _).mono ?_
  rintro e w2 ⟨rfl, b2⟩
  replace b2 := ext_trans b1 b2
  clear c0 c1 c2 c3 c4 c5 c6 c7 c8 c9 c10 c11 c12 d0 d1 d2 d3 d4 d5 d6 d7 d8 d9 d10 d11 d12 b1
  obtain ⟨c0, c1, c2, c3, c4, c5, c6, c7, c8, c9, c10, c11, c12⟩ := cells_ov ((b2.block _ z1).trans h1)
  obtain ⟨d0, d1, d2, d3, d4, d5, d6, d7, d8, d9, d10, d11, d12⟩ := cells_ov ((b2.block _ z2).trans h2)
  go_wp2_with fail
  refine (sameW_nil _).mono ?_
  rintro e w3 ⟨rfl, rfl⟩
  go_wp2_with fail
  refine (sameR_nil _).mono ?_
  rintro e w3 ⟨rfl, rfl⟩
  go_wp2_with fail
  go_ret
  exact ⟨rfl, ext_trans hb0 b2⟩
end Go.Proofs.Ytdonhmfjhnmnjaa
