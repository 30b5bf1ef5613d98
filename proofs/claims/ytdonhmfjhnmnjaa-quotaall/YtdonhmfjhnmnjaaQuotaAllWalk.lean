/- QuotaAll walked: it answers true, and turns nothing that was there. -/
import Derived.Test.YtdonhmfjhnmnjaaQtBegun
import Derived.Test.YtdonhmfjhnmnjaaRegion
namespace Go.Proofs.Ytdonhmfjhnmnjaa
open Go.RowKit
set_option maxRecDepth 100000

def ObjAt (W : World) (g : Nat) (i k x q u n : Int) (a3 a4 a5 a6 a10 a11 a12 : Option Addr) (n3 m3 n4 m4 n5 m5 n6 m6 n10 m10 n11 m11 n12 m12 : Nat) : Prop := W.heap[g]? = some (.cells #[.int .u64 i, .int .i64 k, .int .u8 x, .slice a3 n3 m3, .slice a4 n4 m4, .slice a5 n5 m5, .slice a6 n6 m6, .int .i64 q, .int .i64 u, .int .i64 n, .slice a10 n10 m10, .slice a11 n11 m11, .slice a12 n12 m12] 32 (0, 0))
theorem ObjAt.cells {W : World} {g : Nat} {i k x q u n : Int} {a3 a4 a5 a6 a10 a11 a12 : Option Addr} {n3 m3 n4 m4 n5 m5 n6 m6 n10 m10 n11 m11 n12 m12 : Nat} (h : ObjAt W g i k x q u n a3 a4 a5 a6 a10 a11 a12 n3 m3 n4 m4 n5 m5 n6 m6 n10 m10 n11 m11 n12 m12) :
    W.cell? ⟨g, 0, none⟩ = some (.int .u64 i) ∧ W.cell? ⟨g, 1, none⟩ = some (.int .i64 k) ∧ W.cell? ⟨g, 2, none⟩ = some (.int .u8 x) ∧ W.cell? ⟨g, 3, none⟩ = some (.slice a3 n3 m3) ∧ W.cell? ⟨g, 4, none⟩ = some (.slice a4 n4 m4) ∧ W.cell? ⟨g, 5, none⟩ = some (.slice a5 n5 m5) ∧ W.cell? ⟨g, 6, none⟩ = some (.slice a6 n6 m6) ∧ W.cell? ⟨g, 7, none⟩ = some (.int .i64 q) ∧ W.cell? ⟨g, 8, none⟩ = some (.int .i64 u) ∧ W.cell? ⟨g, 9, none⟩ = some (.int .i64 n) ∧ W.cell? ⟨g, 10, none⟩ = some (.slice a10 n10 m10) ∧ W.cell? ⟨g, 11, none⟩ = some (.slice a11 n11 m11) ∧ W.cell? ⟨g, 12, none⟩ = some (.slice a12 n12 m12) := by
  refine ⟨?_, ?_, ?_, ?_, ?_, ?_, ?_, ?_, ?_, ?_, ?_, ?_, ?_⟩ <;> (rw [cell_of_row W g _ _ _ _ h]; rfl)
theorem ObjAt.below {w W : World} {g : Nat} {i k x q u n : Int} {a3 a4 a5 a6 a10 a11 a12 : Option Addr} {n3 m3 n4 m4 n5 m5 n6 m6 n10 m10 n11 m11 n12 m12 : Nat} (h : ObjAt w g i k x q u n a3 a4 a5 a6 a10 a11 a12 n3 m3 n4 m4 n5 m5 n6 m6 n10 m10 n11 m11 n12 m12) (hb : Below w.heap.size w W) : ObjAt W g i k x q u n a3 a4 a5 a6 a10 a11 a12 n3 m3 n4 m4 n5 m5 n6 m6 n10 m10 n11 m11 n12 m12 :=
  (hb.block _ (Array.getElem?_eq_some_iff.1 h).1).trans h
theorem addB_ov (i k d q u n c : Int) : ∃ i' k' d' q' u' n', addB i k d q u n c = ov i' k' d' q' u' n' := by
  unfold addB
  split <;> exact ⟨_, _, _, _, _, _, rfl⟩
set_option maxHeartbeats 4000000 in
theorem quotaAll_walk (i k x q u n : Int) (a3 a4 a5 a6 a10 a11 a12 : Option Addr) (n3 m3 n4 m4 n5 m5 n6 m6 n10 m10 n11 m11 n12 m12 : Nat) (q0 u0 c : Int) (hq0 : 0 ≤ q0 ∧ q0 < 65536) (hu0 : 0 ≤ u0 ∧ u0 < 65536) (hc : I64 c) (w : World) :
    Calls Try.prog 3 #[.agg #[.int .u64 i, .int .i64 k, .int .u8 x, .slice a3 n3 m3, .slice a4 n4 m4, .slice a5 n5 m5, .slice a6 n6 m6, .int .i64 q, .int .i64 u, .int .i64 n, .slice a10 n10 m10, .slice a11 n11 m11, .slice a12 n12 m12], .int .u16 q0, .int .u16 u0, .int .i64 c] w fun e w' => e = .returned (.bool true) ∧ Below w.heap.size w w' := by
  have hO : ObjAt (w.alloc (.cells #[.int .u64 i, .int .i64 k, .int .u8 x, .slice a3 n3 m3, .slice a4 n4 m4, .slice a5 n5 m5, .slice a6 n6 m6, .int .i64 q, .int .i64 u, .int .i64 n, .slice a10 n10 m10, .slice a11 n11 m11, .slice a12 n12 m12] 32)) w.heap.size i k x q u n a3 a4 a5 a6 a10 a11 a12 n3 m3 n4 m4 n5 m5 n6 m6 n10 m10 n11 m11 n12 m12 := heap_alloc_new w _
  have hl := below_alloc w (.cells #[.int .u64 i, .int .i64 k, .int .u8 x, .slice a3 n3 m3, .slice a4 n4 m4, .slice a5 n5 m5, .slice a6 n6 m6, .int .i64 q, .int .i64 u, .int .i64 n, .slice a10 n10 m10, .slice a11 n11 m11, .slice a12 n12 m12] 32)
  obtain ⟨W0, hW0⟩ : ∃ W0, W0 = w.alloc (.cells #[.int .u64 i, .int .i64 k, .int .u8 x, .slice a3 n3 m3, .slice a4 n4 m4, .slice a5 n5 m5, .slice a6 n6 m6, .int .i64 q, .int .i64 u, .int .i64 n, .slice a10 n10 m10, .slice a11 n11 m11, .slice a12 n12 m12] 32) := ⟨_, rfl⟩
  rw [← hW0] at hO hl
  have hlt : w.heap.size < W0.heap.size := by rw [hW0]; simp
  go_enter Try.func3, Try.ntmps3
  go_wp2_with fail
  rw [← hW0]
  clear hW0
  refine (begun15_true _).mono ?_
  rintro e w1 ⟨rfl, b1⟩
  replace hO : ObjAt w1 _ _ _ _ _ _ _ _ _ _ _ _ _ _ _ _ _ _ _ _ _ _ _ _ _ _ _ _ := (b1.block _ hlt).trans hO
  replace b1 := ext_trans hl b1
  replace hlt : w.heap.size < w1.heap.size := (Array.getElem?_eq_some_iff.1 hO).1
  clear hl
  obtain ⟨c0, c1, c2, c3, c4, c5, c6, c7, c8, c9, c10, c11, c12⟩ := hO.cells
  by_cases h1 : q < 0
  · go_wp2_with fail
    go_ret
    exact ⟨rfl, b1⟩
  by_cases h2 : 400 < q
  · go_wp2_with fail
    go_ret
    exact ⟨rfl, b1⟩
  by_cases h3 : 100 < n10
  · have h3' : (100 : Int) < (n10 : Int) := by omega
    go_wp2_with fail
    go_ret
    exact ⟨rfl, b1⟩
  have h3' : ¬ (100 : Int) < (n10 : Int) := by omega
  go_wp2_with fail
  obtain ⟨Q, hQ⟩ : ∃ Q, Q = q0 % 401 := ⟨_, rfl⟩
  rw [← hQ]
  obtain ⟨U, hU⟩ : ∃ U, U = u0 % (Q + 1) := ⟨_, rfl⟩
  rw [← hU]
  have hqu : 0 ≤ U ∧ U ≤ Q ∧ Q ≤ 400 := by
    have h4 : 0 ≤ Q ∧ Q ≤ 400 := by omega
    have h5 := Int.emod_nonneg u0 (show Q + 1 ≠ 0 by omega)
    have h6 := Int.emod_lt_of_pos u0 (show 0 < Q + 1 by omega)
    omega
  clear hQ hU
  obtain ⟨i', k', d', q', u', n', hB⟩ := addB_ov 1 1 0 Q U 0 c
  have hX := OvAt.new w1 1 1 0 Q U 0
  replace hO := hO.below (below_alloc w1 (.cells #[.int .u64 1, .int .i64 1, .int .u8 0, .slice none 0 0, .slice none 0 0, .slice none 0 0, .slice none 0 0, .int .i64 Q, .int .i64 U, .int .i64 0, .slice none 0 0, .slice none 0 0, .slice none 0 0] 32))
  replace b1 := ext_trans b1 (below_alloc w1 (.cells #[.int .u64 1, .int .i64 1, .int .u8 0, .slice none 0 0, .slice none 0 0, .slice none 0 0, .slice none 0 0, .int .i64 Q, .int .i64 U, .int .i64 0, .slice none 0 0, .slice none 0 0, .slice none 0 0] 32))
  refine (add_nil 1 1 0 Q U 0 c _ hqu hc).mono ?_
  rintro e w2 ⟨rfl, b2⟩
  rw [hB]
  replace hO := hO.below b2
  replace hX := hX.below b2
  replace b2 := ext_trans b1 b2
  clear b1 c0 c1 c2 c3 c4 c5 c6 c7 c8 c9 c10 c11 c12 hlt
  have hx1 := hX.lt
  obtain ⟨c0, c1, c2, c3, c4, c5, c6, c7, c8, c9, c10, c11, c12⟩ := hX.cells
  go_wp2_with fail
  clear c0 c1 c2 c3 c4 c5 c6 c7 c8 c9 c10 c11 c12
  have hY := OvAt.new w2 i' k' d' q' u' n'
  replace hO := hO.below (below_alloc w2 (.cells #[.int .u64 i', .int .i64 k', .int .u8 d', .slice none 0 0, .slice none 0 0, .slice none 0 0, .slice none 0 0, .int .i64 q', .int .i64 u', .int .i64 n', .slice none 0 0, .slice none 0 0, .slice none 0 0] 32))
  replace hX := hX.below (below_alloc w2 (.cells #[.int .u64 i', .int .i64 k', .int .u8 d', .slice none 0 0, .slice none 0 0, .slice none 0 0, .slice none 0 0, .int .i64 q', .int .i64 u', .int .i64 n', .slice none 0 0, .slice none 0 0, .slice none 0 0] 32))
  replace b2 := ext_trans b2 (below_alloc w2 (.cells #[.int .u64 i', .int .i64 k', .int .u8 d', .slice none 0 0, .slice none 0 0, .slice none 0 0, .slice none 0 0, .int .i64 q', .int .i64 u', .int .i64 n', .slice none 0 0, .slice none 0 0, .slice none 0 0] 32))
  refine (refAdd_nil 1 1 0 Q U 0 c _ hqu hc).mono ?_
  rintro e w3 ⟨rfl, b3⟩
  rw [hB]
  replace hO := hO.below b3
  replace hX := hX.below b3
  replace hY := hY.below b3
  replace b3 := ext_trans b2 b3
  clear b2
  have hx1 := hX.lt
  have hy1 := hY.lt
  go_wp2_with fail
  have hZ := OvAt.new w3 i' k' d' q' u' n'
  replace hO := hO.below (below_alloc w3 (.cells #[.int .u64 i', .int .i64 k', .int .u8 d', .slice none 0 0, .slice none 0 0, .slice none 0 0, .slice none 0 0, .int .i64 q', .int .i64 u', .int .i64 n', .slice none 0 0, .slice none 0 0, .slice none 0 0] 32))
  replace hX := hX.below (below_alloc w3 (.cells #[.int .u64 i', .int .i64 k', .int .u8 d', .slice none 0 0, .slice none 0 0, .slice none 0 0, .slice none 0 0, .int .i64 q', .int .i64 u', .int .i64 n', .slice none 0 0, .slice none 0 0, .slice none 0 0] 32))
  replace hY := hY.below (below_alloc w3 (.cells #[.int .u64 i', .int .i64 k', .int .u8 d', .slice none 0 0, .slice none 0 0, .slice none 0 0, .slice none 0 0, .int .i64 q', .int .i64 u', .int .i64 n', .slice none 0 0, .slice none 0 0, .slice none 0 0] 32))
  replace b3 := ext_trans b3 (below_alloc w3 (.cells #[.int .u64 i', .int .i64 k', .int .u8 d', .slice none 0 0, .slice none 0 0, .slice none 0 0, .slice none 0 0, .int .i64 q', .int .i64 u', .int .i64 n', .slice none 0 0, .slice none 0 0, .slice none 0 0] 32))
  clear hx1 hy1
  obtain ⟨W3, hW3⟩ : ∃ W3, W3 = w3.alloc (.cells #[.int .u64 i', .int .i64 k', .int .u8 d', .slice none 0 0, .slice none 0 0, .slice none 0 0, .slice none 0 0, .int .i64 q', .int .i64 u', .int .i64 n', .slice none 0 0, .slice none 0 0, .slice none 0 0] 32) := ⟨_, rfl⟩
  rw [← hW3] at hO hX hY hZ b3 ⊢
  clear hW3
  have HC : Hid (∀ W, Below W3.heap.size W3 W → (W.cell? ⟨w.heap.size, 0, none⟩ = some (.int .u64 i) ∧ W.cell? ⟨w.heap.size, 1, none⟩ = some (.int .i64 k) ∧ W.cell? ⟨w.heap.size, 2, none⟩ = some (.int .u8 x) ∧ W.cell? ⟨w.heap.size, 3, none⟩ = some (.slice a3 n3 m3) ∧ W.cell? ⟨w.heap.size, 4, none⟩ = some (.slice a4 n4 m4) ∧ W.cell? ⟨w.heap.size, 5, none⟩ = some (.slice a5 n5 m5) ∧ W.cell? ⟨w.heap.size, 6, none⟩ = some (.slice a6 n6 m6) ∧ W.cell? ⟨w.heap.size, 7, none⟩ = some (.int .i64 q) ∧ W.cell? ⟨w.heap.size, 8, none⟩ = some (.int .i64 u) ∧ W.cell? ⟨w.heap.size, 9, none⟩ = some (.int .i64 n) ∧ W.cell? ⟨w.heap.size, 10, none⟩ = some (.slice a10 n10 m10) ∧ W.cell? ⟨w.heap.size, 11, none⟩ = some (.slice a11 n11 m11) ∧ W.cell? ⟨w.heap.size, 12, none⟩ = some (.slice a12 n12 m12)) ∧ (W.cell? ⟨w1.heap.size, 0, none⟩ = some (.int .u64 1) ∧ W.cell? ⟨w1.heap.size, 1, none⟩ = some (.int .i64 1) ∧ W.cell? ⟨w1.heap.size, 2, none⟩ = some (.int .u8 0) ∧ W.cell? ⟨w1.heap.size, 3, none⟩ = some (.slice none 0 0) ∧ W.cell? ⟨w1.heap.size, 4, none⟩ = some (.slice none 0 0) ∧ W.cell? ⟨w1.heap.size, 5, none⟩ = some (.slice none 0 0) ∧ W.cell? ⟨w1.heap.size, 6, none⟩ = some (.slice none 0 0) ∧ W.cell? ⟨w1.heap.size, 7, none⟩ = some (.int .i64 Q) ∧ W.cell? ⟨w1.heap.size, 8, none⟩ = some (.int .i64 U) ∧ W.cell? ⟨w1.heap.size, 9, none⟩ = some (.int .i64 0) ∧ W.cell? ⟨w1.heap.size, 10, none⟩ = some (.slice none 0 0) ∧ W.cell? ⟨w1.heap.size, 11, none⟩ = some (.slice none 0 0) ∧ W.cell? ⟨w1.heap.size, 12, none⟩ = some (.slice none 0 0)) ∧ (W.cell? ⟨w2.heap.size, 0, none⟩ = some (.int .u64 i') ∧ W.cell? ⟨w2.heap.size, 1, none⟩ = some (.int .i64 k') ∧ W.cell? ⟨w2.heap.size, 2, none⟩ = some (.int .u8 d') ∧ W.cell? ⟨w2.heap.size, 3, none⟩ = some (.slice none 0 0) ∧ W.cell? ⟨w2.heap.size, 4, none⟩ = some (.slice none 0 0) ∧ W.cell? ⟨w2.heap.size, 5, none⟩ = some (.slice none 0 0) ∧ W.cell? ⟨w2.heap.size, 6, none⟩ = some (.slice none 0 0) ∧ W.cell? ⟨w2.heap.size, 7, none⟩ = some (.int .i64 q') ∧ W.cell? ⟨w2.heap.size, 8, none⟩ = some (.int .i64 u') ∧ W.cell? ⟨w2.heap.size, 9, none⟩ = some (.int .i64 n') ∧ W.cell? ⟨w2.heap.size, 10, none⟩ = some (.slice none 0 0) ∧ W.cell? ⟨w2.heap.size, 11, none⟩ = some (.slice none 0 0) ∧ W.cell? ⟨w2.heap.size, 12, none⟩ = some (.slice none 0 0)) ∧ (W.cell? ⟨w3.heap.size, 0, none⟩ = some (.int .u64 i') ∧ W.cell? ⟨w3.heap.size, 1, none⟩ = some (.int .i64 k') ∧ W.cell? ⟨w3.heap.size, 2, none⟩ = some (.int .u8 d') ∧ W.cell? ⟨w3.heap.size, 3, none⟩ = some (.slice none 0 0) ∧ W.cell? ⟨w3.heap.size, 4, none⟩ = some (.slice none 0 0) ∧ W.cell? ⟨w3.heap.size, 5, none⟩ = some (.slice none 0 0) ∧ W.cell? ⟨w3.heap.size, 6, none⟩ = some (.slice none 0 0) ∧ W.cell? ⟨w3.heap.size, 7, none⟩ = some (.int .i64 q') ∧ W.cell? ⟨w3.heap.size, 8, none⟩ = some (.int .i64 u') ∧ W.cell? ⟨w3.heap.size, 9, none⟩ = some (.int .i64 n') ∧ W.cell? ⟨w3.heap.size, 10, none⟩ = some (.slice none 0 0) ∧ W.cell? ⟨w3.heap.size, 11, none⟩ = some (.slice none 0 0) ∧ W.cell? ⟨w3.heap.size, 12, none⟩ = some (.slice none 0 0)) ∧ Below w.heap.size w W) := fun W h =>
    ⟨(hO.below h).cells, (hX.below h).cells, (hY.below h).cells, (hZ.below h).cells, ext_trans b3 h⟩
  clear hO hX hY hZ
  have hB0 : Below W3.heap.size W3 W3.drew := ext_drew _
  generalize hE : addE Q U c = E
  clear hE hB
  refine wp_region_noPanic ?_
  refine wp_region_held_drew (S := fun W => Below W3.heap.size W3 W) (by kernel_rfl) hB0 fun hS => ?_
  refine take_to (i := 0) (v := ?_) 53 rfl rfl (by kernel_rfl) (by kernel_rfl) (by kernel_rfl) (fun _ _ _ h => h) (Or.inl ⟨by rfl, ?_⟩) hS ?_
  rotate_left
  · intro W hW
    obtain ⟨⟨o0, o1, o2, o3, o4, o5, o6, o7, o8, o9, o10, o11, o12⟩, ⟨b0, b1, b2, b3, b4, b5, b6, b7, b8, b9, b10, b11, b12⟩, ⟨x0, x1, x2, x3, x4, x5, x6, x7, x8, x9, x10, x11, x12⟩, ⟨y0, y1, y2, y3, y4, y5, y6, y7, y8, y9, y10, y11, y12⟩, _⟩ := HC.out W hW
    go_simp
    try with_reducible rfl
  simp only [List.setIfInBounds_toArray, List.set_cons_zero, List.set_cons_succ]
  refine take_to (i := 2) (v := ?_) 55 rfl rfl (by kernel_rfl) (by kernel_rfl) (by kernel_rfl) (fun _ _ _ h => h) (Or.inl ⟨by rfl, ?_⟩) hS ?_
  rotate_left
  · intro W hW
    obtain ⟨⟨o0, o1, o2, o3, o4, o5, o6, o7, o8, o9, o10, o11, o12⟩, ⟨b0, b1, b2, b3, b4, b5, b6, b7, b8, b9, b10, b11, b12⟩, ⟨x0, x1, x2, x3, x4, x5, x6, x7, x8, x9, x10, x11, x12⟩, ⟨y0, y1, y2, y3, y4, y5, y6, y7, y8, y9, y10, y11, y12⟩, _⟩ := HC.out W hW
    go_simp
    try with_reducible rfl
  simp only [List.setIfInBounds_toArray, List.set_cons_zero, List.set_cons_succ]
  refine wpAnyH_ready (rs := [1]) (by kernel_rfl) (by simp) ?_
  refine AllReadyH.cons rfl (fun K hK => ?_) AllReadyH.nil
  go_simp
  refine (cost_any i k x q u n _ _ _ _ _ _ _ _ _ _ (by omega) (by omega)).mono ?_
  rintro e w9 ⟨rfl, hB1⟩
  replace hB1 := ext_trans hB0 hB1
  refine hK.out _ _ hB1 fun hS => ?_
  clear hK K
  refine wpAnyH_ready (rs := [3]) (by kernel_rfl) (by simp) ?_
  refine AllReadyH.cons rfl (fun K hK => ?_) AllReadyH.nil
  go_simp
  refine (refCost_any i k x q u n _ _ _ _ _ _ _ _ _ _ (by omega) (by omega)).mono ?_
  rintro e w9 ⟨rfl, hB2⟩
  replace hB2 := ext_trans hB1 hB2
  refine hK.out _ _ hB2 fun hS => ?_
  clear hK K
  refine take_to (i := 4) (v := ?_) 57 rfl rfl (by kernel_rfl) (by kernel_rfl) (by kernel_rfl) (fun _ _ _ h => h) (Or.inl ⟨by rfl, ?_⟩) hS ?_
  rotate_left
  · intro W hW
    obtain ⟨⟨o0, o1, o2, o3, o4, o5, o6, o7, o8, o9, o10, o11, o12⟩, ⟨b0, b1, b2, b3, b4, b5, b6, b7, b8, b9, b10, b11, b12⟩, ⟨x0, x1, x2, x3, x4, x5, x6, x7, x8, x9, x10, x11, x12⟩, ⟨y0, y1, y2, y3, y4, y5, y6, y7, y8, y9, y10, y11, y12⟩, _⟩ := HC.out W hW
    go_simp
    try with_reducible rfl
  simp only [List.setIfInBounds_toArray, List.set_cons_zero, List.set_cons_succ]
  refine take_to (i := 5) (v := ?_) 58 rfl rfl (by kernel_rfl) (by kernel_rfl) (by kernel_rfl) (fun _ _ _ h => h) (Or.inl ⟨by rfl, ?_⟩) hS ?_
  rotate_left
  · intro W hW
    obtain ⟨⟨o0, o1, o2, o3, o4, o5, o6, o7, o8, o9, o10, o11, o12⟩, ⟨b0, b1, b2, b3, b4, b5, b6, b7, b8, b9, b10, b11, b12⟩, ⟨x0, x1, x2, x3, x4, x5, x6, x7, x8, x9, x10, x11, x12⟩, ⟨y0, y1, y2, y3, y4, y5, y6, y7, y8, y9, y10, y11, y12⟩, _⟩ := HC.out W hW
    go_simp
    try with_reducible rfl
  simp only [List.setIfInBounds_toArray, List.set_cons_zero, List.set_cons_succ]
  refine take_to (i := 6) (v := ?_) 59 rfl rfl (by kernel_rfl) (by kernel_rfl) (by kernel_rfl) (fun _ _ _ h => h) (Or.inl ⟨by rfl, ?_⟩) hS ?_
  rotate_left
  · intro W hW
    obtain ⟨⟨o0, o1, o2, o3, o4, o5, o6, o7, o8, o9, o10, o11, o12⟩, ⟨b0, b1, b2, b3, b4, b5, b6, b7, b8, b9, b10, b11, b12⟩, ⟨x0, x1, x2, x3, x4, x5, x6, x7, x8, x9, x10, x11, x12⟩, ⟨y0, y1, y2, y3, y4, y5, y6, y7, y8, y9, y10, y11, y12⟩, _⟩ := HC.out W hW
    go_simp
    try with_reducible rfl
  simp only [List.setIfInBounds_toArray, List.set_cons_zero, List.set_cons_succ]
  refine take_to (i := 7) (v := ?_) 60 rfl rfl (by kernel_rfl) (by kernel_rfl) (by kernel_rfl) (fun _ _ _ h => h) (Or.inl ⟨by rfl, ?_⟩) hS ?_
  rotate_left
  · intro W hW
    obtain ⟨⟨o0, o1, o2, o3, o4, o5, o6, o7, o8, o9, o10, o11, o12⟩, ⟨b0, b1, b2, b3, b4, b5, b6, b7, b8, b9, b10, b11, b12⟩, ⟨x0, x1, x2, x3, x4, x5, x6, x7, x8, x9, x10, x11, x12⟩, ⟨y0, y1, y2, y3, y4, y5, y6, y7, y8, y9, y10, y11, y12⟩, _⟩ := HC.out W hW
    go_simp
    try with_reducible rfl
  simp only [List.setIfInBounds_toArray, List.set_cons_zero, List.set_cons_succ]
  refine take_to (i := 8) (v := ?_) 61 rfl rfl (by kernel_rfl) (by kernel_rfl) (by kernel_rfl) (fun _ _ _ h => h) (Or.inl ⟨by rfl, ?_⟩) hS ?_
  rotate_left
  · intro W hW
    obtain ⟨⟨o0, o1, o2, o3, o4, o5, o6, o7, o8, o9, o10, o11, o12⟩, ⟨b0, b1, b2, b3, b4, b5, b6, b7, b8, b9, b10, b11, b12⟩, ⟨x0, x1, x2, x3, x4, x5, x6, x7, x8, x9, x10, x11, x12⟩, ⟨y0, y1, y2, y3, y4, y5, y6, y7, y8, y9, y10, y11, y12⟩, _⟩ := HC.out W hW
    go_simp
    try with_reducible rfl
  simp only [List.setIfInBounds_toArray, List.set_cons_zero, List.set_cons_succ]
  refine take_to (i := 9) (v := ?_) 62 rfl rfl (by kernel_rfl) (by kernel_rfl) (by kernel_rfl) (fun _ _ _ h => h) (Or.inl ⟨by rfl, ?_⟩) hS ?_
  rotate_left
  · intro W hW
    obtain ⟨⟨o0, o1, o2, o3, o4, o5, o6, o7, o8, o9, o10, o11, o12⟩, ⟨b0, b1, b2, b3, b4, b5, b6, b7, b8, b9, b10, b11, b12⟩, ⟨x0, x1, x2, x3, x4, x5, x6, x7, x8, x9, x10, x11, x12⟩, ⟨y0, y1, y2, y3, y4, y5, y6, y7, y8, y9, y10, y11, y12⟩, _⟩ := HC.out W hW
    go_simp
    try with_reducible rfl
  simp only [List.setIfInBounds_toArray, List.set_cons_zero, List.set_cons_succ]
  refine take_to (i := 10) (v := ?_) 63 rfl rfl (by kernel_rfl) (by kernel_rfl) (by kernel_rfl) (fun _ _ _ h => h) (Or.inl ⟨by rfl, ?_⟩) hS ?_
  rotate_left
  · intro W hW
    obtain ⟨⟨o0, o1, o2, o3, o4, o5, o6, o7, o8, o9, o10, o11, o12⟩, ⟨b0, b1, b2, b3, b4, b5, b6, b7, b8, b9, b10, b11, b12⟩, ⟨x0, x1, x2, x3, x4, x5, x6, x7, x8, x9, x10, x11, x12⟩, ⟨y0, y1, y2, y3, y4, y5, y6, y7, y8, y9, y10, y11, y12⟩, _⟩ := HC.out W hW
    go_simp
    try with_reducible rfl
  simp only [List.setIfInBounds_toArray, List.set_cons_zero, List.set_cons_succ]
  refine take_to (i := 11) (v := ?_) 64 rfl rfl (by kernel_rfl) (by kernel_rfl) (by kernel_rfl) (fun _ _ _ h => h) (Or.inl ⟨by rfl, ?_⟩) hS ?_
  rotate_left
  · intro W hW
    obtain ⟨⟨o0, o1, o2, o3, o4, o5, o6, o7, o8, o9, o10, o11, o12⟩, ⟨b0, b1, b2, b3, b4, b5, b6, b7, b8, b9, b10, b11, b12⟩, ⟨x0, x1, x2, x3, x4, x5, x6, x7, x8, x9, x10, x11, x12⟩, ⟨y0, y1, y2, y3, y4, y5, y6, y7, y8, y9, y10, y11, y12⟩, _⟩ := HC.out W hW
    go_simp
    try with_reducible rfl
  simp only [List.setIfInBounds_toArray, List.set_cons_zero, List.set_cons_succ]
  refine take_to (i := 12) (v := ?_) 65 rfl rfl (by kernel_rfl) (by kernel_rfl) (by kernel_rfl) (fun _ _ _ h => h) (Or.inl ⟨by rfl, ?_⟩) hS ?_
  rotate_left
  · intro W hW
    obtain ⟨⟨o0, o1, o2, o3, o4, o5, o6, o7, o8, o9, o10, o11, o12⟩, ⟨b0, b1, b2, b3, b4, b5, b6, b7, b8, b9, b10, b11, b12⟩, ⟨x0, x1, x2, x3, x4, x5, x6, x7, x8, x9, x10, x11, x12⟩, ⟨y0, y1, y2, y3, y4, y5, y6, y7, y8, y9, y10, y11, y12⟩, _⟩ := HC.out W hW
    go_simp
    try with_reducible rfl
  simp only [List.setIfInBounds_toArray, List.set_cons_zero, List.set_cons_succ]
  refine wpAnyH_ready (rs := [13]) (by kernel_rfl) (by simp) ?_
  refine AllReadyH.cons rfl (fun K hK => ?_) AllReadyH.nil
  go_simp
  refine (same_ov i' k' d' q' u' n' _).mono ?_
  rintro e w9 ⟨rfl, hB3⟩
  replace hB3 := ext_trans hB2 hB3
  refine hK.out _ _ hB3 fun hS => ?_
  clear hK K
  refine take_to (i := 14) (v := ?_) 67 rfl rfl (by kernel_rfl) (by kernel_rfl) (by kernel_rfl) (fun _ _ _ h => h) (Or.inl ⟨by rfl, ?_⟩) hS ?_
  rotate_left
  · intro W hW
    obtain ⟨⟨o0, o1, o2, o3, o4, o5, o6, o7, o8, o9, o10, o11, o12⟩, ⟨b0, b1, b2, b3, b4, b5, b6, b7, b8, b9, b10, b11, b12⟩, ⟨x0, x1, x2, x3, x4, x5, x6, x7, x8, x9, x10, x11, x12⟩, ⟨y0, y1, y2, y3, y4, y5, y6, y7, y8, y9, y10, y11, y12⟩, _⟩ := HC.out W hW
    go_simp
    try with_reducible rfl
  simp only [List.setIfInBounds_toArray, List.set_cons_zero, List.set_cons_succ]
  refine take_to (i := 15) (v := ?_) 68 rfl rfl (by kernel_rfl) (by kernel_rfl) (by kernel_rfl) (fun _ _ _ h => h) (Or.inl ⟨by rfl, ?_⟩) hS ?_
  rotate_left
  · intro W hW
    obtain ⟨⟨o0, o1, o2, o3, o4, o5, o6, o7, o8, o9, o10, o11, o12⟩, ⟨b0, b1, b2, b3, b4, b5, b6, b7, b8, b9, b10, b11, b12⟩, ⟨x0, x1, x2, x3, x4, x5, x6, x7, x8, x9, x10, x11, x12⟩, ⟨y0, y1, y2, y3, y4, y5, y6, y7, y8, y9, y10, y11, y12⟩, _⟩ := HC.out W hW
    go_simp
    try with_reducible rfl
  simp only [List.setIfInBounds_toArray, List.set_cons_zero, List.set_cons_succ]
  refine take_to (i := 16) (v := ?_) 69 rfl rfl (by kernel_rfl) (by kernel_rfl) (by kernel_rfl) (fun _ _ _ h => h) (Or.inl ⟨by rfl, ?_⟩) hS ?_
  rotate_left
  · intro W hW
    obtain ⟨⟨o0, o1, o2, o3, o4, o5, o6, o7, o8, o9, o10, o11, o12⟩, ⟨b0, b1, b2, b3, b4, b5, b6, b7, b8, b9, b10, b11, b12⟩, ⟨x0, x1, x2, x3, x4, x5, x6, x7, x8, x9, x10, x11, x12⟩, ⟨y0, y1, y2, y3, y4, y5, y6, y7, y8, y9, y10, y11, y12⟩, _⟩ := HC.out W hW
    go_simp
    try with_reducible rfl
  simp only [List.setIfInBounds_toArray, List.set_cons_zero, List.set_cons_succ]
  refine take_to (i := 17) (v := ?_) 70 rfl rfl (by kernel_rfl) (by kernel_rfl) (by kernel_rfl) (fun _ _ _ h => h) (Or.inl ⟨by rfl, ?_⟩) hS ?_
  rotate_left
  · intro W hW
    obtain ⟨⟨o0, o1, o2, o3, o4, o5, o6, o7, o8, o9, o10, o11, o12⟩, ⟨b0, b1, b2, b3, b4, b5, b6, b7, b8, b9, b10, b11, b12⟩, ⟨x0, x1, x2, x3, x4, x5, x6, x7, x8, x9, x10, x11, x12⟩, ⟨y0, y1, y2, y3, y4, y5, y6, y7, y8, y9, y10, y11, y12⟩, _⟩ := HC.out W hW
    go_simp
    try with_reducible rfl
  simp only [List.setIfInBounds_toArray, List.set_cons_zero, List.set_cons_succ]
  refine take_to (i := 19) (v := ?_) 72 rfl rfl (by kernel_rfl) (by kernel_rfl) (by kernel_rfl) (fun _ _ _ h => h) (Or.inl ⟨by rfl, ?_⟩) hS ?_
  rotate_left
  · intro W hW
    obtain ⟨⟨o0, o1, o2, o3, o4, o5, o6, o7, o8, o9, o10, o11, o12⟩, ⟨b0, b1, b2, b3, b4, b5, b6, b7, b8, b9, b10, b11, b12⟩, ⟨x0, x1, x2, x3, x4, x5, x6, x7, x8, x9, x10, x11, x12⟩, ⟨y0, y1, y2, y3, y4, y5, y6, y7, y8, y9, y10, y11, y12⟩, _⟩ := HC.out W hW
    go_simp
    try with_reducible rfl
  simp only [List.setIfInBounds_toArray, List.set_cons_zero, List.set_cons_succ]
  refine take_to (i := 20) (v := ?_) 73 rfl rfl (by kernel_rfl) (by kernel_rfl) (by kernel_rfl) (fun _ _ _ h => h) (Or.inl ⟨by rfl, ?_⟩) hS ?_
  rotate_left
  · intro W hW
    obtain ⟨⟨o0, o1, o2, o3, o4, o5, o6, o7, o8, o9, o10, o11, o12⟩, ⟨b0, b1, b2, b3, b4, b5, b6, b7, b8, b9, b10, b11, b12⟩, ⟨x0, x1, x2, x3, x4, x5, x6, x7, x8, x9, x10, x11, x12⟩, ⟨y0, y1, y2, y3, y4, y5, y6, y7, y8, y9, y10, y11, y12⟩, _⟩ := HC.out W hW
    go_simp
    try with_reducible rfl
  simp only [List.setIfInBounds_toArray, List.set_cons_zero, List.set_cons_succ]
  refine wpAnyH_ready (rs := [18]) (by kernel_rfl) (by simp) ?_
  refine AllReadyH.cons rfl (fun K hK => ?_) AllReadyH.nil
  go_simp
  refine (sub_nil 1 1 0 Q U 0 c _ hqu hc).mono ?_
  rintro e w9 ⟨rfl, hB4⟩
  replace hB4 := ext_trans hB3 hB4
  refine hK.out _ _ hB4 fun hS => ?_
  clear hK K
  refine wpAnyH_ready (rs := [21]) (by kernel_rfl) (by simp) ?_
  refine AllReadyH.cons rfl (fun K hK => ?_) AllReadyH.nil
  go_simp
  refine (refSub_nil 1 1 0 Q U 0 c _ hqu hc).mono ?_
  rintro e w9 ⟨rfl, hB5⟩
  replace hB5 := ext_trans hB4 hB5
  refine hK.out _ _ hB5 fun hS => ?_
  clear hK K
  refine wpAnyH_ready (rs := [22]) (by kernel_rfl) (by simp) ?_
  refine AllReadyH.cons rfl (fun K hK => ?_) AllReadyH.nil
  go_simp
  refine (same_ov 1 1 0 Q (subU U c) 0 _).mono ?_
  rintro e w9 ⟨rfl, hB6⟩
  replace hB6 := ext_trans hB5 hB6
  refine hK.out _ _ hB6 fun hS => ?_
  clear hK K
  refine take_to (i := 23) (v := ?_) 76 rfl rfl (by kernel_rfl) (by kernel_rfl) (by kernel_rfl) (fun _ _ _ h => h) (Or.inl ⟨by rfl, ?_⟩) hS ?_
  rotate_left
  · intro W hW
    obtain ⟨⟨o0, o1, o2, o3, o4, o5, o6, o7, o8, o9, o10, o11, o12⟩, ⟨b0, b1, b2, b3, b4, b5, b6, b7, b8, b9, b10, b11, b12⟩, ⟨x0, x1, x2, x3, x4, x5, x6, x7, x8, x9, x10, x11, x12⟩, ⟨y0, y1, y2, y3, y4, y5, y6, y7, y8, y9, y10, y11, y12⟩, _⟩ := HC.out W hW
    go_simp
    try with_reducible rfl
  simp only [List.setIfInBounds_toArray, List.set_cons_zero, List.set_cons_succ]
  refine take_to (i := 24) (v := ?_) 8 rfl rfl (by kernel_rfl) (by kernel_rfl) (by kernel_rfl) (fun _ _ _ h => h) (Or.inl ⟨by rfl, ?_⟩) hS ?_
  rotate_left
  · intro W hW
    obtain ⟨⟨o0, o1, o2, o3, o4, o5, o6, o7, o8, o9, o10, o11, o12⟩, ⟨b0, b1, b2, b3, b4, b5, b6, b7, b8, b9, b10, b11, b12⟩, ⟨x0, x1, x2, x3, x4, x5, x6, x7, x8, x9, x10, x11, x12⟩, ⟨y0, y1, y2, y3, y4, y5, y6, y7, y8, y9, y10, y11, y12⟩, _⟩ := HC.out W hW
    go_simp
    try with_reducible rfl
  simp only [List.setIfInBounds_toArray, List.set_cons_zero, List.set_cons_succ]
  refine wpAnyH_done (by kernel_rfl) ?_ _
  refine NoPanic.normal ?_
  go_wp2_with fail
  go_ret
  obtain ⟨_, _, _, _, bw⟩ := HC.out _ hB6
  exact ⟨rfl, bw⟩
end Go.Proofs.Ytdonhmfjhnmnjaa
