/- Object2All walked: it answers true, and turns nothing that was there. -/
import Derived.Test.YtkmpmljohjelhaaN2Begun
import Derived.Test.YtkmpmljohjelhaaN2Ref
import Derived.Test.YtkmpmljohjelhaaJRing
namespace Go.Proofs.Ytkmpmljohjelhaa
open Go.RowKit
set_option maxRecDepth 100000
set_option linter.unusedVariables false

set_option maxHeartbeats 4000000 in
theorem object2All_walk (x : Ob) (w : World) (hx : x.In w) : Calls Try.prog 3 #[.agg #[.int .u64 x.i, .int .i64 x.k, .int .u8 x.d, .slice x.a3 x.n3 x.m3, .slice x.a4 x.n4 x.m4, .slice x.a5 x.n5 x.m5, .slice x.a6 x.n6 x.m6, .int .i64 x.q, .int .i64 x.u, .int .i64 x.n, .slice x.a10 x.n10 x.m10, .slice x.a11 x.n11 x.m11, .slice x.a12 x.n12 x.m12]] w fun e w' => e = .returned (.bool true) ∧ Below w.heap.size w w' := by
  have hb := obj_below x w
  have hO := obj_at x w
  have HD : Hid (w.alloc (.cells #[.int .u64 x.i, .int .i64 x.k, .int .u8 x.d, .slice x.a3 x.n3 x.m3, .slice x.a4 x.n4 x.m4, .slice x.a5 x.n5 x.m5, .slice x.a6 x.n6 x.m6, .int .i64 x.q, .int .i64 x.u, .int .i64 x.n, .slice x.a10 x.n10 x.m10, .slice x.a11 x.n11 x.m11, .slice x.a12 x.n12 x.m12] 32) = obj x w) := obj_def x w
  have hx' := hx.below hb
  generalize obj x w = W at hb hx' hO HD
  have HC : Hid (∀ V, Below W.heap.size W V → (V.cell? ⟨w.heap.size, 0, none⟩ = some (.int .u64 x.i) ∧ V.cell? ⟨w.heap.size, 1, none⟩ = some (.int .i64 x.k) ∧ V.cell? ⟨w.heap.size, 2, none⟩ = some (.int .u8 x.d) ∧ V.cell? ⟨w.heap.size, 3, none⟩ = some (.slice x.a3 x.n3 x.m3) ∧ V.cell? ⟨w.heap.size, 4, none⟩ = some (.slice x.a4 x.n4 x.m4) ∧ V.cell? ⟨w.heap.size, 5, none⟩ = some (.slice x.a5 x.n5 x.m5) ∧ V.cell? ⟨w.heap.size, 6, none⟩ = some (.slice x.a6 x.n6 x.m6) ∧ V.cell? ⟨w.heap.size, 7, none⟩ = some (.int .i64 x.q) ∧ V.cell? ⟨w.heap.size, 8, none⟩ = some (.int .i64 x.u) ∧ V.cell? ⟨w.heap.size, 9, none⟩ = some (.int .i64 x.n) ∧ V.cell? ⟨w.heap.size, 10, none⟩ = some (.slice x.a10 x.n10 x.m10) ∧ V.cell? ⟨w.heap.size, 11, none⟩ = some (.slice x.a11 x.n11 x.m11) ∧ V.cell? ⟨w.heap.size, 12, none⟩ = some (.slice x.a12 x.n12 x.m12)) ∧ Below w.heap.size w V ∧ x.In V) :=
    fun V h => ⟨(hO.below h).cells, ext_trans hb h, hx'.below h⟩
  clear hO hb
  go_enter Try.func3, Try.ntmps3
  go_wp2_with fail
  rw [HD.out]
  refine (begun18_true _).mono ?_
  rintro e w1 ⟨rfl, b1⟩
  obtain ⟨⟨c0, c1, c2, c3, c4, c5, c6, c7, c8, c9, c10, c11, c12⟩, _, _⟩ := HC.out _ b1
  have hl := light18_any x w1
  go_wp2_with fail
  refine hl.mono ?_
  rintro e w2 ⟨b, rfl, b2, hlt⟩
  replace b2 := ext_trans b1 b2
  clear c0 c1 c2 c3 c4 c5 c6 c7 c8 c9 c10 c11 c12 hl b1
  cases b
  · obtain ⟨_, bw, _⟩ := HC.out _ b2
    go_wp2_with fail
    go_ret
    exact ⟨rfl, bw⟩
  have h30 := (hlt rfl).1
  clear hlt
  obtain ⟨⟨c0, c1, c2, c3, c4, c5, c6, c7, c8, c9, c10, c11, c12⟩, _, hi⟩ := HC.out _ b2
  have hp := obPut2_any x w2 hi
  go_wp2_with fail
  refine hp.mono ?_
  rintro e w3 ⟨a, n, c, E, rfl, b3, h⟩
  have b3' := b3
  replace b3 := ext_trans b2 b3
  clear c0 c1 c2 c3 c4 c5 c6 c7 c8 c9 c10 c11 c12 hi hp b2
  obtain ⟨⟨c0, c1, c2, c3, c4, c5, c6, c7, c8, c9, c10, c11, c12⟩, _, hi⟩ := HC.out _ b3
  have hq := put2N_any x w3 hi
  go_wp2_with fail
  refine hq.mono ?_
  rintro e w4 ⟨a', n', c', E', rfl, b4, h'⟩
  obtain ⟨_, bw, _⟩ := HC.out _ (ext_trans b3 b4)
  clear c0 c1 c2 c3 c4 c5 c6 c7 c8 c9 c10 c11 c12 hi hq
  rcases h with ⟨hm, rfl, g, rfl, o⟩ | ⟨hm, rfl, rfl, rfl, rfl⟩
  · rcases h' with ⟨_, rfl, g', rfl, o'⟩ | ⟨hm', _⟩
    · have s1 := strR.out w4 _ _ _ _ (o.row.below b4)
      have s2 := strR.out w4 _ _ _ _ o'.row
      go_wp2_with fail
      go_ret
      exact ⟨rfl, bw⟩
    · rw [hm] at hm'; exact absurd hm' (by simp)
  · rcases h' with ⟨hm', _⟩ | ⟨_, rfl, rfl, rfl, rfl⟩
    · rw [hm] at hm'; exact absurd hm' (by simp)
    · have s1 := strR.out w4 none 0 0 [] (Row.nil _)
      go_wp2_with fail
      go_ret
      exact ⟨rfl, bw⟩
end Go.Proofs.Ytkmpmljohjelhaa
