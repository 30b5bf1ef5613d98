/- What obj2.Put answers: a contract, for every object. -/
import Derived.Test.YtkmpmljohjelhaaN2May
import Derived.Test.YtkmpmljohjelhaaScPut
import Derived.Test.YtkmpmljohjelhaaJSet
import Derived.Test.YtkmpmljohjelhaaJRing
import Derived.Test.YtkmpmljohjelhaaJNum
import Derived.Test.YtkmpmljohjelhaaRegion
namespace Go.Proofs.Ytkmpmljohjelhaa
open Go.RowKit
set_option maxRecDepth 100000
set_option linter.unusedVariables false

theorem putB_oneN (x : Int) (h : 0 ≤ x ∧ x < 256) : putB x 1 = [x] := by
  simp only [putB, Int.pow_zero, Int.ediv_one]
  rw [Int.emod_eq_of_lt h.1 h.2]
theorem putN1_is (a : Option Addr) (len cap : Nat) (v : Int) (xs : List Int) (w : World) (hr : Row w a len cap xs) (hbd : len ≤ 1000000) :
    Calls Try.prog 15 #[.slice a len cap, .int .u64 v, .int .i64 1] w fun e w' => ∃ g cap', e = .returned (.slice (some ⟨g, 0, none⟩) (len + 1) cap') ∧ Own 5 w' w.heap.size g (len + 1) cap' (xs ++ putB v 1) ∧ Below w.heap.size w w' :=
  put_in a len cap v 1 (by omega) xs w hr (by omega)
theorem putN2_is (a : Option Addr) (len cap : Nat) (v : Int) (xs : List Int) (w : World) (hr : Row w a len cap xs) (hbd : len ≤ 1000000) :
    Calls Try.prog 15 #[.slice a len cap, .int .u64 v, .int .i64 2] w fun e w' => ∃ g cap', e = .returned (.slice (some ⟨g, 0, none⟩) (len + 2) cap') ∧ Own 5 w' w.heap.size g (len + 2) cap' (xs ++ putB v 2) ∧ Below w.heap.size w w' :=
  put_in a len cap v 2 (by omega) xs w hr (by omega)
theorem putN8_is (a : Option Addr) (len cap : Nat) (v : Int) (xs : List Int) (w : World) (hr : Row w a len cap xs) (hbd : len ≤ 1000000) :
    Calls Try.prog 15 #[.slice a len cap, .int .u64 v, .int .i64 8] w fun e w' => ∃ g cap', e = .returned (.slice (some ⟨g, 0, none⟩) (len + 8) cap') ∧ Own 5 w' w.heap.size g (len + 8) cap' (xs ++ putB v 8) ∧ Below w.heap.size w w' :=
  put_in a len cap v 8 (by omega) xs w hr (by omega)
theorem three_intsN {W : World} {g : Nat} {q u n : Int} {t : TypeId} (h : W.heap[g]? = some (.cells #[.int .i64 q, .int .i64 u, .int .i64 n] t (0, 0))) : W.cell? ⟨g, 0, none⟩ = some (.int .i64 q) ∧ W.cell? ⟨g, 1, none⟩ = some (.int .i64 u) ∧ W.cell? ⟨g, 2, none⟩ = some (.int .i64 n) :=
  ⟨cellOb h rfl, cellOb h rfl, cellOb h rfl⟩

/-- What obj2.putOwn answers of a thing of its kind. -/
def Puts2Own (x : Ob) : Prop := ∀ (a : Option Addr) (len cap : Nat) (bs : List Int) (w : World), x.In w → Row w a len cap bs → len ≤ 1000 →
  Calls Try.prog 16 #[.slice a len cap, .agg #[.int .u64 x.i, .int .i64 x.k, .int .u8 x.d, .slice x.a3 x.n3 x.m3, .slice x.a4 x.n4 x.m4, .slice x.a5 x.n5 x.m5, .slice x.a6 x.n6 x.m6, .int .i64 x.q, .int .i64 x.u, .int .i64 x.n, .slice x.a10 x.n10 x.m10, .slice x.a11 x.n11 x.m11, .slice x.a12 x.n12 x.m12]] w fun e w' => ∃ g n c, e = .returned (.slice (some ⟨g, 0, none⟩) n c) ∧ Own 5 w' w.heap.size g n c (bs ++ ownB x.od) ∧ Below w.heap.size w w'
set_option maxHeartbeats 2000000 in
theorem put2Own_box (i d : Int) (a3 : Option Addr) (n3 m3 : Nat) (a4 : Option Addr) (n4 m4 : Nat) (a5 : Option Addr) (n5 m5 : Nat) (a6 : Option Addr) (n6 m6 : Nat) (q u n : Int) (a10 : Option Addr) (n10 m10 : Nat) (a11 : Option Addr) (n11 m11 : Nat) (a12 : Option Addr) (n12 m12 : Nat) (ps : List (Int × Int)) (va vb vc xs cs : List Int) (ls : List Le) (hw : 0 ≤ u ∧ u ≤ q ∧ q ≤ 400 ∧ 1 ≤ n ∧ n ≤ 64) : Puts2Own ⟨i, 1, d, a3, n3, m3, a4, n4, m4, a5, n5, m5, a6, n6, m6, q, u, n, a10, n10, m10, a11, n11, m11, a12, n12, m12, ps, va, vb, vc, xs, cs, ls⟩ := by
  intro a len cap bs w hx hr hbd
  have hb := obj_below ⟨i, 1, d, a3, n3, m3, a4, n4, m4, a5, n5, m5, a6, n6, m6, q, u, n, a10, n10, m10, a11, n11, m11, a12, n12, m12, ps, va, vb, vc, xs, cs, ls⟩ w
  have hO := obj_at ⟨i, 1, d, a3, n3, m3, a4, n4, m4, a5, n5, m5, a6, n6, m6, q, u, n, a10, n10, m10, a11, n11, m11, a12, n12, m12, ps, va, vb, vc, xs, cs, ls⟩ w
  have HD : Hid (w.alloc (.cells #[.int .u64 i, .int .i64 1, .int .u8 d, .slice a3 n3 m3, .slice a4 n4 m4, .slice a5 n5 m5, .slice a6 n6 m6, .int .i64 q, .int .i64 u, .int .i64 n, .slice a10 n10 m10, .slice a11 n11 m11, .slice a12 n12 m12] 32) = obj ⟨i, 1, d, a3, n3, m3, a4, n4, m4, a5, n5, m5, a6, n6, m6, q, u, n, a10, n10, m10, a11, n11, m11, a12, n12, m12, ps, va, vb, vc, xs, cs, ls⟩ w) := obj_def ⟨i, 1, d, a3, n3, m3, a4, n4, m4, a5, n5, m5, a6, n6, m6, q, u, n, a10, n10, m10, a11, n11, m11, a12, n12, m12, ps, va, vb, vc, xs, cs, ls⟩ w
  rw [show ownB (Ob.od ⟨i, 1, d, a3, n3, m3, a4, n4, m4, a5, n5, m5, a6, n6, m6, q, u, n, a10, n10, m10, a11, n11, m11, a12, n12, m12, ps, va, vb, vc, xs, cs, ls⟩) = putB q 2 ++ putB u 2 ++ putB n 2 from rfl]
  have hsi : (obj ⟨i, 1, d, a3, n3, m3, a4, n4, m4, a5, n5, m5, a6, n6, m6, q, u, n, a10, n10, m10, a11, n11, m11, a12, n12, m12, ps, va, vb, vc, xs, cs, ls⟩ w).heap.size = w.heap.size + 1 := by simp [obj]
  dsimp only
  generalize obj ⟨i, 1, d, a3, n3, m3, a4, n4, m4, a5, n5, m5, a6, n6, m6, q, u, n, a10, n10, m10, a11, n11, m11, a12, n12, m12, ps, va, vb, vc, xs, cs, ls⟩ w = W at hb hO HD hsi
  have h3 : (W.alloc (.cells #[.int .i64 q, .int .i64 u, .int .i64 n] 3)).heap[W.heap.size]? = _ := heap_alloc_new W _
  have b3 := below_alloc W (.cells #[.int .i64 q, .int .i64 u, .int .i64 n] 3)
  have HD3 : Hid (∃ W3, W3 = W.alloc (.cells #[.int .i64 q, .int .i64 u, .int .i64 n] 3)) := ⟨_, rfl⟩
  obtain ⟨W3, hW3⟩ := HD3.out
  rw [← hW3] at h3 b3
  have HW3 : Hid (W.alloc (.cells #[.int .i64 q, .int .i64 u, .int .i64 n] 3) = W3) := hW3.symm
  have hlt : W.heap.size < W3.heap.size := by rw [hW3]; simp
  clear hW3
  rw [hsi] at h3 hlt
  replace b3 := ext_trans hb b3
  have HC : Hid (∀ V, Below W3.heap.size W3 V → (V.cell? ⟨w.heap.size + 1, 0, none⟩ = some (.int .i64 q) ∧ V.cell? ⟨w.heap.size + 1, 1, none⟩ = some (.int .i64 u) ∧ V.cell? ⟨w.heap.size + 1, 2, none⟩ = some (.int .i64 n)) ∧ Row V a len cap bs ∧ Below w.heap.size w V) :=
    fun V hV => ⟨three_intsN ((hV.block _ hlt).trans h3), (hr.below b3).below hV, ext_trans b3 hV⟩
  have hsz : w.heap.size ≤ W3.heap.size := b3.size
  clear h3 b3 hb hsi
  have wq : IntKind.u64.wrap q = q := by rw [IntKind.wrap_u64]; omega
  have wu : IntKind.u64.wrap u = u := by rw [IntKind.wrap_u64]; omega
  have wn : IntKind.u64.wrap n = n := by rw [IntKind.wrap_u64]; omega
  obtain ⟨c0, c1, c2, c3, c4, c5, c6, c7, c8, c9, c10, c11, c12⟩ := hO.cells
  dsimp only at c0 c1 c2 c3 c4 c5 c6 c7 c8 c9 c10 c11 c12
  go_enter Try.func16, Try.ntmps16
  go_wp2_with fail
  rw [HD.out]
  rw [HW3.out]
  go_loopw [0, 6, 19] (fun s0 s6 i wr => (∃ z : Value, s6 = z) ∧ Below W3.heap.size W3 wr ∧ ((i = .int .i64 0 ∧ s0 = .slice a len cap) ∨ (i = .int .i64 1 ∧ ∃ g c, s0 = .slice (some ⟨g, 0, none⟩) (len + 2) c ∧ Own 5 wr w.heap.size g (len + 2) c (bs ++ putB q 2)) ∨
    (i = .int .i64 2 ∧ ∃ g c, s0 = .slice (some ⟨g, 0, none⟩) (len + 4) c ∧ Own 5 wr w.heap.size g (len + 4) c (bs ++ putB q 2 ++ putB u 2)) ∨ (i = .int .i64 3 ∧ ∃ g c, s0 = .slice (some ⟨g, 0, none⟩) (len + 6) c ∧ Own 5 wr w.heap.size g (len + 6) c (bs ++ putB q 2 ++ putB u 2 ++ putB n 2)))) (fun _ _ i _ => 3 - (intOf i).toNat)
  case atStart => exact ⟨⟨_, rfl⟩, Below.refl _ _, .inl ⟨rfl, rfl⟩⟩
  case round =>
    obtain ⟨⟨z, rfl⟩, hB, hs⟩ := hrel
    obtain ⟨⟨y0, y1, y2⟩, hrr, hbw⟩ := HC.out _ hB
    have hsw : w.heap.size ≤ wr.heap.size := hbw.size
    rcases hs with ⟨rfl, rfl⟩ | ⟨rfl, g, c, rfl, o⟩ | ⟨rfl, g, c, rfl, o⟩ | ⟨rfl, g, c, rfl, o⟩
    · have hp := putN2_is a len cap q bs wr hrr (by omega)
      go_wp2_with fail
      refine hp.mono ?_
      rintro e w1 ⟨g1, cc, rfl, o1, b1⟩
      go_wp2
      go_roundw
      case rel => exact ⟨⟨_, rfl⟩, ext_trans hB b1, .inr (.inl ⟨rfl, g1, cc, rfl, o1.mono hsw⟩)⟩
      case measure => simp [intOf]
    · have hp := putN2_is _ _ _ u _ wr o.row (by omega)
      rw [show len + 2 + 2 = len + 4 from rfl] at hp
      go_wp2_with fail
      refine hp.mono ?_
      rintro e w1 ⟨g1, cc, rfl, o1, b1⟩
      go_wp2
      go_roundw
      case rel => exact ⟨⟨_, rfl⟩, ext_trans hB b1, .inr (.inr (.inl ⟨rfl, g1, cc, rfl, o1.mono hsw⟩))⟩
      case measure => simp [intOf]
    · have hp := putN2_is _ _ _ n _ wr o.row (by omega)
      rw [show len + 4 + 2 = len + 6 from rfl] at hp
      go_wp2_with fail
      refine hp.mono ?_
      rintro e w1 ⟨g1, cc, rfl, o1, b1⟩
      go_wp2
      go_roundw
      case rel => exact ⟨⟨_, rfl⟩, ext_trans hB b1, .inr (.inr (.inr ⟨rfl, g1, cc, rfl, o1.mono hsw⟩))⟩
      case measure => simp [intOf]
    · go_wp2_with fail
      go_ret
      refine ⟨g, _, c, rfl, ?_, hbw⟩
      rw [← List.append_assoc, ← List.append_assoc]
      exact o
set_option maxHeartbeats 2000000 in
theorem put2Own_seg (i d : Int) (a3 : Option Addr) (n3 m3 : Nat) (a4 : Option Addr) (n4 m4 : Nat) (a5 : Option Addr) (n5 m5 : Nat) (a6 : Option Addr) (n6 m6 : Nat) (q u n : Int) (a10 : Option Addr) (n10 m10 : Nat) (a11 : Option Addr) (n11 m11 : Nat) (a12 : Option Addr) (n12 m12 : Nat) (ps : List (Int × Int)) (va vb vc xs cs : List Int) (ls : List Le) (hw : xs.length ≤ 64) : Puts2Own ⟨i, 2, d, a3, n3, m3, a4, n4, m4, a5, n5, m5, a6, n6, m6, q, u, n, a10, n10, m10, a11, n11, m11, a12, n12, m12, ps, va, vb, vc, xs, cs, ls⟩ := by
  intro a len cap bs w hx hr hbd
  have hb := obj_below ⟨i, 2, d, a3, n3, m3, a4, n4, m4, a5, n5, m5, a6, n6, m6, q, u, n, a10, n10, m10, a11, n11, m11, a12, n12, m12, ps, va, vb, vc, xs, cs, ls⟩ w
  have h10 := hx.r10.len
  have hx' := hx.below hb
  have HD : Hid (w.alloc (.cells #[.int .u64 i, .int .i64 2, .int .u8 d, .slice a3 n3 m3, .slice a4 n4 m4, .slice a5 n5 m5, .slice a6 n6 m6, .int .i64 q, .int .i64 u, .int .i64 n, .slice a10 n10 m10, .slice a11 n11 m11, .slice a12 n12 m12] 32) = obj ⟨i, 2, d, a3, n3, m3, a4, n4, m4, a5, n5, m5, a6, n6, m6, q, u, n, a10, n10, m10, a11, n11, m11, a12, n12, m12, ps, va, vb, vc, xs, cs, ls⟩ w) := obj_def ⟨i, 2, d, a3, n3, m3, a4, n4, m4, a5, n5, m5, a6, n6, m6, q, u, n, a10, n10, m10, a11, n11, m11, a12, n12, m12, ps, va, vb, vc, xs, cs, ls⟩ w
  rw [show ownB (Ob.od ⟨i, 2, d, a3, n3, m3, a4, n4, m4, a5, n5, m5, a6, n6, m6, q, u, n, a10, n10, m10, a11, n11, m11, a12, n12, m12, ps, va, vb, vc, xs, cs, ls⟩) = putB xs.length 2 ++ xs from rfl]
  dsimp only at h10 ⊢
  generalize obj ⟨i, 2, d, a3, n3, m3, a4, n4, m4, a5, n5, m5, a6, n6, m6, q, u, n, a10, n10, m10, a11, n11, m11, a12, n12, m12, ps, va, vb, vc, xs, cs, ls⟩ w = W at hb hx' HD
  have hp := putBytes_any a len cap bs a10 n10 m10 xs W (hr.below hb) hx'.r10 (by omega) (by omega)
  rw [h10]
  go_enter Try.func16, Try.ntmps16
  go_wp2_with fail
  rw [HD.out]
  refine hp.mono ?_
  rintro e w1 ⟨g, c, rfl, o, b1⟩
  go_wp2_with fail
  go_ret
  refine ⟨g, _, c, rfl, ?_, ext_trans hb b1⟩
  rw [← List.append_assoc]
  exact o.mono hb.size
set_option maxHeartbeats 2000000 in
theorem put2Own_gate (i d : Int) (a3 : Option Addr) (n3 m3 : Nat) (a4 : Option Addr) (n4 m4 : Nat) (a5 : Option Addr) (n5 m5 : Nat) (a6 : Option Addr) (n6 m6 : Nat) (q u n : Int) (a10 : Option Addr) (n10 m10 : Nat) (a11 : Option Addr) (n11 m11 : Nat) (a12 : Option Addr) (n12 m12 : Nat) (ps : List (Int × Int)) (va vb vc xs cs : List Int) (ls : List Le) (hw : mayS cs = true) : Puts2Own ⟨i, 3, d, a3, n3, m3, a4, n4, m4, a5, n5, m5, a6, n6, m6, q, u, n, a10, n10, m10, a11, n11, m11, a12, n12, m12, ps, va, vb, vc, xs, cs, ls⟩ := by
  intro a len cap bs w hx hr hbd
  have hb := obj_below ⟨i, 3, d, a3, n3, m3, a4, n4, m4, a5, n5, m5, a6, n6, m6, q, u, n, a10, n10, m10, a11, n11, m11, a12, n12, m12, ps, va, vb, vc, xs, cs, ls⟩ w
  have h11 := hx.r11.len
  have hx' := hx.below hb
  have HD : Hid (w.alloc (.cells #[.int .u64 i, .int .i64 3, .int .u8 d, .slice a3 n3 m3, .slice a4 n4 m4, .slice a5 n5 m5, .slice a6 n6 m6, .int .i64 q, .int .i64 u, .int .i64 n, .slice a10 n10 m10, .slice a11 n11 m11, .slice a12 n12 m12] 32) = obj ⟨i, 3, d, a3, n3, m3, a4, n4, m4, a5, n5, m5, a6, n6, m6, q, u, n, a10, n10, m10, a11, n11, m11, a12, n12, m12, ps, va, vb, vc, xs, cs, ls⟩ w) := obj_def ⟨i, 3, d, a3, n3, m3, a4, n4, m4, a5, n5, m5, a6, n6, m6, q, u, n, a10, n10, m10, a11, n11, m11, a12, n12, m12, ps, va, vb, vc, xs, cs, ls⟩ w
  rw [show ownB (Ob.od ⟨i, 3, d, a3, n3, m3, a4, n4, m4, a5, n5, m5, a6, n6, m6, q, u, n, a10, n10, m10, a11, n11, m11, a12, n12, m12, ps, va, vb, vc, xs, cs, ls⟩) = putB cs.length 1 ++ encS cs from rfl]
  dsimp only at h11 ⊢
  generalize obj ⟨i, 3, d, a3, n3, m3, a4, n4, m4, a5, n5, m5, a6, n6, m6, q, u, n, a10, n10, m10, a11, n11, m11, a12, n12, m12, ps, va, vb, vc, xs, cs, ls⟩ w = W at hb hx' HD
  have hp := putSet_any a a11 len cap n11 m11 bs cs W (hr.below hb) hx'.r11 hw (by omega)
  rw [h11]
  go_enter Try.func16, Try.ntmps16
  go_wp2_with fail
  rw [HD.out]
  refine hp.mono ?_
  rintro e w1 ⟨g, c, rfl, o, b1⟩
  go_wp2_with fail
  go_ret
  exact ⟨g, _, c, rfl, o.mono hb.size, ext_trans hb b1⟩
set_option maxHeartbeats 2000000 in
theorem put2Own_port (i d : Int) (a3 : Option Addr) (n3 m3 : Nat) (a4 : Option Addr) (n4 m4 : Nat) (a5 : Option Addr) (n5 m5 : Nat) (a6 : Option Addr) (n6 m6 : Nat) (q u n : Int) (a10 : Option Addr) (n10 m10 : Nat) (a11 : Option Addr) (n11 m11 : Nat) (a12 : Option Addr) (n12 m12 : Nat) (ps : List (Int × Int)) (va vb vc xs cs : List Int) (ls : List Le) (hw : mayT (txt ls) = true) : Puts2Own ⟨i, 4, d, a3, n3, m3, a4, n4, m4, a5, n5, m5, a6, n6, m6, q, u, n, a10, n10, m10, a11, n11, m11, a12, n12, m12, ps, va, vb, vc, xs, cs, ls⟩ := by
  intro a len cap bs w hx hr hbd
  have hb := obj_below ⟨i, 4, d, a3, n3, m3, a4, n4, m4, a5, n5, m5, a6, n6, m6, q, u, n, a10, n10, m10, a11, n11, m11, a12, n12, m12, ps, va, vb, vc, xs, cs, ls⟩ w
  have hx' := hx.below hb
  have HD : Hid (w.alloc (.cells #[.int .u64 i, .int .i64 4, .int .u8 d, .slice a3 n3 m3, .slice a4 n4 m4, .slice a5 n5 m5, .slice a6 n6 m6, .int .i64 q, .int .i64 u, .int .i64 n, .slice a10 n10 m10, .slice a11 n11 m11, .slice a12 n12 m12] 32) = obj ⟨i, 4, d, a3, n3, m3, a4, n4, m4, a5, n5, m5, a6, n6, m6, q, u, n, a10, n10, m10, a11, n11, m11, a12, n12, m12, ps, va, vb, vc, xs, cs, ls⟩ w) := obj_def ⟨i, 4, d, a3, n3, m3, a4, n4, m4, a5, n5, m5, a6, n6, m6, q, u, n, a10, n10, m10, a11, n11, m11, a12, n12, m12, ps, va, vb, vc, xs, cs, ls⟩ w
  rw [show ownB (Ob.od ⟨i, 4, d, a3, n3, m3, a4, n4, m4, a5, n5, m5, a6, n6, m6, q, u, n, a10, n10, m10, a11, n11, m11, a12, n12, m12, ps, va, vb, vc, xs, cs, ls⟩) = ringB (txt ls) from rfl]
  dsimp only
  generalize obj ⟨i, 4, d, a3, n3, m3, a4, n4, m4, a5, n5, m5, a6, n6, m6, q, u, n, a10, n10, m10, a11, n11, m11, a12, n12, m12, ps, va, vb, vc, xs, cs, ls⟩ w = W at hb hx' HD
  have hp := put_okR a len cap bs a12 n12 m12 ls W (hr.below hb) hx'.r12 hw (by omega)
  go_enter Try.func16, Try.ntmps16
  go_wp2_with fail
  rw [HD.out]
  refine hp.mono ?_
  rintro e w1 ⟨g, k1, c, rfl, o, b1⟩
  go_wp2_with fail
  go_ret
  exact ⟨g, _, c, rfl, o.mono hb.size, ext_trans hb b1⟩
theorem put2Own_any (x : Ob) (hk : isK x.k = true) (hw : mayW x.od = true) : Puts2Own x := by
  have hk' := isK_iff.1 hk
  obtain ⟨i, k, d, a3, n3, m3, a4, n4, m4, a5, n5, m5, a6, n6, m6, q, u, n, a10, n10, m10, a11, n11, m11, a12, n12, m12, ps, va, vb, vc, xs, cs, ls⟩ := x
  dsimp only at hk' hk
  obtain rfl | rfl | rfl | rfl : k = 1 ∨ k = 2 ∨ k = 3 ∨ k = 4 := by omega
  · exact put2Own_box i d a3 n3 m3 a4 n4 m4 a5 n5 m5 a6 n6 m6 q u n a10 n10 m10 a11 n11 m11 a12 n12 m12 ps va vb vc xs cs ls ((mayW1 (o := Ob.od ⟨i, 1, d, a3, n3, m3, a4, n4, m4, a5, n5, m5, a6, n6, m6, q, u, n, a10, n10, m10, a11, n11, m11, a12, n12, m12, ps, va, vb, vc, xs, cs, ls⟩) rfl).1 hw)
  · exact put2Own_seg i d a3 n3 m3 a4 n4 m4 a5 n5 m5 a6 n6 m6 q u n a10 n10 m10 a11 n11 m11 a12 n12 m12 ps va vb vc xs cs ls ((mayW2 (o := Ob.od ⟨i, 2, d, a3, n3, m3, a4, n4, m4, a5, n5, m5, a6, n6, m6, q, u, n, a10, n10, m10, a11, n11, m11, a12, n12, m12, ps, va, vb, vc, xs, cs, ls⟩) rfl).1 hw)
  · exact put2Own_gate i d a3 n3 m3 a4 n4 m4 a5 n5 m5 a6 n6 m6 q u n a10 n10 m10 a11 n11 m11 a12 n12 m12 ps va vb vc xs cs ls ((mayW3 (o := Ob.od ⟨i, 3, d, a3, n3, m3, a4, n4, m4, a5, n5, m5, a6, n6, m6, q, u, n, a10, n10, m10, a11, n11, m11, a12, n12, m12, ps, va, vb, vc, xs, cs, ls⟩) rfl).symm.trans hw)
  · exact put2Own_port i d a3 n3 m3 a4 n4 m4 a5 n5 m5 a6 n6 m6 q u n a10 n10 m10 a11 n11 m11 a12 n12 m12 ps va vb vc xs cs ls ((mayW4 (o := Ob.od ⟨i, 4, d, a3, n3, m3, a4, n4, m4, a5, n5, m5, a6, n6, m6, q, u, n, a10, n10, m10, a11, n11, m11, a12, n12, m12, ps, va, vb, vc, xs, cs, ls⟩) rfl).symm.trans hw)

set_option maxHeartbeats 4000000 in
theorem obPut2_any (x : Ob) (w : World) (hx : x.In w) : Calls Try.prog 9 #[.agg #[.int .u64 x.i, .int .i64 x.k, .int .u8 x.d, .slice x.a3 x.n3 x.m3, .slice x.a4 x.n4 x.m4, .slice x.a5 x.n5 x.m5, .slice x.a6 x.n6 x.m6, .int .i64 x.q, .int .i64 x.u, .int .i64 x.n, .slice x.a10 x.n10 x.m10, .slice x.a11 x.n11 x.m11, .slice x.a12 x.n12 x.m12]] w fun e w' => ∃ (a : Option Addr) (n c : Nat) (E : Int), e = .returned (.tuple #[.slice a n c, .int .i64 E]) ∧ Below w.heap.size w w' ∧
    ((mayD2 x.od = true ∧ E = 0 ∧ ∃ g, a = some ⟨g, 0, none⟩ ∧ Own 5 w' w.heap.size g n c (encD2 x.od)) ∨ (mayD2 x.od = false ∧ E = 1 ∧ a = none ∧ n = 0 ∧ c = 0)) := by
  have hb := obj_below x w
  have hO := obj_at x w
  have HD : Hid (w.alloc (.cells #[.int .u64 x.i, .int .i64 x.k, .int .u8 x.d, .slice x.a3 x.n3 x.m3, .slice x.a4 x.n4 x.m4, .slice x.a5 x.n5 x.m5, .slice x.a6 x.n6 x.m6, .int .i64 x.q, .int .i64 x.u, .int .i64 x.n, .slice x.a10 x.n10 x.m10, .slice x.a11 x.n11 x.m11, .slice x.a12 x.n12 x.m12] 32) = obj x w) := obj_def x w
  have hx' := hx.below hb
  generalize obj x w = W at hb hx' hO HD
  have hM := obMay2_any x W hx'
  have HC : Hid (∀ V, Below W.heap.size W V → (V.cell? ⟨w.heap.size, 0, none⟩ = some (.int .u64 x.i) ∧ V.cell? ⟨w.heap.size, 1, none⟩ = some (.int .i64 x.k) ∧ V.cell? ⟨w.heap.size, 2, none⟩ = some (.int .u8 x.d) ∧ V.cell? ⟨w.heap.size, 3, none⟩ = some (.slice x.a3 x.n3 x.m3) ∧ V.cell? ⟨w.heap.size, 4, none⟩ = some (.slice x.a4 x.n4 x.m4) ∧ V.cell? ⟨w.heap.size, 5, none⟩ = some (.slice x.a5 x.n5 x.m5) ∧ V.cell? ⟨w.heap.size, 6, none⟩ = some (.slice x.a6 x.n6 x.m6) ∧ V.cell? ⟨w.heap.size, 7, none⟩ = some (.int .i64 x.q) ∧ V.cell? ⟨w.heap.size, 8, none⟩ = some (.int .i64 x.u) ∧ V.cell? ⟨w.heap.size, 9, none⟩ = some (.int .i64 x.n) ∧ V.cell? ⟨w.heap.size, 10, none⟩ = some (.slice x.a10 x.n10 x.m10) ∧ V.cell? ⟨w.heap.size, 11, none⟩ = some (.slice x.a11 x.n11 x.m11) ∧ V.cell? ⟨w.heap.size, 12, none⟩ = some (.slice x.a12 x.n12 x.m12)) ∧ Below w.heap.size w V ∧ x.In V) :=
    fun V h => ⟨(hO.below h).cells, ext_trans hb h, hx'.below h⟩
  have hsw := hb.size
  clear hO hb
  cases hm : mayD2 x.od
  · rw [hm] at hM
    clear hm
    go_enter Try.func9, Try.ntmps9
    go_wp2_with fail
    rw [HD.out]
    refine hM.mono ?_
    rintro e w1 ⟨rfl, b1⟩
    obtain ⟨_, b, _⟩ := HC.out _ b1
    go_wp2_with fail
    go_ret2
    exact ⟨none, 0, 0, 1, rfl, b, .inr ⟨by first | rfl | trivial, rfl, rfl, rfl, rfl⟩⟩
  rw [hm] at hM
  obtain ⟨_, hk, hp, hw⟩ := mayD2_iff.1 hm
  have hk' : 1 ≤ x.k ∧ x.k ≤ 4 := isK_iff.1 hk
  have hB := mayQ_V hp
  have hPO := put2Own_any x hk hw
  have hn3 : x.n4 + x.n5 + x.n6 ≤ 16 := by have h : x.va.length + x.vb.length + x.vc.length ≤ 16 := mayB_len hB; have := hx.r4.len; have := hx.r5.len; have := hx.r6.len; omega
  obtain ⟨M, hMM⟩ : ∃ M, M = 3 + 2 * (x.n4 + x.n5 + x.n6) := ⟨_, rfl⟩
  have hM35 : M ≤ 35 := by omega
  have HMM : Hid (M = 3 + 2 * (x.n4 + x.n5 + x.n6)) := hMM
  clear hMM
  have wk : IntKind.u64.wrap x.k = x.k := by rw [IntKind.wrap_u64]; omega
  have HK : Hid (1 ≤ x.k ∧ x.k ≤ 4) := hk'
  have HBB0 : Hid (mayV x.va x.vb x.vc = true) := hB
  clear hm hk hp hw hk' hB
  go_enter Try.func9, Try.ntmps9
  go_wp2_with fail
  rw [HD.out]
  refine hM.mono ?_
  rintro e w1 ⟨rfl, b1⟩
  have hp1 := putN1_is none 0 0 2 [] w1 (Row.nil _) (by omega)
  go_wp2_with fail
  refine hp1.mono ?_
  rintro e w2 ⟨g2, cc2, rfl, o2, b2⟩
  replace b2 := ext_trans b1 b2
  obtain ⟨⟨c0, c1, c2, c3, c4, c5, c6, c7, c8, c9, c10, c11, c12⟩, _, _⟩ := HC.out _ b2
  have hp2 := putN1_is _ _ _ x.k _ w2 o2.row (by omega)
  go_wp2_with fail
  refine hp2.mono ?_
  rintro e w3 ⟨g3, cc3, rfl, o3, b3⟩
  replace b3 := ext_trans b2 b3
  clear c0 c1 c2 c3 c4 c5 c6 c7 c8 c9 c10 c11 c12 o2
  obtain ⟨⟨c0, c1, c2, c3, c4, c5, c6, c7, c8, c9, c10, c11, c12⟩, _, _⟩ := HC.out _ b3
  have hp3 := putN8_is _ _ _ x.i _ w3 o3.row (by omega)
  go_wp2_with fail
  refine hp3.mono ?_
  rintro e W3 ⟨g4, cc4, rfl, o4, b4⟩
  have bW3 := ext_trans b3 b4
  rw [List.nil_append, putB_oneN 2 (by omega), putB_oneN x.k (by have := HK.out; omega)] at o4
  rw [show 0 + 1 + 1 + 8 = 10 from rfl] at o4
  clear c0 c1 c2 c3 c4 c5 c6 c7 c8 c9 c10 c11 c12 hp1 hp2 hp3 o3 b1 b2 b3 b4 hM
  obtain ⟨⟨c0, c1, c2, c3, c4, c5, c6, c7, c8, c9, c10, c11, c12⟩, _, hIn⟩ := HC.out _ bW3
  have hLP := fun V (hV : Below W3.heap.size W3 V) => sput_any (some ⟨g4, 0, none⟩) 10 cc4 _ ⟨x.a4, x.n4, x.m4, x.va, x.a5, x.n5, x.m5, x.vb, x.a6, x.n6, x.m6, x.vc⟩ M HMM.out V (o4.row.below hV) ⟨hIn.r4.below hV, hIn.r5.below hV, hIn.r6.below hV⟩ HBB0.out (by omega)
  dsimp only at hLP
  clear c0 c1 c2 c3 c4 c5 c6 c7 c8 c9 c10 c11 c12 hIn
  go_wp2_with fail
  refine wp_region_noPanic ?_
  refine wp_region_held_drew (S := fun V => Below W3.heap.size W3 V) (by kernel_rfl) (ext_drew _) fun hS => ?_
  have HBZ : Below W3.heap.size W3 W3.drew := ext_drew _
  have hLP' := hLP _ HBZ
  refine take_to (i := 0) (v := ?_) 18 rfl rfl (by kernel_rfl) (by kernel_rfl) (by kernel_rfl) (fun _ _ _ h => h) (Or.inl ⟨by rfl, ?_⟩) hS ?_
  rotate_left
  · intro V hV
    obtain ⟨⟨c0, c1, c2, c3, c4, c5, c6, c7, c8, c9, c10, c11, c12⟩, _, _⟩ := HC.out V (ext_trans bW3 hV)
    go_simp
    try with_reducible rfl
  simp only [List.setIfInBounds_toArray, List.set_cons_zero, List.set_cons_succ]
  refine take_to (i := 1) (v := ?_) 19 rfl rfl (by kernel_rfl) (by kernel_rfl) (by kernel_rfl) (fun _ _ _ h => h) (Or.inl ⟨by rfl, ?_⟩) hS ?_
  rotate_left
  · intro V hV
    obtain ⟨⟨c0, c1, c2, c3, c4, c5, c6, c7, c8, c9, c10, c11, c12⟩, _, _⟩ := HC.out V (ext_trans bW3 hV)
    go_simp
    try with_reducible rfl
  simp only [List.setIfInBounds_toArray, List.set_cons_zero, List.set_cons_succ]
  refine take_to (i := 2) (v := ?_) 20 rfl rfl (by kernel_rfl) (by kernel_rfl) (by kernel_rfl) (fun _ _ _ h => h) (Or.inl ⟨by rfl, ?_⟩) hS ?_
  rotate_left
  · intro V hV
    obtain ⟨⟨c0, c1, c2, c3, c4, c5, c6, c7, c8, c9, c10, c11, c12⟩, _, _⟩ := HC.out V (ext_trans bW3 hV)
    go_simp
    try with_reducible rfl
  simp only [List.setIfInBounds_toArray, List.set_cons_zero, List.set_cons_succ]
  refine take_to (i := 4) (v := ?_) 22 rfl rfl (by kernel_rfl) (by kernel_rfl) (by kernel_rfl) (fun _ _ _ h => h) (Or.inl ⟨by rfl, ?_⟩) hS ?_
  rotate_left
  · intro V hV
    obtain ⟨⟨c0, c1, c2, c3, c4, c5, c6, c7, c8, c9, c10, c11, c12⟩, _, _⟩ := HC.out V (ext_trans bW3 hV)
    go_simp
    try with_reducible rfl
  simp only [List.setIfInBounds_toArray, List.set_cons_zero, List.set_cons_succ]
  refine wpAnyH_ready (rs := [3]) (by kernel_rfl) (by simp) ?_
  refine AllReadyH.cons rfl (fun K hK => ?_) AllReadyH.nil
  go_simp
  refine hLP'.mono ?_
  rintro e W5 ⟨g5, cc5, rfl, o5, b5⟩
  have HBB := ext_trans HBZ b5
  refine hK.out _ _ HBB fun hS => ?_
  clear hK K
  obtain ⟨_, _, hIn⟩ := HC.out _ (ext_trans bW3 HBB)
  have hPO' := hPO _ _ _ _ W5 hIn o5.row (by omega)
  have hB5 := HBB
  clear HBB
  refine wpAnyH_ready (rs := [5]) (by kernel_rfl) (by simp) ?_
  refine AllReadyH.cons rfl (fun K hK => ?_) AllReadyH.nil
  go_simp
  refine hPO'.mono ?_
  rintro e W6 ⟨g6, n6, cc6, rfl, o6, b6⟩
  have HBB := ext_trans hB5 b6
  refine hK.out _ _ HBB fun hS => ?_
  clear hK K
  refine take_to (i := 6) (v := ?_) 2 rfl rfl (by kernel_rfl) (by kernel_rfl) (by kernel_rfl) (fun _ _ _ h => h) (Or.inl ⟨by rfl, ?_⟩) hS ?_
  rotate_left
  · intro V hV
    obtain ⟨⟨c0, c1, c2, c3, c4, c5, c6, c7, c8, c9, c10, c11, c12⟩, _, _⟩ := HC.out V (ext_trans bW3 hV)
    go_simp
    try with_reducible rfl
  simp only [List.setIfInBounds_toArray, List.set_cons_zero, List.set_cons_succ]
  refine take_to (i := 7) (v := ?_) 3 rfl rfl (by kernel_rfl) (by kernel_rfl) (by kernel_rfl) (fun _ _ _ h => h) (Or.inl ⟨by rfl, ?_⟩) hS ?_
  rotate_left
  · intro V hV
    obtain ⟨⟨c0, c1, c2, c3, c4, c5, c6, c7, c8, c9, c10, c11, c12⟩, _, _⟩ := HC.out V (ext_trans bW3 hV)
    go_simp
    try with_reducible rfl
  simp only [List.setIfInBounds_toArray, List.set_cons_zero, List.set_cons_succ]
  refine wpAnyH_done (by kernel_rfl) ?_ _
  refine NoPanic.normal ?_
  obtain ⟨_, bw, _⟩ := HC.out _ (ext_trans bW3 HBB)
  have hz : w.heap.size ≤ W5.heap.size := by have := bW3.size; have := hB5.size; omega
  go_wp2_with fail
  go_ret2
  refine ⟨_, _, _, _, rfl, bw, .inl ⟨by first | rfl | trivial, rfl, g6, rfl, ?_⟩⟩
  have o7 := o6.mono hz
  rw [List.append_assoc, List.append_assoc] at o7
  exact o7
end Go.Proofs.Ytkmpmljohjelhaa
