/- From what a row hands over (a slice of bytes that came in; an integer that fits its kind) to what the walks ask. From what a row hands over (a slice of bytes that came in) to what the walks ask. From what a row hands over (a label, a slice of pairs that came in) to what the walks ask. From what a row hands over (a slice of slices of bytes that came in) to what the walks ask. From what a row hands over (an object that came in) to what the walks ask: its cells one by one, and how each of its lists reads. -/
import Derived.Test.YtkmpmljohjelhaaJBase
import Derived.OpenShut
import Derived.Test.YtkmpmljohjelhaaRows
import Derived.Lib.SmallJoins
import Derived.Test.YtkmpmljohjelhaaLab
import Derived.Deep.SlicePairs
import Derived.Test.YtkmpmljohjelhaaRings
import Derived.Deep.Matrix
namespace Go.Proofs.Ytkmpmljohjelhaa
open Go.RowKit
set_option maxRecDepth 100000

theorem row_of {w : World} {a : Option Addr} {len cap : Nat} {zs : List Int}
    (h : (a = none ∧ len = 0 ∧ cap = 0 ∧ zs = []) ∨ ∃ x, a = some x ∧ len ≤ cap ∧ cap ≤ maxLen ∧ zs.length = cap ∧ (∀ i, i < zs.length → w.cell? (x.add i) = some (.int .u8 (zs.getD i 0))) ∧ ∀ n ∈ zs, (Lit.int .u8 n).wf = true) :
    Row w a len cap (zs.take len) := by
  rcases h with ⟨rfl, rfl, rfl, rfl⟩ | ⟨x, rfl, hl, hm, hz, hcell, hwz⟩
  · exact Row.nil w
  · refine ⟨by simp; omega, hl, hm, fun y hy => ?_, fun h => by simp at h, fun hp => ?_, fun y hy i hi => ?_⟩
    · have := bounds_u8 (hwz y (List.mem_of_mem_take hy)); omega
    · have hc := hcell 0 (by omega)
      obtain ⟨b, off, spot⟩ := x
      have hspot : spot = none := by simpa [Addr.add] using World.cell?_spot hc
      subst hspot
      exact ⟨b, off, rfl⟩
    · obtain rfl := Option.some.inj hy
      rw [hcell i (by omega)]
      simp [List.getD, hi]
end Go.Proofs.Ytkmpmljohjelhaa

namespace Go.Proofs.Ytkmpmljohjelhaa
open Go.RowKit Go.ChangeShapes Go.WideShapes
set_option maxRecDepth 100000

theorem open_bytes_arg {H : Type} {enc : TypeId × Value → H} {W : World} {r : Reach} {b0 base : Nat} {held : Bool} {v : Value} {d : DataW H} {p : List MemPlace} (hv : Value.okWide Try.prog W r b0 29 v)
    (h : DataW.Trod enc Try.prog W base (fun _ => true) held 29 v d p) : ∃ (a : Option Addr) (n cap : Nat) (xs : List Int), v = .slice a n cap ∧ Row W a n cap xs := by
  obtain ⟨a, n, cap, rfl⟩ := okWide_slice Try.underlying29 hv
  obtain ⟨fuel, hf⟩ := h
  rcases open_ints Try.underlying29 Try.underlying5 (by kernel_rfl) hf with ⟨hcs, _⟩ | ⟨x, l, c, zs, hcs, _, hl, hm, hz, _, hcell, hwz⟩
  · simp [Value.cells] at hcs
    obtain ⟨rfl, rfl, rfl⟩ := hcs
    exact ⟨_, _, _, _, rfl, row_of (zs := []) (.inl ⟨rfl, rfl, rfl, rfl⟩)⟩
  · simp [Value.cells] at hcs
    obtain ⟨rfl, rfl, rfl⟩ := hcs
    exact ⟨_, _, _, _, rfl, row_of (zs := zs) (.inr ⟨_, rfl, hl, hm, by simpa using hz, hcell, hwz⟩)⟩
end Go.Proofs.Ytkmpmljohjelhaa

namespace Go.Proofs.Ytkmpmljohjelhaa
open Go.RowKit Go.ChangeShapes Go.WideShapes
set_option maxRecDepth 100000

theorem cells24 : Try.prog.cellsOf 25 = 2 := by kernel_rfl
theorem cells29 : Try.prog.cellsOf 111 = 2 := by kernel_rfl
theorem cells25 : Try.prog.cellsOf 42 = 1 := by kernel_rfl
theorem cells5 : Try.prog.cellsOf 5 = 1 := by kernel_rfl

theorem open_pairs {H : Type} {enc : TypeId × Value → H} {W : World} {base : Nat} {held : Bool} {fuel : Nat} {v : Value} {x : DataW H × List MemPlace}
    (h : DataW.trod enc Try.prog W base (fun _ => true) held fuel 23 [v] = some x) : ∃ (a : Option Addr) (n cap : Nat) (xs : List (Int × Int)), v = .slice a n cap ∧ RowG PE W a n cap xs := by
  rcases Go.Deep.open_slice_pairs Try.underlying23 Try.underlying111 cells29 rfl rfl cells25 cells5 h with ⟨hcs, _⟩ | ⟨a, len, cap, m, n, V0, V1, D0, D1, P0, P1, hcs, _, hl, hm, hmm, _, hx⟩
  · obtain rfl : v = .slice none 0 0 := by simpa using hcs
    exact ⟨none, 0, 0, [], rfl, RowG.nil _ _⟩
  · obtain rfl : v = .slice (some a) len cap := by simpa using hcs
    simp only [if_true] at hmm
    subst hmm
    have hv : ∀ i, i < m → ∃ x y : Int, V0 i = .int .u16 x ∧ V1 i = .int .u8 y ∧ ((0 ≤ x ∧ x < 65536) ∧ 0 ≤ y ∧ y < 256) := by
      intro i hi
      obtain ⟨_, _, h0, h1⟩ := hx i hi
      obtain ⟨x, e0, _, wx⟩ := DataW.trod_int Try.underlying42 h0
      obtain ⟨y, e1, _, wy⟩ := DataW.trod_int Try.underlying5 h1
      have b0 := bounds_u16 wx
      have b1 := bounds_u8 wy
      exact ⟨x, y, by simpa using e0, by simpa using e1, by omega, by omega⟩
    have hspot : 0 < len → ∃ b off, a = ⟨b, off, none⟩ := fun hp => by
      have hc := (hx 0 (by omega)).1
      obtain ⟨b, off, spot⟩ := a
      have hs : spot = none := by simpa [Addr.add] using World.cell?_spot hc
      subst hs
      exact ⟨b, off, rfl⟩
    refine ⟨some a, len, m, (List.range len).map (fun i => (intOf (V0 i), intOf (V1 i))), rfl, by simp, hl, hm, ?_, fun h => by simp at h, fun hp => ?_, fun ad had i p hi j u hu => ?_⟩
    · intro p hp
      obtain ⟨i, hi, rfl⟩ := List.mem_map.1 hp
      obtain ⟨x, y, e0, e1, hb⟩ := hv i (by have := List.mem_range.1 hi; omega)
      rw [e0, e1]; exact hb
    · obtain ⟨b, off, rfl⟩ := hspot hp
      exact ⟨b, off, rfl⟩
    · obtain rfl := Option.some.inj had
      have hil : i < len := by
        have := (List.getElem?_eq_some_iff.1 hi).1
        simpa using this
      rw [List.getElem?_map, List.getElem?_range hil] at hi
      obtain rfl : (intOf (V0 i), intOf (V1 i)) = p := by simpa using hi
      obtain ⟨x, y, e0, e1, _⟩ := hv i (by omega)
      have hc := hx i (by omega)
      rw [e0, e1] at hu
      match j, hu with
      | 0, hu =>
        obtain rfl : Value.int .u16 x = u := by simpa [PE, intOf] using hu
        simpa [PE, e0] using hc.1
      | 1, hu =>
        obtain rfl : Value.int .u8 y = u := by simpa [PE, intOf] using hu
        simpa [PE, e1] using hc.2.1
      | j + 2, hu => simp [PE] at hu
set_option maxRecDepth 100000 in
theorem open_label {H : Type} {enc : TypeId × Value → H} {W : World} {r : Reach} {b0 base : Nat} {held : Bool} {v : Value} {d : DataW H} {p : List MemPlace} (hv : Value.okWide Try.prog W r b0 25 v)
    (h : DataW.Trod enc Try.prog W base (fun _ => true) held 25 v d p) : ∃ (x : Int) (a : Option Addr) (n cap : Nat) (xs : List (Int × Int)), v = .agg #[.int .u8 x, .slice a n cap] ∧ (0 ≤ x ∧ x < 256) ∧ RowG PE W a n cap xs := by
  obtain ⟨v0, v1, y0, y1, n, rfl, _, _, g0, g1⟩ := Joins.open_agg2 Try.underlying25 (by kernel_rfl) cells24 hv h
  obtain ⟨x, e0, _, wx⟩ := DataW.trod_int Try.underlying5 g0
  obtain ⟨a, m, cap, xs, rfl, hr⟩ := open_pairs g1
  have b := bounds_u8 wx
  obtain rfl : v0 = .int .u8 x := by simpa using e0
  exact ⟨x, a, m, cap, xs, rfl, by omega, hr⟩
set_option maxRecDepth 100000 in
theorem open_pairs_arg {H : Type} {enc : TypeId × Value → H} {W : World} {r : Reach} {b0 base : Nat} {held : Bool} {v : Value} {d : DataW H} {p : List MemPlace} (hv : Value.okWide Try.prog W r b0 23 v)
    (h : DataW.Trod enc Try.prog W base (fun _ => true) held 23 v d p) : ∃ (a : Option Addr) (n cap : Nat) (xs : List (Int × Int)), v = .slice a n cap ∧ RowG PE W a n cap xs := by
  obtain ⟨a, n, cap, rfl⟩ := okWide_slice Try.underlying23 hv
  obtain ⟨fuel, hf⟩ := h
  exact open_pairs (v := .slice a n cap) (by simpa [Value.cells] using hf)
end Go.Proofs.Ytkmpmljohjelhaa

namespace Go.Proofs.Ytkmpmljohjelhaa
open Go.RowKit Go.ChangeShapes Go.WideShapes
set_option maxRecDepth 100000

theorem cellsRb : Try.prog.cellsOf 29 = 1 := by kernel_rfl
theorem cellsR8 : Try.prog.cellsOf 5 = 1 := by kernel_rfl
set_option maxHeartbeats 1000000 in
theorem open_ring {H : Type} {enc : TypeId × Value → H} {W : World} {base : Nat} {held : Bool} {fuel : Nat} {v : Value} {x : DataW H × List MemPlace}
    (h : DataW.trod enc Try.prog W base (fun _ => true) held fuel 30 [v] = some x) : ∃ (a : Option Addr) (n cap : Nat) (ps : List Le), v = .slice a n cap ∧ RowR W a n cap ps := by
  rcases Go.Deep.open_int_rows Try.underlying30 Try.underlying29 Try.underlying5 cellsRb cellsR8 h with ⟨hcs, _⟩ | ⟨a, len, cap, A, L, C, Z, hcs, _, hl, hm, _, hx⟩
  · obtain rfl : v = .slice none 0 0 := by simpa using hcs
    exact ⟨none, 0, 0, [], rfl, RowR.nil _⟩
  · obtain rfl : v = .slice (some a) len cap := by simpa using hcs
    have hspot : 0 < len → ∃ b off, a = ⟨b, off, none⟩ := fun hp => by
      have hc := (hx 0 (by omega)).1
      obtain ⟨b, off, spot⟩ := a
      have hs : spot = none := by simpa [Addr.add] using World.cell?_spot hc
      subst hs
      exact ⟨b, off, rfl⟩
    have hrow : ∀ i, i < len → Row W (A i) (L i) (C i) ((Z i).take (L i)) := by
      intro i hi
      obtain ⟨_, h1, h2, h3, h4, h5, h6⟩ := hx i (by omega)
      refine row_of (zs := Z i) ?_
      cases hA : A i with
      | none =>
        have hC := h5 hA
        exact .inl ⟨rfl, by omega, hC, List.eq_nil_of_length_eq_zero (by omega)⟩
      | some y =>
        exact .inr ⟨y, rfl, h1, h2, h3, fun k hk => (h6 y hA).2 k (by omega), h4⟩
    refine ⟨some a, len, cap, (List.range len).map (fun i => ⟨A i, L i, C i, (Z i).take (L i)⟩), rfl, ⟨by simp, hl, hm, ReL.all _, fun h => by simp at h, fun hp => ?_, fun ad had i p hi j u hu => ?_⟩, fun p hp => ?_⟩
    · obtain ⟨b, off, rfl⟩ := hspot hp
      exact ⟨b, off, rfl⟩
    · obtain rfl := Option.some.inj had
      have hil : i < len := by
        have := (List.getElem?_eq_some_iff.1 hi).1
        simpa using this
      rw [List.getElem?_map, List.getElem?_range hil] at hi
      simp only [Option.map_some, Option.some.injEq] at hi
      subst hi
      match j, hu with
      | 0, hu =>
        obtain rfl : Value.slice (A i) (L i) (C i) = u := by simpa [ReL] using hu
        simpa [ReL] using (hx i (by omega)).1
      | j + 1, hu => simp [ReL] at hu
    · obtain ⟨i, hi, rfl⟩ := List.mem_map.1 hp
      exact hrow i (by simpa using hi)
set_option maxRecDepth 100000 in
theorem open_ring_arg {H : Type} {enc : TypeId × Value → H} {W : World} {r : Reach} {b0 base : Nat} {held : Bool} {v : Value} {d : DataW H} {p : List MemPlace} (hv : Value.okWide Try.prog W r b0 30 v)
    (h : DataW.Trod enc Try.prog W base (fun _ => true) held 30 v d p) : ∃ (a : Option Addr) (n cap : Nat) (ps : List Le), v = .slice a n cap ∧ RowR W a n cap ps := by
  obtain ⟨a, n, cap, rfl⟩ := okWide_slice Try.underlying30 hv
  obtain ⟨fuel, hf⟩ := h
  exact open_ring (v := .slice a n cap) (by simpa [Value.cells] using hf)
end Go.Proofs.Ytkmpmljohjelhaa

namespace Go.Proofs.Ytkmpmljohjelhaa
open Go.RowKit Go.ChangeShapes Go.WideShapes
set_option maxRecDepth 100000

theorem cellsJ : Try.prog.cellsOf 32 = 13 := by kernel_rfl
theorem cellsJL : Try.prog.cellsOf 25 = 2 := by kernel_rfl
theorem cellsJS : Try.prog.cellsOf 28 = 3 := by kernel_rfl
theorem cellsJi : Try.prog.cellsOf 3 = 1 := by kernel_rfl
theorem cellsJq : Try.prog.cellsOf 22 = 1 := by kernel_rfl
theorem cellsJb : Try.prog.cellsOf 5 = 1 := by kernel_rfl
theorem cellsJP : Try.prog.cellsOf 23 = 1 := by kernel_rfl
theorem cellsJW : Try.prog.cellsOf 26 = 1 := by kernel_rfl
theorem cellsJY : Try.prog.cellsOf 29 = 1 := by kernel_rfl
theorem cellsJR : Try.prog.cellsOf 30 = 1 := by kernel_rfl
/-- A cell that reads at a type. -/
def ReadsJ {H : Type} (enc : TypeId × Value → H) (W : World) (base : Nat) (held : Bool) (t : TypeId) (v : Value) : Prop := ∃ fuel y, DataW.trod enc Try.prog W base (fun _ => true) held fuel t [v] = some y
theorem list13 {α : Type} {cs : List α} (h : cs.length = 13) : ∃ c0 c1 c2 c3 c4 c5 c6 c7 c8 c9 c10 c11 c12, cs = [c0, c1, c2, c3, c4, c5, c6, c7, c8, c9, c10, c11, c12] := by
  match cs, h with
  | [c0, c1, c2, c3, c4, c5, c6, c7, c8, c9, c10, c11, c12], _ => exact ⟨c0, c1, c2, c3, c4, c5, c6, c7, c8, c9, c10, c11, c12, rfl⟩
theorem list10 {α : Type} {cs : List α} (h : cs.length = 10) : ∃ c0 c1 c2 c3 c4 c5 c6 c7 c8 c9, cs = [c0, c1, c2, c3, c4, c5, c6, c7, c8, c9] := by
  match cs, h with
  | [c0, c1, c2, c3, c4, c5, c6, c7, c8, c9], _ => exact ⟨c0, c1, c2, c3, c4, c5, c6, c7, c8, c9, rfl⟩
/-- What the cells of an object are, however they lie. -/
structure CellsJ {H : Type} (enc : TypeId × Value → H) (W : World) (base : Nat) (held : Bool) (cs : List Value) (i k x q u n : Int) (a3 a4 a5 a6 a10 a11 a12 : Option Addr) (n3 m3 n4 m4 n5 m5 n6 m6 n10 m10 n11 m11 n12 m12 : Nat) : Prop where
  eq : cs = [.int .u64 i, .int .i64 k, .int .u8 x, .slice a3 n3 m3, .slice a4 n4 m4, .slice a5 n5 m5, .slice a6 n6 m6, .int .i64 q, .int .i64 u, .int .i64 n, .slice a10 n10 m10, .slice a11 n11 m11, .slice a12 n12 m12]
  bi : 0 ≤ i ∧ i < 18446744073709551616
  bk : -9223372036854775808 ≤ k ∧ k < 9223372036854775808
  bx : 0 ≤ x ∧ x < 256
  bq : -9223372036854775808 ≤ q ∧ q < 9223372036854775808
  bu : -9223372036854775808 ≤ u ∧ u < 9223372036854775808
  bn : -9223372036854775808 ≤ n ∧ n < 9223372036854775808
  r3 : ReadsJ enc W base held 23 (.slice a3 n3 m3)
  r4 : ReadsJ enc W base held 26 (.slice a4 n4 m4)
  r5 : ReadsJ enc W base held 26 (.slice a5 n5 m5)
  r6 : ReadsJ enc W base held 26 (.slice a6 n6 m6)
  r10 : ReadsJ enc W base held 29 (.slice a10 n10 m10)
  r11 : ReadsJ enc W base held 26 (.slice a11 n11 m11)
  r12 : ReadsJ enc W base held 30 (.slice a12 n12 m12)
set_option maxRecDepth 100000 in
set_option maxHeartbeats 1000000 in
theorem open_object_cells {H : Type} {enc : TypeId × Value → H} {W : World} {base fuel : Nat} {held : Bool} {cs : List Value} {z : DataW H × List MemPlace} (hf : DataW.trod enc Try.prog W base (fun _ => true) held fuel 32 cs = some z) :
    ∃ (i k x q u n : Int) (a3 a4 a5 a6 a10 a11 a12 : Option Addr) (n3 m3 n4 m4 n5 m5 n6 m6 n10 m10 n11 m11 n12 m12 : Nat), CellsJ enc W base held cs i k x q u n a3 a4 a5 a6 a10 a11 a12 n3 m3 n4 m4 n5 m5 n6 m6 n10 m10 n11 m11 n12 m12 := by
  obtain ⟨xs, m, _, _, hl, hlen, hx⟩ := DataW.trod_struct Try.underlying32 hf
  obtain ⟨c0, c1, c2, c3, c4, c5, c6, c7, c8, c9, c10, c11, c12, rfl⟩ := list13 (hl.trans cellsJ)
  obtain ⟨y0, y1, y2, y3, y4, y5, y6, y7, y8, y9, rfl⟩ := list10 hlen
  have g0 : DataW.trod enc Try.prog W base (fun _ => true) held m 22 [c0] = some y0 := by simpa [cellsJq] using hx 0 _ rfl
  have g1 : DataW.trod enc Try.prog W base (fun _ => true) held m 3 [c1] = some y1 := by simpa [cellsJi] using hx 1 _ rfl
  have g2 : DataW.trod enc Try.prog W base (fun _ => true) held m 25 [c2, c3] = some y2 := by simpa [cellsJL] using hx 2 _ rfl
  have g3 : DataW.trod enc Try.prog W base (fun _ => true) held m 28 [c4, c5, c6] = some y3 := by simpa [cellsJS] using hx 3 _ rfl
  have g4 : DataW.trod enc Try.prog W base (fun _ => true) held m 3 [c7] = some y4 := by simpa [cellsJi] using hx 4 _ rfl
  have g5 : DataW.trod enc Try.prog W base (fun _ => true) held m 3 [c8] = some y5 := by simpa [cellsJi] using hx 5 _ rfl
  have g6 : DataW.trod enc Try.prog W base (fun _ => true) held m 3 [c9] = some y6 := by simpa [cellsJi] using hx 6 _ rfl
  have g7 : DataW.trod enc Try.prog W base (fun _ => true) held m 29 [c10] = some y7 := by simpa [cellsJY] using hx 7 _ rfl
  have g8 : DataW.trod enc Try.prog W base (fun _ => true) held m 26 [c11] = some y8 := by simpa [cellsJW] using hx 8 _ rfl
  have g9 : DataW.trod enc Try.prog W base (fun _ => true) held m 30 [c12] = some y9 := by simpa [cellsJR] using hx 9 _ rfl
  clear hx hf hl hlen
  obtain ⟨u0, u1, m2, _, _, g20, g21⟩ := trod_struct2 Try.underlying25 g2
  obtain ⟨s0, s1, s2, m3, _, _, g30, g31, g32⟩ := Deep.trod_struct3 Try.underlying28 g3
  simp [cellsJb, cellsJP] at g20 g21
  simp [cellsJW] at g30 g31 g32
  obtain ⟨i, fc0, _, bc0⟩ := DataW.trod_int Try.underlying22 g0
  obtain rfl : c0 = .int .u64 i := by simpa using fc0
  have kc0 := bounds_u64 bc0
  obtain ⟨k, fc1, _, bc1⟩ := DataW.trod_int Try.underlying3 g1
  obtain rfl : c1 = .int .i64 k := by simpa using fc1
  have kc1 := bounds_i64 bc1
  obtain ⟨x, fc2, _, bc2⟩ := DataW.trod_int Try.underlying5 g20
  obtain rfl : c2 = .int .u8 x := by simpa using fc2
  have kc2 := bounds_u8 bc2
  obtain ⟨q, fc7, _, bc7⟩ := DataW.trod_int Try.underlying3 g4
  obtain rfl : c7 = .int .i64 q := by simpa using fc7
  have kc7 := bounds_i64 bc7
  obtain ⟨u, fc8, _, bc8⟩ := DataW.trod_int Try.underlying3 g5
  obtain rfl : c8 = .int .i64 u := by simpa using fc8
  have kc8 := bounds_i64 bc8
  obtain ⟨n, fc9, _, bc9⟩ := DataW.trod_int Try.underlying3 g6
  obtain rfl : c9 = .int .i64 n := by simpa using fc9
  have kc9 := bounds_i64 bc9
  obtain ⟨a3, n3, m3', fc3⟩ := Joins.slice_form Try.underlying23 g21
  obtain rfl : c3 = .slice a3 n3 m3' := by simpa using fc3
  obtain ⟨a4, n4, m4', fc4⟩ := Joins.slice_form Try.underlying26 g30
  obtain rfl : c4 = .slice a4 n4 m4' := by simpa using fc4
  obtain ⟨a5, n5, m5', fc5⟩ := Joins.slice_form Try.underlying26 g31
  obtain rfl : c5 = .slice a5 n5 m5' := by simpa using fc5
  obtain ⟨a6, n6, m6', fc6⟩ := Joins.slice_form Try.underlying26 g32
  obtain rfl : c6 = .slice a6 n6 m6' := by simpa using fc6
  obtain ⟨a10, n10, m10', fc10⟩ := Joins.slice_form Try.underlying29 g7
  obtain rfl : c10 = .slice a10 n10 m10' := by simpa using fc10
  obtain ⟨a11, n11, m11', fc11⟩ := Joins.slice_form Try.underlying26 g8
  obtain rfl : c11 = .slice a11 n11 m11' := by simpa using fc11
  obtain ⟨a12, n12, m12', fc12⟩ := Joins.slice_form Try.underlying30 g9
  obtain rfl : c12 = .slice a12 n12 m12' := by simpa using fc12
  exact ⟨i, k, x, q, u, n, a3, a4, a5, a6, a10, a11, a12, n3, m3', n4, m4', n5, m5', n6, m6', n10, m10', n11, m11', n12, m12', rfl, by omega, by omega, by omega, by omega, by omega, by omega, ⟨_, _, g21⟩, ⟨_, _, g30⟩, ⟨_, _, g31⟩, ⟨_, _, g32⟩, ⟨_, _, g7⟩, ⟨_, _, g8⟩, ⟨_, _, g9⟩⟩
set_option maxRecDepth 100000 in
theorem open_object {H : Type} {enc : TypeId × Value → H} {W : World} {r : Reach} {b0 base : Nat} {held : Bool} {v : Value} {d : DataW H} {p : List MemPlace} (hv : Value.okWide Try.prog W r b0 32 v)
    (h : DataW.Trod enc Try.prog W base (fun _ => true) held 32 v d p) :
    ∃ (i k x q u n : Int) (a3 a4 a5 a6 a10 a11 a12 : Option Addr) (n3 m3 n4 m4 n5 m5 n6 m6 n10 m10 n11 m11 n12 m12 : Nat), v = .agg #[.int .u64 i, .int .i64 k, .int .u8 x, .slice a3 n3 m3, .slice a4 n4 m4, .slice a5 n5 m5, .slice a6 n6 m6, .int .i64 q, .int .i64 u, .int .i64 n, .slice a10 n10 m10, .slice a11 n11 m11, .slice a12 n12 m12] ∧
      ∃ cs, CellsJ enc W base held cs i k x q u n a3 a4 a5 a6 a10 a11 a12 n3 m3 n4 m4 n5 m5 n6 m6 n10 m10 n11 m11 n12 m12 := by
  obtain ⟨cs, rfl, hsz⟩ := okWide_struct Try.underlying32 hv
  obtain ⟨fuel, hf⟩ := h
  obtain ⟨i, k, x, q, u, n, a3, a4, a5, a6, a10, a11, a12, n3, m3, n4, m4, n5, m5, n6, m6, n10, m10, n11, m11, n12, m12, hc⟩ := open_object_cells hf
  refine ⟨i, k, x, q, u, n, a3, a4, a5, a6, a10, a11, a12, n3, m3, n4, m4, n5, m5, n6, m6, n10, m10, n11, m11, n12, m12, ?_, _, hc⟩
  have := hc.eq
  simp only [Value.cells] at this
  exact congrArg Value.agg (Array.ext' this)
end Go.Proofs.Ytkmpmljohjelhaa
