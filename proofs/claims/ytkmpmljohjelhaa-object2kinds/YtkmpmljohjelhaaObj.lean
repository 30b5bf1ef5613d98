/- An object in memory: its numbers and slices, and what its lists say. -/
import Derived.Test.YtkmpmljohjelhaaOdMath
import Derived.Test.YtkmpmljohjelhaaLab
import Derived.Test.YtkmpmljohjelhaaRings
import Derived.Test.YtkmpmljohjelhaaReads
import Derived.Test.YtkmpmljohjelhaaJName
namespace Go.Proofs.Ytkmpmljohjelhaa
open Go.RowKit
set_option maxRecDepth 100000

/-- An object: its numbers, where its lists lie, and what they say. -/
structure Ob where
  i : Int
  k : Int
  d : Int
  a3 : Option Addr
  n3 : Nat
  m3 : Nat
  a4 : Option Addr
  n4 : Nat
  m4 : Nat
  a5 : Option Addr
  n5 : Nat
  m5 : Nat
  a6 : Option Addr
  n6 : Nat
  m6 : Nat
  q : Int
  u : Int
  n : Int
  a10 : Option Addr
  n10 : Nat
  m10 : Nat
  a11 : Option Addr
  n11 : Nat
  m11 : Nat
  a12 : Option Addr
  n12 : Nat
  m12 : Nat
  ps : List (Int × Int)
  va : List Int
  vb : List Int
  vc : List Int
  xs : List Int
  cs : List Int
  ls : List Le

/-- What it says. -/
def Ob.od (x : Ob) : Od := ⟨x.i, x.k, x.d, x.ps, x.va, x.vb, x.vc, x.q, x.u, x.n, x.xs, x.cs, txt x.ls⟩
/-- In this memory its lists say that. -/
structure Ob.In (W : World) (x : Ob) : Prop where
  bi : U x.i
  bk : -9223372036854775808 ≤ x.k ∧ x.k < 9223372036854775808
  bd : 0 ≤ x.d ∧ x.d < 256
  r3 : RowG PE W x.a3 x.n3 x.m3 x.ps
  r4 : RowW W x.a4 x.n4 x.m4 x.va
  r5 : RowW W x.a5 x.n5 x.m5 x.vb
  r6 : RowW W x.a6 x.n6 x.m6 x.vc
  r10 : Row W x.a10 x.n10 x.m10 x.xs
  r11 : RowW W x.a11 x.n11 x.m11 x.cs
  r12 : RowR W x.a12 x.n12 x.m12 x.ls
theorem Ob.In.below {w W : World} {x : Ob} (h : x.In w) (hb : Below w.heap.size w W) : x.In W := ⟨h.bi, h.bk, h.bd, h.r3.below hb, h.r4.below hb, h.r5.below hb, h.r6.below hb, h.r10.below hb, h.r11.below hb, h.r12.below hb⟩
theorem Ob.In.ok {w : World} {x : Ob} (h : x.In w) : x.od.Ok := ⟨h.bi, h.r3.ok, h.r4.wrd, h.r5.wrd, h.r6.wrd, h.r11.wrd⟩
/-- One that says nothing. -/
def zeroOb : Ob := ⟨0, 0, 0, none, 0, 0, none, 0, 0, none, 0, 0, none, 0, 0, 0, 0, 0, none, 0, 0, none, 0, 0, none, 0, 0, [], [], [], [], [], [], []⟩
theorem zeroOb_in (w : World) : zeroOb.In w := ⟨⟨by decide, by decide⟩, by decide, by decide, RowG.nil _ w, RowW.nil w, RowW.nil w, RowW.nil w, Row.nil w, RowW.nil w, RowR.nil w⟩

/-- At g there is a variable that holds it. -/
def ObAt (W : World) (g : Nat) (x : Ob) : Prop := W.heap[g]? = some (.cells #[.int .u64 x.i, .int .i64 x.k, .int .u8 x.d, .slice x.a3 x.n3 x.m3, .slice x.a4 x.n4 x.m4, .slice x.a5 x.n5 x.m5, .slice x.a6 x.n6 x.m6, .int .i64 x.q, .int .i64 x.u, .int .i64 x.n, .slice x.a10 x.n10 x.m10, .slice x.a11 x.n11 x.m11, .slice x.a12 x.n12 x.m12] 32 (0, 0))
theorem ObAt.lt {W : World} {g : Nat} {x : Ob} (h : ObAt W g x) : g < W.heap.size := (Array.getElem?_eq_some_iff.1 h).1
theorem ObAt.below {w W : World} {g : Nat} {x : Ob} (h : ObAt w g x) (hb : Below w.heap.size w W) : ObAt W g x := (hb.block _ h.lt).trans h
theorem ObAt.new (w : World) (x : Ob) : ObAt (w.alloc (.cells #[.int .u64 x.i, .int .i64 x.k, .int .u8 x.d, .slice x.a3 x.n3 x.m3, .slice x.a4 x.n4 x.m4, .slice x.a5 x.n5 x.m5, .slice x.a6 x.n6 x.m6, .int .i64 x.q, .int .i64 x.u, .int .i64 x.n, .slice x.a10 x.n10 x.m10, .slice x.a11 x.n11 x.m11, .slice x.a12 x.n12 x.m12] 32)) w.heap.size x := heap_alloc_new w _
theorem cellOb {W : World} {g i : Nat} {cur : Array Value} {t : TypeId} {f : Nat × Nat} {v : Value} (h : W.heap[g]? = some (.cells cur t f)) (hv : cur[i]? = some v) : W.cell? ⟨g, i, none⟩ = some v := by
  rw [cell_of_row W g i cur t f h]; exact hv
theorem ObAt.cells {W : World} {g : Nat} {x : Ob} (h : ObAt W g x) :
    W.cell? ⟨g, 0, none⟩ = some (.int .u64 x.i) ∧ W.cell? ⟨g, 1, none⟩ = some (.int .i64 x.k) ∧ W.cell? ⟨g, 2, none⟩ = some (.int .u8 x.d) ∧ W.cell? ⟨g, 3, none⟩ = some (.slice x.a3 x.n3 x.m3) ∧ W.cell? ⟨g, 4, none⟩ = some (.slice x.a4 x.n4 x.m4) ∧ W.cell? ⟨g, 5, none⟩ = some (.slice x.a5 x.n5 x.m5) ∧ W.cell? ⟨g, 6, none⟩ = some (.slice x.a6 x.n6 x.m6) ∧ W.cell? ⟨g, 7, none⟩ = some (.int .i64 x.q) ∧ W.cell? ⟨g, 8, none⟩ = some (.int .i64 x.u) ∧ W.cell? ⟨g, 9, none⟩ = some (.int .i64 x.n) ∧ W.cell? ⟨g, 10, none⟩ = some (.slice x.a10 x.n10 x.m10) ∧ W.cell? ⟨g, 11, none⟩ = some (.slice x.a11 x.n11 x.m11) ∧ W.cell? ⟨g, 12, none⟩ = some (.slice x.a12 x.n12 x.m12) :=
  ⟨cellOb h rfl, cellOb h rfl, cellOb h rfl, cellOb h rfl, cellOb h rfl, cellOb h rfl, cellOb h rfl, cellOb h rfl, cellOb h rfl, cellOb h rfl, cellOb h rfl, cellOb h rfl, cellOb h rfl⟩
/-- A variable made anew for it. -/
def obj (x : Ob) (w : World) : World := w.alloc (.cells #[.int .u64 x.i, .int .i64 x.k, .int .u8 x.d, .slice x.a3 x.n3 x.m3, .slice x.a4 x.n4 x.m4, .slice x.a5 x.n5 x.m5, .slice x.a6 x.n6 x.m6, .int .i64 x.q, .int .i64 x.u, .int .i64 x.n, .slice x.a10 x.n10 x.m10, .slice x.a11 x.n11 x.m11, .slice x.a12 x.n12 x.m12] 32)
theorem obj_def (x : Ob) (w : World) : w.alloc (.cells #[.int .u64 x.i, .int .i64 x.k, .int .u8 x.d, .slice x.a3 x.n3 x.m3, .slice x.a4 x.n4 x.m4, .slice x.a5 x.n5 x.m5, .slice x.a6 x.n6 x.m6, .int .i64 x.q, .int .i64 x.u, .int .i64 x.n, .slice x.a10 x.n10 x.m10, .slice x.a11 x.n11 x.m11, .slice x.a12 x.n12 x.m12] 32) = obj x w := rfl
theorem obj_at (x : Ob) (w : World) : ObAt (obj x w) w.heap.size x := heap_alloc_new w _
theorem obj_below (x : Ob) (w : World) : Below w.heap.size w (obj x w) := below_alloc w _
end Go.Proofs.Ytkmpmljohjelhaa
