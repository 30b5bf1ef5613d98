/- An object in a variable of the call's own: what a store into it makes of it, and what else stays; num.Take of one and of two bytes; what obj2.takeBox answers. -/
import Derived.Test.YtkmpmljohjelhaaObj
import Derived.Test.YtkmpmljohjelhaaJRing
import Derived.Test.YtkmpmljohjelhaaRegion
namespace Go.Proofs.Ytkmpmljohjelhaa
open Go.RowKit
set_option maxRecDepth 100000
set_option linter.unusedVariables false

theorem ObAt.set {w : World} {g : Nat} {x : Ob} (h : ObAt w g x) (i : Nat) (v : Value) (y : Ob) (hy : (#[.int .u64 x.i, .int .i64 x.k, .int .u8 x.d, .slice x.a3 x.n3 x.m3, .slice x.a4 x.n4 x.m4, .slice x.a5 x.n5 x.m5, .slice x.a6 x.n6 x.m6, .int .i64 x.q, .int .i64 x.u, .int .i64 x.n, .slice x.a10 x.n10 x.m10, .slice x.a11 x.n11 x.m11, .slice x.a12 x.n12 x.m12] : Array Value).setIfInBounds i v = #[.int .u64 y.i, .int .i64 y.k, .int .u8 y.d, .slice y.a3 y.n3 y.m3, .slice y.a4 y.n4 y.m4, .slice y.a5 y.n5 y.m5, .slice y.a6 y.n6 y.m6, .int .i64 y.q, .int .i64 y.u, .int .i64 y.n, .slice y.a10 y.n10 y.m10, .slice y.a11 y.n11 y.m11, .slice y.a12 y.n12 y.m12]) : ObAt (w.setCell ⟨g, i, none⟩ v) g y := by
  unfold ObAt at h ⊢
  rw [heap_setCell_same w g i _ _ v h, hy]
theorem ObAt.fz {w : World} {g : Nat} {x : Ob} (h : ObAt w g x) (i : Nat) : w.frozen? ⟨g, i, none⟩ = false := frozen_of_row w g i _ _ h
theorem grown_setO (W : World) (R i : Nat) (v : Value) : W.grownBy (W.setCell ⟨R, i, none⟩ v) (some R) := ⟨rfl, rfl, rfl, by simp [World.setCell], fun k _ hk => Below.heap_setCell _ _ _ _ (fun e => hk (by rw [e]))⟩
theorem grown_of {w w' : World} (h : Below w.heap.size w w') (r : Option Nat) : w.grownBy w' r := ⟨h.os, h.tape, h.output, h.size, fun i hi _ => h.block i hi⟩
theorem ObAt.grown {w w' : World} {g R : Nat} {x : Ob} (h : ObAt w g x) (hg : w.grownBy w' (some R)) (hne : g ≠ R) : ObAt w' g x :=
  (hg.block _ h.lt (by simpa using hne)).trans h
theorem OwnW.grownO {e : TypeId} {w w' : World} {B n cap R : Nat} {a : Option Addr} {xs : List Int} (h : OwnW e w B a n cap xs) (hg : w.grownBy w' (some R)) (hR : R < B) : OwnW e w' B a n cap xs := by
  rcases h.cases with ⟨rfl, rfl, rfl, rfl⟩ | ⟨g, cur, rfl, hB, hgg, h1, h2, h3, h4⟩
  · exact OwnW.of_nil _ _ _
  · exact OwnW.of_cells hB ((hg.block _ (Array.getElem?_eq_some_iff.1 hgg).1 (by simp; omega)).trans hgg) h1 h2 h3 h.1 h.2.1 h4

/-- All its lists are the call's own, in blocks from B on. -/
structure Ob.Made (W : World) (B : Nat) (x : Ob) : Prop where
  r3 : OwnG PE 111 W B x.a3 x.n3 x.m3 x.ps
  r4 : OwnW 42 W B x.a4 x.n4 x.m4 x.va
  r5 : OwnW 42 W B x.a5 x.n5 x.m5 x.vb
  r6 : OwnW 42 W B x.a6 x.n6 x.m6 x.vc
  r10 : LeO W B ⟨x.a10, x.n10, x.m10, x.xs⟩
  r11 : OwnW 42 W B x.a11 x.n11 x.m11 x.cs
  r12 : OwnR W B x.a12 x.n12 x.m12 x.ls
theorem Ob.Made.below {w W : World} {B : Nat} {x : Ob} (h : x.Made w B) (hb : Below w.heap.size w W) : x.Made W B := ⟨h.r3.below hb, h.r4.below hb, h.r5.below hb, h.r6.below hb, h.r10.below hb, h.r11.below hb, h.r12.below hb⟩
theorem ownG_far {α : Type} {E : Enc α} {e : TypeId} {w w' : World} {B n cap R : Nat} {a : Option Addr} {xs : List α} (h : OwnG E e w B a n cap xs) (hg : w.grownBy w' (some R)) (hR : R < B) : OwnG E e w' B a n cap xs :=
  h.grown hg fun x hx e => by
    rcases x with ⟨b, o, s⟩
    have h0 : (Value.slice a n cap).ownBlock = some b := by rw [hx]; rfl
    have hB : B ≤ b := by
      rcases h.cases with ⟨rfl, _⟩ | ⟨g, cur, hgg, hBg, _⟩
      · simp at hx
      · rw [hgg] at hx; simp at hx; omega
    simp at e
    omega
theorem Ob.Made.grown {w W : World} {B R : Nat} {x : Ob} (h : x.Made w B) (hg : w.grownBy W (some R)) (hR : R < B) : x.Made W B :=
  ⟨ownG_far h.r3 hg hR, h.r4.grownO hg hR, h.r5.grownO hg hR, h.r6.grownO hg hR, h.r10.grown_lt hg hR, h.r11.grownO hg hR, h.r12.grown_lt hg hR⟩
theorem Ob.Made.mono {w : World} {B B' : Nat} {x : Ob} (h : x.Made w B) (hB : B' ≤ B) : x.Made w B' := ⟨h.r3.mono hB, h.r4.mono hB, h.r5.mono hB, h.r6.mono hB, h.r10.mono hB, h.r11.mono hB, h.r12.mono hB⟩
theorem Ob.Made.in {w : World} {B : Nat} {x : Ob} (h : x.Made w B) (bi : U x.i) (bk : -9223372036854775808 ≤ x.k ∧ x.k < 9223372036854775808) (bd : 0 ≤ x.d ∧ x.d < 256) : x.In w :=
  ⟨bi, bk, bd, h.r3.row, h.r4.row, h.r5.row, h.r6.row, h.r10.row, h.r11.row, h.r12.row⟩
theorem zeroOb_made (w : World) (B : Nat) : zeroOb.Made w B := ⟨OwnG.of_nil _ _ w B, OwnW.of_nil _ w B, OwnW.of_nil _ w B, OwnW.of_nil _ w B, LeO.nil w B, OwnW.of_nil _ w B, OwnR.nil w B⟩
end Go.Proofs.Ytkmpmljohjelhaa
