/- An object in a variable of the call's own: what a store into it makes of it, and what else stays; num.Take of one and of two bytes; what obj1.takeBox answers. What obj1.takeVersion, takeKind and takeBox answer: contracts. What obj1.takeOwn answers, and writes into an object: a contract. What obj1.takePart answers, and writes into an object, part by part: contracts. -/
import Derived.Test.YtldkelpngeopmaaOb
import Derived.Test.YtldkelpngeopmaaJRing
import Derived.Test.YtldkelpngeopmaaJLabOut
import Derived.Test.YtldkelpngeopmaaRegion
import Derived.Test.YtldkelpngeopmaaObRead
import Derived.BigQuiet
import Derived.Test.YtldkelpngeopmaaJSet
import Derived.Test.YtldkelpngeopmaaLcTake
namespace Go.Proofs.Ytldkelpngeopmaa
open Go.RowKit
set_option maxRecDepth 100000
set_option linter.unusedVariables false

theorem ObAt.set {w : World} {g : Nat} {x : Ob} (h : ObAt w g x) (i : Nat) (v : Value) (y : Ob) (hy : (#[.int .u64 x.i, .int .i64 x.k, .int .u8 x.d, .slice x.a3 x.n3 x.m3, .slice x.a4 x.n4 x.m4, .slice x.a5 x.n5 x.m5, .slice x.a6 x.n6 x.m6, .int .i64 x.q, .int .i64 x.u, .int .i64 x.n, .slice x.a10 x.n10 x.m10, .slice x.a11 x.n11 x.m11, .slice x.a12 x.n12 x.m12] : Array Value).setIfInBounds i v = #[.int .u64 y.i, .int .i64 y.k, .int .u8 y.d, .slice y.a3 y.n3 y.m3, .slice y.a4 y.n4 y.m4, .slice y.a5 y.n5 y.m5, .slice y.a6 y.n6 y.m6, .int .i64 y.q, .int .i64 y.u, .int .i64 y.n, .slice y.a10 y.n10 y.m10, .slice y.a11 y.n11 y.m11, .slice y.a12 y.n12 y.m12]) : ObAt (w.setCell ⟨g, i, none⟩ v) g y := by
  unfold ObAt at h ⊢
  rw [heap_setCell_same w g i _ _ v h, hy]
theorem ObAt.fz {w : World} {g : Nat} {x : Ob} (h : ObAt w g x) (i : Nat) : w.frozen? ⟨g, i, none⟩ = false := frozen_of_row w g i _ _ h
theorem grown_setO (W : World) (R i : Nat) (v : Value) : W.grownBy (W.setCell ⟨R, i, none⟩ v) (some R) := ⟨rfl, rfl, rfl, by simp [World.setCell], fun k _ hk => Below.heap_setCell _ _ _ _ (fun e => hk (by rw [e]))⟩
theorem grown_of {w w' : World} (h : Below w.heap.size w w') (r : Option Nat) : w.grownBy w' r := ⟨h.os, h.tape, h.output, h.size, fun i hi _ => h.block i hi⟩
theorem ObAt.grown {w w' : World} {g R : Nat} {x : Ob} (h : ObAt w g x) (hg : w.grownBy w' (some R)) (hne : g ≠ R) : ObAt w' g x :=
  (hg.block _ h.lt (by simpa using hne)).trans h
theorem OwnW.grownO {e : TypeId} {w w' : World} {B n cap R : Nat} {a : Option Addr} {xs : List Int} (h : OwnW e w B a n cap xs) (hg : w.grownBy w' (some R)) (hR : R < B) : OwnW e w' B a n cap xs := by
  rcases h.cases with ⟨rfl, rfl, rfl, rfl⟩ | ⟨g, cur, rfl, hB, hgg, h1, h2, h3, h4⟩
  · exact OwnW.of_nil _ _ _
  · exact OwnW.of_cells hB ((hg.block _ (Array.getElem?_eq_some_iff.1 hgg).1 (by simp; omega)).trans hgg) h1 h2 h3 h.1 h.2.1 h4

/-- All its lists are the call's own, in blocks from B on. -/
structure Ob.Made (W : World) (B : Nat) (x : Ob) : Prop where
  r3 : OwnG PE 46 W B x.a3 x.n3 x.m3 x.ps
  r10 : LeO W B ⟨x.a10, x.n10, x.m10, x.xs⟩
  r11 : OwnW 42 W B x.a11 x.n11 x.m11 x.cs
  r12 : OwnR W B x.a12 x.n12 x.m12 x.ls
theorem Ob.Made.below {w W : World} {B : Nat} {x : Ob} (h : x.Made w B) (hb : Below w.heap.size w W) : x.Made W B := ⟨h.r3.below hb, h.r10.below hb, h.r11.below hb, h.r12.below hb⟩
theorem ownG_far {α : Type} {E : Enc α} {e : TypeId} {w w' : World} {B n cap R : Nat} {a : Option Addr} {xs : List α} (h : OwnG E e w B a n cap xs) (hg : w.grownBy w' (some R)) (hR : R < B) : OwnG E e w' B a n cap xs :=
  h.grown hg fun x hx e => by
    rcases x with ⟨b, o, s⟩
    have h0 : (Value.slice a n cap).ownBlock = some b := by rw [hx]; rfl
    have := (own_block h b h0).1
    simp at e
    omega
theorem Ob.Made.grown {w W : World} {B R : Nat} {x : Ob} (h : x.Made w B) (hg : w.grownBy W (some R)) (hR : R < B) : x.Made W B :=
  ⟨ownG_far h.r3 hg hR, h.r10.grown_lt hg hR, h.r11.grownO hg hR, h.r12.grown_lt hg hR⟩
theorem Ob.Made.mono {w : World} {B B' : Nat} {x : Ob} (h : x.Made w B) (hB : B' ≤ B) : x.Made w B' := ⟨h.r3.mono hB, h.r10.mono hB, h.r11.mono hB, h.r12.mono hB⟩
theorem Ob.Made.in {w : World} {B : Nat} {x : Ob} (h : x.Made w B) (bi : U x.i) (bk : -9223372036854775808 ≤ x.k ∧ x.k < 9223372036854775808) (bd : 0 ≤ x.d ∧ x.d < 256) : x.In w :=
  ⟨bi, bk, bd, h.r3.row, h.r10.row, h.r11.row, h.r12.row⟩
theorem zeroOb_made (w : World) (B : Nat) : zeroOb.Made w B := ⟨OwnG.of_nil _ _ w B, LeO.nil w B, OwnW.of_nil _ w B, OwnR.nil w B⟩
end Go.Proofs.Ytldkelpngeopmaa

namespace Go.Proofs.Ytldkelpngeopmaa
open Go.RowKit
set_option maxRecDepth 100000
set_option linter.unusedVariables false

theorem RowO.from {w : World} {a : Option Addr} {n cap : Nat} {xs : List Int} (h : Row w a n cap xs) (k : Nat) (hk : k ≤ n) : Row w (if cap = k then a else a.map (fun x => x.add k)) (n - k) (cap - k) (xs.drop k) := by
  have hc := h.cap_le
  have hl := h.len
  by_cases h0 : n = k
  · subst h0
    have hnil : xs.drop n = [] := by rw [List.drop_eq_nil_iff]; omega
    rw [hnil, Nat.sub_self]
    cases a with
    | none =>
      have := h.2.2.2.2.1 rfl
      obtain ⟨rfl, rfl⟩ := this
      simpa using Row.nil w
    | some x =>
      by_cases hcn : cap = n
      · rw [if_pos hcn]; exact Row.none_of _ _ _ (by omega)
      · rw [if_neg hcn]; exact Row.none_of _ _ _ (by omega)
  · obtain ⟨b, off, rfl, _⟩ := h.at (by omega)
    rw [if_neg (by omega), Option.map_some, add_pl]
    exact h.fromR k hk
theorem one_of (z : List Int) (hb : Byt z) (h : 1 ≤ z.length) : takeV z 1 = z.getD 0 0 ∧ takeE z 1 = 0 := by
  refine ⟨?_, ?_⟩
  · unfold takeV
    rw [if_neg (by omega)]
    match z, h with
    | x :: r, _ => simp [num]
  · unfold takeE
    rw [if_neg (by omega), if_neg (by omega)]
theorem take_no (z : List Int) (m : Nat) (hm : m ≤ 8) (h : z.length < m) : takeV z (m : Int) = 0 ∧ takeE z (m : Int) = 3 := by
  refine ⟨?_, ?_⟩
  · unfold takeV; rw [if_pos (by omega)]
  · unfold takeE; rw [if_neg (by omega), if_pos (by omega)]
theorem take_yes (z : List Int) (m : Nat) (hm : m ≤ 8) (h : m ≤ z.length) : takeV z (m : Int) = num (z.take m) ∧ takeE z (m : Int) = 0 := by
  refine ⟨?_, ?_⟩
  · unfold takeV; rw [if_neg (by omega)]; rfl
  · unfold takeE; rw [if_neg (by omega), if_neg (by omega)]

theorem takeVersion_any (a : Option Addr) (len cap : Nat) (z : List Int) (w : World) (hr : Row w a len cap z) :
    Calls Try.prog 44 #[.slice a len cap] w fun e w' => e = .returned (.int .i64 (if len < 1 then 3 else if z.getD 0 0 ≠ 1 then 2 else 0)) ∧ w' = w := by
  have ht := take_any a len cap 1 z w hr
  have hl := hr.len
  have hB := hr.byt.get 0
  by_cases h : len < 1
  · have := take_no z 1 (by omega) (by omega)
    rw [show takeV z 1 = 0 from this.1, show takeE z 1 = 3 from this.2] at ht
    rw [if_pos h]
    go_enter Try.func44, Try.ntmps44
    go_wp2_with fail
    refine ht.mono ?_
    rintro e w ⟨rfl, rfl⟩
    go_wp2_with fail
    go_ret
    exact ⟨rfl, rfl⟩
  · obtain ⟨h1, h2⟩ := one_of z hr.byt (by omega)
    rw [h1, h2] at ht
    rw [if_neg h]
    clear h1 h2 hl
    generalize z.getD 0 0 = X at ht hB ⊢
    by_cases hx : X = 1
    · subst hx
      go_enter Try.func44, Try.ntmps44
      go_wp2_with fail
      refine ht.mono ?_
      rintro e w ⟨rfl, rfl⟩
      go_wp2_with fail
      go_ret
      exact ⟨rfl, rfl⟩
    · have hx' : (X == 1) = false := by simpa using hx
      have hx2 : (X != 1) = true := by simpa using hx
      rw [if_pos hx]
      go_enter Try.func44, Try.ntmps44
      go_wp2_with fail
      refine ht.mono ?_
      rintro e w ⟨rfl, rfl⟩
      go_wp2_with fail
      go_ret
      exact ⟨rfl, rfl⟩
theorem takeKind_any (a : Option Addr) (len cap : Nat) (z : List Int) (w : World) (hr : Row w a len cap z) :
    Calls Try.prog 45 #[.slice a len cap] w fun e w' => e = .returned (.tuple #[.int .i64 (if len < 1 ∨ isK (z.getD 0 0) = false then 0 else z.getD 0 0), .int .i64 (if len < 1 then 3 else if isK (z.getD 0 0) = false then 2 else 0)]) ∧ w' = w := by
  have ht := take_any a len cap 1 z w hr
  have hl := hr.len
  have hB := hr.byt.get 0
  by_cases h : len < 1
  · have := take_no z 1 (by omega) (by omega)
    rw [show takeV z 1 = 0 from this.1, show takeE z 1 = 3 from this.2] at ht
    rw [if_pos h, if_pos (.inl h)]
    go_enter Try.func45, Try.ntmps45
    go_wp2_with fail
    refine ht.mono ?_
    rintro e w ⟨rfl, rfl⟩
    go_wp2_with fail
    go_ret2
    exact ⟨rfl, rfl⟩
  · obtain ⟨h1, h2⟩ := one_of z hr.byt (by omega)
    rw [h1, h2] at ht
    rw [if_neg h]
    clear h1 h2 hl
    generalize z.getD 0 0 = X at ht hB ⊢
    have wX : IntKind.i64.wrap X = X := Go.IntWalk.i64_in _ (by omega)
    have hk := isKind_any X w
    cases hK : isK X
    · rw [hK] at hk
      rw [if_pos (.inr rfl), if_pos rfl]
      clear hK
      go_enter Try.func45, Try.ntmps45
      go_wp2_with fail
      refine ht.mono ?_
      rintro e w ⟨rfl, rfl⟩
      go_wp2_with fail
      refine hk.mono ?_
      rintro e w ⟨rfl, rfl⟩
      go_wp2_with fail
      go_ret2
      exact ⟨rfl, rfl⟩
    · rw [hK] at hk
      rw [if_neg (by simp [h]), if_neg (by simp)]
      clear hK
      go_enter Try.func45, Try.ntmps45
      go_wp2_with fail
      refine ht.mono ?_
      rintro e w ⟨rfl, rfl⟩
      go_wp2_with fail
      refine hk.mono ?_
      rintro e w ⟨rfl, rfl⟩
      go_wp2_with fail
      go_ret2
      exact ⟨rfl, rfl⟩

theorem owQ_bd (z : List Int) (hb : Byt z) (j : Nat) : 0 ≤ owQ 1 z j ∧ owQ 1 z j < 65536 := num2_bd z hb j
set_option maxHeartbeats 2000000 in
theorem takeBox_any (i' d : Int) (a3 : Option Addr) (n3 m3 : Nat) (a4 : Option Addr) (n4 m4 : Nat) (a5 : Option Addr) (n5 m5 : Nat) (a6 : Option Addr) (n6 m6 : Nat) (q u n : Int) (a10 : Option Addr) (n10 m10 : Nat) (a11 : Option Addr) (n11 m11 : Nat) (a12 : Option Addr) (n12 m12 : Nat) (ps : List (Int × Int)) (xs cs : List Int) (ls : List Le) (k : Int) (a : Option Addr) (len cap : Nat) (z : List Int) (w : World) (g : Nat) (hr : Row w a len cap z) (hne : 0 < len → ∀ y, a = some y → y.block ≠ g) (hO : ObAt w g ⟨i', k, d, a3, n3, m3, a4, n4, m4, a5, n5, m5, a6, n6, m6, q, u, n, a10, n10, m10, a11, n11, m11, a12, n12, m12, ps, xs, cs, ls⟩) :
    Calls Try.prog 61 #[.slice a len cap, .pointer (some ⟨g, 0, none⟩)] w fun e w' => ∃ N E : Int, e = .returned (.tuple #[.int .i64 N, .int .i64 E]) ∧ w.grownBy w' (some g) ∧
      ((6 ≤ len ∧ N = 6 ∧ E = 0 ∧ ObAt w' g ⟨i', k, d, a3, n3, m3, a4, n4, m4, a5, n5, m5, a6, n6, m6, owQ 1 z 0, owQ 1 z 2, owQ 1 z 4, a10, n10, m10, a11, n11, m11, a12, n12, m12, ps, xs, cs, ls⟩) ∨ (len < 6 ∧ E = 3)) := by
  have hl := hO.lt
  have hcap := hr.cap_le
  have hlen := hr.len
  obtain ⟨W3, hW3⟩ : ∃ W3, W3 = (w.alloc (.cells #[.pointer (some ⟨g, 7, none⟩), .pointer (some ⟨g, 8, none⟩), .pointer (some ⟨g, 9, none⟩)] 99)).drew := ⟨_, rfl⟩
  have hb3 : Below w.heap.size w W3 := by rw [hW3]; exact ext_trans (below_alloc _ _) (ext_drew _)
  have h3 : W3.heap[w.heap.size]? = some (.cells #[.pointer (some ⟨g, 7, none⟩), .pointer (some ⟨g, 8, none⟩), .pointer (some ⟨g, 9, none⟩)] 99 (0, 0)) := by rw [hW3]; exact heap_alloc_new w _
  have HW3 : Hid ((w.alloc (.cells #[.pointer (some ⟨g, 7, none⟩), .pointer (some ⟨g, 8, none⟩), .pointer (some ⟨g, 9, none⟩)] 99)).drew = W3) := hW3.symm
  have hlt3 : w.heap.size < W3.heap.size := by rw [hW3]; simp [World.drew]
  clear hW3
  have HC : Hid (∀ V, W3.grownBy V (some g) → (V.cell? ⟨w.heap.size, 0, none⟩ = some (.pointer (some ⟨g, 7, none⟩)) ∧ V.cell? ⟨w.heap.size, 1, none⟩ = some (.pointer (some ⟨g, 8, none⟩)) ∧ V.cell? ⟨w.heap.size, 2, none⟩ = some (.pointer (some ⟨g, 9, none⟩))) ∧ Row V a len cap z ∧ w.grownBy V (some g)) :=
    fun V hV => by
      have hh := (hV.block _ hlt3 (by simp; omega)).trans h3
      exact ⟨⟨cellOb hh rfl, cellOb hh rfl, cellOb hh rfl⟩, rowL_grown (hr.below hb3) hV (fun h0 y hy e => hne h0 y hy (Option.some.inj e).symm), (grown_of hb3 _).trans hV⟩
  have hO3 := hO.below hb3
  clear h3 hb3
  go_enter Try.func61, Try.ntmps61
  go_wp2_with fail
  go_region
  rw [HW3.out]
  go_wp2_with fail
  go_loopw [4, 7, 8, 9, 21] (fun s4 s7 s8 s9 i wr => (∃ z : Value, s7 = z) ∧ (∃ z : Value, s8 = z) ∧ (∃ z : Value, s9 = z) ∧ W3.grownBy wr (some g) ∧
    ((i = .int .i64 0 ∧ s4 = .int .i64 0 ∧ ObAt wr g ⟨i', k, d, a3, n3, m3, a4, n4, m4, a5, n5, m5, a6, n6, m6, q, u, n, a10, n10, m10, a11, n11, m11, a12, n12, m12, ps, xs, cs, ls⟩) ∨
     (i = .int .i64 1 ∧ s4 = .int .i64 2 ∧ 2 ≤ len ∧ ObAt wr g ⟨i', k, d, a3, n3, m3, a4, n4, m4, a5, n5, m5, a6, n6, m6, owQ 1 z 0, u, n, a10, n10, m10, a11, n11, m11, a12, n12, m12, ps, xs, cs, ls⟩) ∨
     (i = .int .i64 2 ∧ s4 = .int .i64 4 ∧ 4 ≤ len ∧ ObAt wr g ⟨i', k, d, a3, n3, m3, a4, n4, m4, a5, n5, m5, a6, n6, m6, owQ 1 z 0, owQ 1 z 2, n, a10, n10, m10, a11, n11, m11, a12, n12, m12, ps, xs, cs, ls⟩) ∨
     (i = .int .i64 3 ∧ s4 = .int .i64 6 ∧ 6 ≤ len ∧ ObAt wr g ⟨i', k, d, a3, n3, m3, a4, n4, m4, a5, n5, m5, a6, n6, m6, owQ 1 z 0, owQ 1 z 2, owQ 1 z 4, a10, n10, m10, a11, n11, m11, a12, n12, m12, ps, xs, cs, ls⟩))) (fun _ _ _ _ i _ => 3 - (intOf i).toNat)
  case atStart => exact ⟨⟨_, rfl⟩, ⟨_, rfl⟩, ⟨_, rfl⟩, World.grownBy.refl _ _, .inl ⟨rfl, rfl, hO3⟩⟩
  case round =>
    obtain ⟨⟨_, rfl⟩, ⟨_, rfl⟩, ⟨_, rfl⟩, hG, hs⟩ := hrel
    obtain ⟨⟨y0, y1, y2⟩, hrr, hgw⟩ := HC.out _ hG
    rcases hs with ⟨rfl, rfl, hA⟩ | ⟨rfl, rfl, h2, hA⟩ | ⟨rfl, rfl, h4, hA⟩ | ⟨rfl, rfl, h6, hA⟩
    · have ht := take_any a len cap 2 (z.drop 0) wr hrr
      by_cases hsh : len < 2
      · have ht2 := take_no (z.drop 0) 2 (by omega) (by simp only [List.length_drop]; omega)
        rw [show takeV (z.drop 0) 2 = 0 from ht2.1, show takeE (z.drop 0) 2 = 3 from ht2.2] at ht
        clear ht2
        go_wp2_with fail
        refine ht.mono ?_
        rintro e w1 ⟨rfl, rfl⟩
        go_wp2_with fail
        go_ret2
        exact ⟨0, 3, rfl, hgw, .inr ⟨by omega, rfl⟩⟩
      · have ht2 := take_yes (z.drop 0) 2 (by omega) (by simp only [List.length_drop]; omega)
        rw [show takeV (z.drop 0) 2 = owQ 1 z 0 from ht2.1, show takeE (z.drop 0) 2 = 0 from ht2.2] at ht
        clear ht2
        have hV := owQ_bd z hr.byt 0
        have hA2 := hA.set 7 (.int .i64 (owQ 1 z 0)) ⟨i', k, d, a3, n3, m3, a4, n4, m4, a5, n5, m5, a6, n6, m6, owQ 1 z 0, u, n, a10, n10, m10, a11, n11, m11, a12, n12, m12, ps, xs, cs, ls⟩ rfl
        have hc := hA.cells.2.2.2.2.2.2.2.1
        have hf := hA.fz 7
        have hgr := hG.trans (grown_setO wr g 7 (.int .i64 (owQ 1 z 0)))
        dsimp only at hc
        have wV : IntKind.i64.wrap (owQ 1 z 0) = owQ 1 z 0 := Go.IntWalk.i64_in _ (by omega)
        generalize owQ 1 z 0 = V at ht hV hA2 wV hgr ⊢
        go_wp2_with fail
        refine ht.mono ?_
        rintro e w1 ⟨rfl, rfl⟩
        go_wp2
        go_roundw
        case rel => exact ⟨⟨_, rfl⟩, ⟨_, rfl⟩, ⟨_, rfl⟩, hgr, .inr (.inl ⟨rfl, rfl, by omega, hA2⟩)⟩
        case measure => simp [intOf]
    · obtain ⟨b, off, rfl, _⟩ := hrr.at (by omega)
      have hml : (2 : Int) ≤ (len : Int) := by omega
      by_cases hcm : cap = 2
      · obtain rfl : len = 2 := by omega
        subst hcm
        have ht := take_any (some ⟨b, off, none⟩) 0 0 2 [] wr (Row.none_of _ _ _ (by omega))
        have ht2 := take_no ([]) 2 (by omega) (by simp only [List.length_nil]; omega)
        rw [show takeV ([]) 2 = 0 from ht2.1, show takeE ([]) 2 = 3 from ht2.2] at ht
        clear ht2
        go_wp2_with fail
        refine ht.mono ?_
        rintro e w1 ⟨rfl, rfl⟩
        go_wp2_with fail
        go_ret2
        exact ⟨0, 3, rfl, hgw, .inr ⟨by omega, rfl⟩⟩
      · have ht := take_any (some ⟨b, off + 2, none⟩) (len - 2) (cap - 2) 2 (z.drop 2) wr (hrr.fromR 2 (by omega))
        by_cases hsh : len < 4
        · have ht2 := take_no (z.drop 2) 2 (by omega) (by simp only [List.length_drop]; omega)
          rw [show takeV (z.drop 2) 2 = 0 from ht2.1, show takeE (z.drop 2) 2 = 3 from ht2.2] at ht
          clear ht2
          go_wp2_with fail
          refine ht.mono ?_
          rintro e w1 ⟨rfl, rfl⟩
          go_wp2_with fail
          go_ret2
          exact ⟨0, 3, rfl, hgw, .inr ⟨by omega, rfl⟩⟩
        · have ht2 := take_yes (z.drop 2) 2 (by omega) (by simp only [List.length_drop]; omega)
          rw [show takeV (z.drop 2) 2 = owQ 1 z 2 from ht2.1, show takeE (z.drop 2) 2 = 0 from ht2.2] at ht
          clear ht2
          have hV := owQ_bd z hr.byt 2
          have hA2 := hA.set 8 (.int .i64 (owQ 1 z 2)) ⟨i', k, d, a3, n3, m3, a4, n4, m4, a5, n5, m5, a6, n6, m6, owQ 1 z 0, owQ 1 z 2, n, a10, n10, m10, a11, n11, m11, a12, n12, m12, ps, xs, cs, ls⟩ rfl
          have hc := hA.cells.2.2.2.2.2.2.2.2.1
          have hf := hA.fz 8
          have hgr := hG.trans (grown_setO wr g 8 (.int .i64 (owQ 1 z 2)))
          dsimp only at hc
          have wV : IntKind.i64.wrap (owQ 1 z 2) = owQ 1 z 2 := Go.IntWalk.i64_in _ (by omega)
          generalize owQ 1 z 2 = V at ht hV hA2 wV hgr ⊢
          go_wp2_with fail
          refine ht.mono ?_
          rintro e w1 ⟨rfl, rfl⟩
          go_wp2
          go_roundw
          case rel => exact ⟨⟨_, rfl⟩, ⟨_, rfl⟩, ⟨_, rfl⟩, hgr, .inr (.inr (.inl ⟨rfl, rfl, by omega, hA2⟩))⟩
          case measure => simp [intOf]
    · obtain ⟨b, off, rfl, _⟩ := hrr.at (by omega)
      have hml : (4 : Int) ≤ (len : Int) := by omega
      by_cases hcm : cap = 4
      · obtain rfl : len = 4 := by omega
        subst hcm
        have ht := take_any (some ⟨b, off, none⟩) 0 0 2 [] wr (Row.none_of _ _ _ (by omega))
        have ht2 := take_no ([]) 2 (by omega) (by simp only [List.length_nil]; omega)
        rw [show takeV ([]) 2 = 0 from ht2.1, show takeE ([]) 2 = 3 from ht2.2] at ht
        clear ht2
        go_wp2_with fail
        refine ht.mono ?_
        rintro e w1 ⟨rfl, rfl⟩
        go_wp2_with fail
        go_ret2
        exact ⟨0, 3, rfl, hgw, .inr ⟨by omega, rfl⟩⟩
      · have ht := take_any (some ⟨b, off + 4, none⟩) (len - 4) (cap - 4) 2 (z.drop 4) wr (hrr.fromR 4 (by omega))
        by_cases hsh : len < 6
        · have ht2 := take_no (z.drop 4) 2 (by omega) (by simp only [List.length_drop]; omega)
          rw [show takeV (z.drop 4) 2 = 0 from ht2.1, show takeE (z.drop 4) 2 = 3 from ht2.2] at ht
          clear ht2
          go_wp2_with fail
          refine ht.mono ?_
          rintro e w1 ⟨rfl, rfl⟩
          go_wp2_with fail
          go_ret2
          exact ⟨0, 3, rfl, hgw, .inr ⟨by omega, rfl⟩⟩
        · have ht2 := take_yes (z.drop 4) 2 (by omega) (by simp only [List.length_drop]; omega)
          rw [show takeV (z.drop 4) 2 = owQ 1 z 4 from ht2.1, show takeE (z.drop 4) 2 = 0 from ht2.2] at ht
          clear ht2
          have hV := owQ_bd z hr.byt 4
          have hA2 := hA.set 9 (.int .i64 (owQ 1 z 4)) ⟨i', k, d, a3, n3, m3, a4, n4, m4, a5, n5, m5, a6, n6, m6, owQ 1 z 0, owQ 1 z 2, owQ 1 z 4, a10, n10, m10, a11, n11, m11, a12, n12, m12, ps, xs, cs, ls⟩ rfl
          have hc := hA.cells.2.2.2.2.2.2.2.2.2.1
          have hf := hA.fz 9
          have hgr := hG.trans (grown_setO wr g 9 (.int .i64 (owQ 1 z 4)))
          dsimp only at hc
          have wV : IntKind.i64.wrap (owQ 1 z 4) = owQ 1 z 4 := Go.IntWalk.i64_in _ (by omega)
          generalize owQ 1 z 4 = V at ht hV hA2 wV hgr ⊢
          go_wp2_with fail
          refine ht.mono ?_
          rintro e w1 ⟨rfl, rfl⟩
          go_wp2
          go_roundw
          case rel => exact ⟨⟨_, rfl⟩, ⟨_, rfl⟩, ⟨_, rfl⟩, hgr, .inr (.inr (.inr ⟨rfl, rfl, by omega, hA2⟩))⟩
          case measure => simp [intOf]
    · go_wp2_with fail
      go_ret2
      exact ⟨6, 0, rfl, hgw, .inl ⟨h6, rfl, rfl, hA⟩⟩
end Go.Proofs.Ytldkelpngeopmaa

namespace Go.Proofs.Ytldkelpngeopmaa
open Go.RowKit
set_option maxRecDepth 100000
set_option linter.unusedVariables false

/-- What is read behind a label, laid into what there is. -/
def Od.read (o : Od) (z : List Int) : Od :=
  ⟨o.i, o.k, o.d, o.ps, if o.k = 1 then owQ o.k z 0 else o.q, if o.k = 1 then owQ o.k z 2 else o.u, if o.k = 1 then owQ o.k z 4 else o.n, if o.k = 2 then owX o.k z else o.xs, if o.k = 3 then owS o.k z else o.cs, if o.k = 4 then owL o.k z else o.ls⟩
/-- What a call answers that reads what stands behind a label into the object at g. -/
def ReadsOwn (x : Ob) (z : List Int) (w : World) (g : Nat) (e : Ending) (w' : World) : Prop :=
  ∃ N : Int, e = .returned (.tuple #[.int .i64 N, .int .i64 (owE x.k z)]) ∧ w.grownBy w' (some g) ∧ (owE x.k z = 0 → N = owN x.k z ∧ ∃ x' : Ob, ObAt w' g x' ∧ x'.Made w' (g + 1) ∧ x'.od = x.od.read z)
set_option maxHeartbeats 1000000 in
theorem own_box (i d : Int) (a3 : Option Addr) (n3 m3 : Nat) (a4 : Option Addr) (n4 m4 : Nat) (a5 : Option Addr) (n5 m5 : Nat) (a6 : Option Addr) (n6 m6 : Nat) (q u n : Int) (a10 : Option Addr) (n10 m10 : Nat) (a11 : Option Addr) (n11 m11 : Nat) (a12 : Option Addr) (n12 m12 : Nat) (ps : List (Int × Int)) (xs cs : List Int) (ls : List Le) (a : Option Addr) (len cap : Nat) (z : List Int) (w : World) (g : Nat) (hr : Row w a len cap z) (hne : 0 < len → ∀ y, a = some y → y.block ≠ g) (hO : ObAt w g ⟨i, 1, d, a3, n3, m3, a4, n4, m4, a5, n5, m5, a6, n6, m6, q, u, n, a10, n10, m10, a11, n11, m11, a12, n12, m12, ps, xs, cs, ls⟩) (hM : Ob.Made w (g + 1) ⟨i, 1, d, a3, n3, m3, a4, n4, m4, a5, n5, m5, a6, n6, m6, q, u, n, a10, n10, m10, a11, n11, m11, a12, n12, m12, ps, xs, cs, ls⟩) :
    Calls Try.prog 48 #[.slice a len cap, .pointer (some ⟨g, 0, none⟩)] w fun e w' => ReadsOwn ⟨i, 1, d, a3, n3, m3, a4, n4, m4, a5, n5, m5, a6, n6, m6, q, u, n, a10, n10, m10, a11, n11, m11, a12, n12, m12, ps, xs, cs, ls⟩ z w g e w' := by
  have hq := takeBox_any i d a3 n3 m3 a4 n4 m4 a5 n5 m5 a6 n6 m6 q u n a10 n10 m10 a11 n11 m11 a12 n12 m12 ps xs cs ls 1 a len cap z w g hr hne hO
  have hl := hr.len
  have ck := hO.cells.2.1
  dsimp only at ck
  unfold ReadsOwn
  dsimp only
  rw [owE1]
  by_cases h6 : z.length < 6
  · rw [if_pos h6]
    go_enter Try.func48, Try.ntmps48
    go_wp2_with fail
    refine hq.mono ?_
    rintro e w1 ⟨N, E, rfl, hg, h | h⟩
    · omega
    · obtain ⟨_, rfl⟩ := h
      go_wp2_with fail
      go_ret2
      exact ⟨N, rfl, hg, fun h => by omega⟩
  · rw [if_neg h6]
    go_enter Try.func48, Try.ntmps48
    go_wp2_with fail
    refine hq.mono ?_
    rintro e w1 ⟨N, E, rfl, hg, h | h⟩
    · obtain ⟨_, rfl, rfl, hA⟩ := h
      have HA : Hid (ObAt w1 g _) := hA
      have hM2 := hM.grown hg (Nat.lt_succ_self g)
      clear hA
      go_wp2_with fail
      go_ret2
      exact ⟨6, rfl, hg, fun _ => ⟨rfl, _, HA.out, ⟨hM2.r3, hM2.r10, hM2.r11, hM2.r12⟩, rfl⟩⟩
    · omega
set_option maxHeartbeats 1000000 in
theorem own_seg (i d : Int) (a3 : Option Addr) (n3 m3 : Nat) (a4 : Option Addr) (n4 m4 : Nat) (a5 : Option Addr) (n5 m5 : Nat) (a6 : Option Addr) (n6 m6 : Nat) (q u n : Int) (a10 : Option Addr) (n10 m10 : Nat) (a11 : Option Addr) (n11 m11 : Nat) (a12 : Option Addr) (n12 m12 : Nat) (ps : List (Int × Int)) (xs cs : List Int) (ls : List Le) (a : Option Addr) (len cap : Nat) (z : List Int) (w : World) (g : Nat) (hr : Row w a len cap z) (hne : 0 < len → ∀ y, a = some y → y.block ≠ g) (hbd : len ≤ 1000000) (hO : ObAt w g ⟨i, 2, d, a3, n3, m3, a4, n4, m4, a5, n5, m5, a6, n6, m6, q, u, n, a10, n10, m10, a11, n11, m11, a12, n12, m12, ps, xs, cs, ls⟩) (hM : Ob.Made w (g + 1) ⟨i, 2, d, a3, n3, m3, a4, n4, m4, a5, n5, m5, a6, n6, m6, q, u, n, a10, n10, m10, a11, n11, m11, a12, n12, m12, ps, xs, cs, ls⟩) :
    Calls Try.prog 48 #[.slice a len cap, .pointer (some ⟨g, 0, none⟩)] w fun e w' => ReadsOwn ⟨i, 2, d, a3, n3, m3, a4, n4, m4, a5, n5, m5, a6, n6, m6, q, u, n, a10, n10, m10, a11, n11, m11, a12, n12, m12, ps, xs, cs, ls⟩ z w g e w' := by
  have hl := hr.len
  have hgl := hO.lt
  have ck := hO.cells.2.1
  dsimp only at ck
  unfold ReadsOwn
  dsimp only
  rw [owE2]
  cases ho : okRg z
  · have hq := takeL_no a len cap z w hr ho
    have cx := hO.cells.2.2.2.2.2.2.2.2.2.2.1
    have fz := hO.fz 10
    dsimp only at cx
    rw [if_neg (by simp)]
    go_enter Try.func48, Try.ntmps48
    go_wp2_with fail
    refine hq.mono ?_
    rintro e w1 ⟨rfl, rfl⟩
    go_wp2_with fail
    go_ret2
    exact ⟨0, rfl, grown_setO _ _ _ _, fun h => by omega⟩
  · have h2 := of_decide_eq_true ho
    obtain ⟨b, off, rfl, _⟩ := hr.at (by omega)
    have hq := takeL_ok b off len cap z w hr (by omega) ho
    rw [if_pos rfl]
    clear h2
    go_enter Try.func48, Try.ntmps48
    go_wp2_with fail
    refine hq.mono ?_
    rintro e w1 ⟨g1, c1, rfl, o1, b1⟩
    have hO1 := hO.below b1
    have cx := hO1.cells.2.2.2.2.2.2.2.2.2.2.1
    have fz := hO1.fz 10
    dsimp only at cx
    have hM1 := hM.below b1
    have hg1 := (grown_of b1 (some g)).trans (grown_setO w1 g 10 (.slice (some ⟨g1, 0, none⟩) (szL z) c1))
    have HA := hO1.set 10 (.slice (some ⟨g1, 0, none⟩) (szL z) c1) ⟨i, 2, d, a3, n3, m3, a4, n4, m4, a5, n5, m5, a6, n6, m6, q, u, n, some ⟨g1, 0, none⟩, szL z, c1, a11, n11, m11, a12, n12, m12, ps, leL z, cs, ls⟩ rfl
    have hM2 := hM1.grown (grown_setO w1 g 10 (.slice (some ⟨g1, 0, none⟩) (szL z) c1)) (Nat.lt_succ_self g)
    have hL : LeO w1 (g + 1) ⟨some ⟨g1, 0, none⟩, szL z, c1, leL z⟩ := (LeO.made o1).mono (by omega)
    have hL2 := hL.grown_lt (grown_setO w1 g 10 (.slice (some ⟨g1, 0, none⟩) (szL z) c1)) (Nat.lt_succ_self g)
    clear hO hO1 hM hM1 hL o1
    go_wp2_with fail
    go_ret2
    exact ⟨_, rfl, hg1, fun _ => ⟨by simp [owN], _, HA, ⟨hM2.r3, hL2, hM2.r11, hM2.r12⟩, rfl⟩⟩
set_option maxHeartbeats 1000000 in
theorem own_gate (i d : Int) (a3 : Option Addr) (n3 m3 : Nat) (a4 : Option Addr) (n4 m4 : Nat) (a5 : Option Addr) (n5 m5 : Nat) (a6 : Option Addr) (n6 m6 : Nat) (q u n : Int) (a10 : Option Addr) (n10 m10 : Nat) (a11 : Option Addr) (n11 m11 : Nat) (a12 : Option Addr) (n12 m12 : Nat) (ps : List (Int × Int)) (xs cs : List Int) (ls : List Le) (a : Option Addr) (len cap : Nat) (z : List Int) (w : World) (g : Nat) (hr : Row w a len cap z) (hne : 0 < len → ∀ y, a = some y → y.block ≠ g) (hO : ObAt w g ⟨i, 3, d, a3, n3, m3, a4, n4, m4, a5, n5, m5, a6, n6, m6, q, u, n, a10, n10, m10, a11, n11, m11, a12, n12, m12, ps, xs, cs, ls⟩) (hM : Ob.Made w (g + 1) ⟨i, 3, d, a3, n3, m3, a4, n4, m4, a5, n5, m5, a6, n6, m6, q, u, n, a10, n10, m10, a11, n11, m11, a12, n12, m12, ps, xs, cs, ls⟩) :
    Calls Try.prog 48 #[.slice a len cap, .pointer (some ⟨g, 0, none⟩)] w fun e w' => ReadsOwn ⟨i, 3, d, a3, n3, m3, a4, n4, m4, a5, n5, m5, a6, n6, m6, q, u, n, a10, n10, m10, a11, n11, m11, a12, n12, m12, ps, xs, cs, ls⟩ z w g e w' := by
  have hl := hr.len
  have hgl := hO.lt
  have ck := hO.cells.2.1
  dsimp only at ck
  unfold ReadsOwn
  dsimp only
  rw [owE3]
  have hq := takeSet_any a len cap z w hr
  have hN : tsE z = 0 → tsN z = owN 3 z := fun h => by
    obtain ⟨K, h1, _⟩ := tsX_back z hr.byt h
    simp [owN, h1]
  have hS : tsY z = owS 3 z := rfl
  generalize tsN z = N at hq hN
  generalize tsE z = E at hq hN ⊢
  go_enter Try.func48, Try.ntmps48
  go_wp2_with fail
  refine hq.mono ?_
  rintro e w1 ⟨so, k1, c1, rfl, o1, b1⟩
  have hO1 := hO.below b1
  have cx := hO1.cells.2.2.2.2.2.2.2.2.2.2.2.1
  have fz := hO1.fz 11
  dsimp only at cx
  have hM1 := hM.below b1
  have hg1 := (grown_of b1 (some g)).trans (grown_setO w1 g 11 (.slice so k1 c1))
  have HA := hO1.set 11 (.slice so k1 c1) ⟨i, 3, d, a3, n3, m3, a4, n4, m4, a5, n5, m5, a6, n6, m6, q, u, n, a10, n10, m10, so, k1, c1, a12, n12, m12, ps, xs, tsY z, ls⟩ rfl
  have hM2 := hM1.grown (grown_setO w1 g 11 (.slice so k1 c1)) (Nat.lt_succ_self g)
  have hL2 := (o1.mono (show g + 1 ≤ w.heap.size by omega)).grownO (grown_setO w1 g 11 (.slice so k1 c1)) (Nat.lt_succ_self g)
  clear hO hO1 hM hM1 o1
  go_wp2_with fail
  go_ret2
  exact ⟨_, rfl, hg1, fun h => ⟨hN h, _, HA, ⟨hM2.r3, hM2.r10, hL2, hM2.r12⟩, rfl⟩⟩
set_option maxHeartbeats 1000000 in
theorem own_port (i d : Int) (a3 : Option Addr) (n3 m3 : Nat) (a4 : Option Addr) (n4 m4 : Nat) (a5 : Option Addr) (n5 m5 : Nat) (a6 : Option Addr) (n6 m6 : Nat) (q u n : Int) (a10 : Option Addr) (n10 m10 : Nat) (a11 : Option Addr) (n11 m11 : Nat) (a12 : Option Addr) (n12 m12 : Nat) (ps : List (Int × Int)) (xs cs : List Int) (ls : List Le) (a : Option Addr) (len cap : Nat) (z : List Int) (w : World) (g : Nat) (hr : Row w a len cap z) (hne : 0 < len → ∀ y, a = some y → y.block ≠ g) (hbd : len ≤ 1000000) (hO : ObAt w g ⟨i, 4, d, a3, n3, m3, a4, n4, m4, a5, n5, m5, a6, n6, m6, q, u, n, a10, n10, m10, a11, n11, m11, a12, n12, m12, ps, xs, cs, ls⟩) (hM : Ob.Made w (g + 1) ⟨i, 4, d, a3, n3, m3, a4, n4, m4, a5, n5, m5, a6, n6, m6, q, u, n, a10, n10, m10, a11, n11, m11, a12, n12, m12, ps, xs, cs, ls⟩) :
    Calls Try.prog 48 #[.slice a len cap, .pointer (some ⟨g, 0, none⟩)] w fun e w' => ReadsOwn ⟨i, 4, d, a3, n3, m3, a4, n4, m4, a5, n5, m5, a6, n6, m6, q, u, n, a10, n10, m10, a11, n11, m11, a12, n12, m12, ps, xs, cs, ls⟩ z w g e w' := by
  have hl := hr.len
  have hgl := hO.lt
  have ck := hO.cells.2.1
  dsimp only at ck
  unfold ReadsOwn
  dsimp only
  have hq := takeR_any a len cap z w hr (by omega)
  go_enter Try.func48, Try.ntmps48
  go_wp2_with fail
  refine hq.mono ?_
  rintro e w1 ⟨so, k1, c1, p, E, rfl, b1, h⟩
  have hO1 := hO.below b1
  have cx := hO1.cells.2.2.2.2.2.2.2.2.2.2.2.2
  have fz := hO1.fz 12
  dsimp only at cx
  have hM1 := hM.below b1
  have hg1 := (grown_of b1 (some g)).trans (grown_setO w1 g 12 (.slice so k1 c1))
  have hM2 := hM1.grown (grown_setO w1 g 12 (.slice so k1 c1)) (Nat.lt_succ_self g)
  have HH : Hid (owE 4 z = E ∧ (E = 0 → p = owN 4 z ∧ ∃ qs, owL 4 z = txt qs ∧ OwnR w1 w.heap.size so k1 c1 qs)) := by
    rcases h with ⟨qs, p', rfl, rfl, ht, hm, o⟩ | ⟨rfl, _, _, _, _, ls', p', ht, hm⟩ | ⟨rfl, _, _, _, _, ht⟩
    · exact ⟨by rw [owE4_some ht, hm]; rfl, fun _ => ⟨by rw [owN4 ht], qs, owL4 ht, o⟩⟩
    · exact ⟨by rw [owE4_some ht, hm]; rfl, fun h => by omega⟩
    · exact ⟨owE4_none ht, fun h => by omega⟩
  have HO : Hid (ObAt w1 g ⟨i, 4, d, a3, n3, m3, a4, n4, m4, a5, n5, m5, a6, n6, m6, q, u, n, a10, n10, m10, a11, n11, m11, a12, n12, m12, ps, xs, cs, ls⟩) := hO1
  clear hO hO1 hM hM1 h
  go_wp2_with fail
  go_ret2
  refine ⟨p, by rw [HH.out.1]; rfl, hg1, fun h => ?_⟩
  obtain ⟨h1, qs, h2, h3⟩ := HH.out.2 (by rw [← HH.out.1]; exact h)
  refine ⟨h1, _, HO.out.set 12 (.slice so k1 c1) ⟨i, 4, d, a3, n3, m3, a4, n4, m4, a5, n5, m5, a6, n6, m6, q, u, n, a10, n10, m10, a11, n11, m11, so, k1, c1, ps, xs, cs, qs⟩ rfl,
    ⟨hM2.r3, hM2.r10, hM2.r11, (h3.mono (show g + 1 ≤ w.heap.size by omega)).grown_lt (grown_setO w1 g 12 (.slice so k1 c1)) (Nat.lt_succ_self g)⟩, ?_⟩
  show (⟨i, 4, d, ps, q, u, n, xs, cs, txt qs⟩ : Od) = ⟨i, 4, d, ps, q, u, n, xs, cs, owL 4 z⟩
  rw [h2]
theorem takeOwn_any (x : Ob) (hk : isK x.k = true) (a : Option Addr) (len cap : Nat) (z : List Int) (w : World) (g : Nat) (hr : Row w a len cap z) (hne : 0 < len → ∀ y, a = some y → y.block ≠ g) (hbd : len ≤ 1000000) (hO : ObAt w g x) (hM : x.Made w (g + 1)) :
    Calls Try.prog 48 #[.slice a len cap, .pointer (some ⟨g, 0, none⟩)] w fun e w' => ReadsOwn x z w g e w' := by
  have hk' : 1 ≤ x.k ∧ x.k ≤ 4 := isK_iff.1 hk
  obtain ⟨i, k, d, a3, n3, m3, a4, n4, m4, a5, n5, m5, a6, n6, m6, q, u, n, a10, n10, m10, a11, n11, m11, a12, n12, m12, ps, xs, cs, ls⟩ := x
  dsimp only at hk'
  obtain rfl | rfl | rfl | rfl : k = 1 ∨ k = 2 ∨ k = 3 ∨ k = 4 := by omega
  · exact own_box i d a3 n3 m3 a4 n4 m4 a5 n5 m5 a6 n6 m6 q u n a10 n10 m10 a11 n11 m11 a12 n12 m12 ps xs cs ls a len cap z w g hr hne hO hM
  · exact own_seg i d a3 n3 m3 a4 n4 m4 a5 n5 m5 a6 n6 m6 q u n a10 n10 m10 a11 n11 m11 a12 n12 m12 ps xs cs ls a len cap z w g hr hne hbd hO hM
  · exact own_gate i d a3 n3 m3 a4 n4 m4 a5 n5 m5 a6 n6 m6 q u n a10 n10 m10 a11 n11 m11 a12 n12 m12 ps xs cs ls a len cap z w g hr hne hO hM
  · exact own_port i d a3 n3 m3 a4 n4 m4 a5 n5 m5 a6 n6 m6 q u n a10 n10 m10 a11 n11 m11 a12 n12 m12 ps xs cs ls a len cap z w g hr hne hbd hO hM
end Go.Proofs.Ytldkelpngeopmaa

namespace Go.Proofs.Ytldkelpngeopmaa
open Go.RowKit
set_option maxRecDepth 100000
set_option linter.unusedVariables false

def verE (z : List Int) : Int := if z.length < 1 then 3 else if z.getD 0 0 ≠ 1 then 2 else 0
def kinE (z : List Int) : Int := if z.length < 1 then 3 else if isK (z.getD 0 0) = false then 2 else 0
def kinK (z : List Int) : Int := if z.length < 1 ∨ isK (z.getD 0 0) = false then 0 else z.getD 0 0

theorem part0 (a : Option Addr) (len cap : Nat) (z : List Int) (w : World) (p : Value) (hr : Row w a len cap z) :
    Calls Try.prog 24 #[.slice a len cap, .int .i64 0, p] w fun e w' => e = .returned (.tuple #[.int .i64 1, .int .i64 (verE z)]) ∧ w' = w := by
  have hq := takeVersion_any a len cap z w hr
  rw [← hr.len] at hq
  rw [show (if z.length < 1 then (3 : Int) else if z.getD 0 0 ≠ 1 then 2 else 0) = verE z from rfl] at hq
  have hl := hr.len
  generalize verE z = E at hq ⊢
  subst hl
  go_enter Try.func24, Try.ntmps24
  go_wp2_with fail
  refine hq.mono ?_
  rintro e w ⟨rfl, rfl⟩
  go_wp2_with fail
  go_ret2
  exact ⟨rfl, rfl⟩
theorem part1 (a : Option Addr) (len cap : Nat) (z : List Int) (w : World) (g : Nat) (x : Ob) (hr : Row w a len cap z) (hO : ObAt w g x) :
    Calls Try.prog 24 #[.slice a len cap, .int .i64 1, .pointer (some ⟨g, 0, none⟩)] w fun e w' => e = .returned (.tuple #[.int .i64 1, .int .i64 (kinE z)]) ∧ w' = w.setCell ⟨g, 1, none⟩ (.int .i64 (kinK z)) := by
  have hq := takeKind_any a len cap z w hr
  rw [← hr.len] at hq
  rw [show (if z.length < 1 then (3 : Int) else if isK (z.getD 0 0) = false then 2 else 0) = kinE z from rfl, show (if z.length < 1 ∨ isK (z.getD 0 0) = false then (0 : Int) else z.getD 0 0) = kinK z from rfl] at hq
  have hl := hr.len
  have cx := hO.cells.2.1
  have fz := hO.fz 1
  generalize kinE z = E at hq ⊢
  generalize kinK z = K at hq ⊢
  subst hl
  go_enter Try.func24, Try.ntmps24
  go_wp2_with fail
  refine hq.mono ?_
  rintro e w ⟨rfl, rfl⟩
  go_wp2_with fail
  go_ret2
  exact ⟨rfl, rfl⟩
theorem part2 (a : Option Addr) (len cap : Nat) (z : List Int) (w : World) (g : Nat) (x : Ob) (hr : Row w a len cap z) (hO : ObAt w g x) :
    Calls Try.prog 24 #[.slice a len cap, .int .i64 2, .pointer (some ⟨g, 0, none⟩)] w fun e w' => e = .returned (.tuple #[.int .i64 8, .int .i64 (takeE z 8)]) ∧ w' = w.setCell ⟨g, 0, none⟩ (.int .u64 (takeV z 8)) := by
  have hq := take_any a len cap 8 z w hr
  have cx := hO.cells.1
  have fz := hO.fz 0
  generalize takeE z 8 = E at hq ⊢
  generalize takeV z 8 = V at hq ⊢
  go_enter Try.func24, Try.ntmps24
  go_wp2_with fail
  refine hq.mono ?_
  rintro e w ⟨rfl, rfl⟩
  go_wp2_with fail
  go_ret2
  exact ⟨rfl, rfl⟩
set_option maxHeartbeats 1000000 in
theorem part3 (a : Option Addr) (len cap : Nat) (z : List Int) (w : World) (g : Nat) (x : Ob) (hr : Row w a len cap z) (hbd : len ≤ 1000000) (hO : ObAt w g x) :
    Calls Try.prog 24 #[.slice a len cap, .int .i64 3, .pointer (some ⟨g, 0, none⟩)] w fun e w' => ∃ (so : Option Addr) (k co : Nat) (w1 : World), e = .returned (.tuple #[.int .i64 (tlN z), .int .i64 (tlE z)]) ∧
      OwnG PE 46 w1 w.heap.size so k co (tlP z) ∧ Below w.heap.size w w1 ∧ w' = (w1.setCell ⟨g, 2, none⟩ (.int .u8 (tlD z))).setCell ⟨g, 3, none⟩ (.slice so k co) := by
  have hq := ltake_any a len cap z w hr hbd
  generalize tlN z = N at hq ⊢
  generalize tlE z = E at hq ⊢
  generalize tlD z = D at hq ⊢
  go_enter Try.func24, Try.ntmps24
  go_wp2_with fail
  refine hq.mono ?_
  rintro e w1 ⟨so, k, co, rfl, o, b⟩
  have hO1 := hO.below b
  have c2 := hO1.cells.2.2.1
  have c3 := hO1.cells.2.2.2.1
  have f2 := hO1.fz 2
  have f3 := hO1.fz 3
  go_wp2_with fail
  go_ret2
  exact ⟨so, k, co, w1, rfl, o, b, rfl⟩
set_option maxHeartbeats 1000000 in
theorem part4 (x : Ob) (hk : isK x.k = true) (a : Option Addr) (len cap : Nat) (z : List Int) (w : World) (g : Nat) (hr : Row w a len cap z) (hne : 0 < len → ∀ y, a = some y → y.block ≠ g) (hbd : len ≤ 1000000) (hO : ObAt w g x) (hM : x.Made w (g + 1)) :
    Calls Try.prog 24 #[.slice a len cap, .int .i64 4, .pointer (some ⟨g, 0, none⟩)] w fun e w' => ReadsOwn x z w g e w' := by
  have hq := takeOwn_any x hk a len cap z w g hr hne hbd hO hM
  unfold ReadsOwn at hq ⊢
  obtain ⟨E, hE⟩ : ∃ E, E = owE x.k z := ⟨_, rfl⟩
  rw [← hE] at hq ⊢
  clear hE
  go_enter Try.func24, Try.ntmps24
  go_wp2_with fail
  refine hq.mono ?_
  rintro e w1 ⟨N, rfl, hg, hrest⟩
  have HR : Hid (E = 0 → _) := hrest
  clear hrest
  go_wp2_with fail
  go_ret2
  exact ⟨N, rfl, hg, HR.out⟩
end Go.Proofs.Ytldkelpngeopmaa
