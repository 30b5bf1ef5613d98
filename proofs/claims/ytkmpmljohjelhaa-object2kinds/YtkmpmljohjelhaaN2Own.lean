/- What obj2.takeOwn answers, and writes into an object: a contract. -/
import Derived.Test.YtkmpmljohjelhaaN2Box
import Derived.Test.YtkmpmljohjelhaaJSet
namespace Go.Proofs.Ytkmpmljohjelhaa
open Go.RowKit
set_option maxRecDepth 100000
set_option linter.unusedVariables false

/-- What is read behind a label, laid into what there is. -/
def Od.read2 (o : Od) (z : List Int) : Od :=
  ⟨o.i, o.k, o.d, o.ps, o.va, o.vb, o.vc, if o.k = 1 then owQ o.k z 0 else o.q, if o.k = 1 then owQ o.k z 2 else o.u, if o.k = 1 then owQ o.k z 4 else o.n, if o.k = 2 then owX o.k z else o.xs, if o.k = 3 then owS o.k z else o.cs, if o.k = 4 then owL o.k z else o.ls⟩
/-- What a call answers that reads what stands behind a label into the object at g. -/
def ReadsOwn2 (x : Ob) (z : List Int) (w : World) (g : Nat) (e : Ending) (w' : World) : Prop :=
  ∃ N : Int, e = .returned (.tuple #[.int .i64 N, .int .i64 (owE x.k z)]) ∧ w.grownBy w' (some g) ∧ (owE x.k z = 0 → N = owN x.k z ∧ ∃ x' : Ob, ObAt w' g x' ∧ x'.Made w' (g + 1) ∧ x'.od = x.od.read2 z)
set_option maxHeartbeats 1000000 in
theorem own2_box (i d : Int) (a3 : Option Addr) (n3 m3 : Nat) (a4 : Option Addr) (n4 m4 : Nat) (a5 : Option Addr) (n5 m5 : Nat) (a6 : Option Addr) (n6 m6 : Nat) (q u n : Int) (a10 : Option Addr) (n10 m10 : Nat) (a11 : Option Addr) (n11 m11 : Nat) (a12 : Option Addr) (n12 m12 : Nat) (ps : List (Int × Int)) (va vb vc xs cs : List Int) (ls : List Le) (a : Option Addr) (len cap : Nat) (z : List Int) (w : World) (g : Nat) (hr : Row w a len cap z) (hne : 0 < len → ∀ y, a = some y → y.block ≠ g) (hO : ObAt w g ⟨i, 1, d, a3, n3, m3, a4, n4, m4, a5, n5, m5, a6, n6, m6, q, u, n, a10, n10, m10, a11, n11, m11, a12, n12, m12, ps, va, vb, vc, xs, cs, ls⟩) (hM : Ob.Made w (g + 1) ⟨i, 1, d, a3, n3, m3, a4, n4, m4, a5, n5, m5, a6, n6, m6, q, u, n, a10, n10, m10, a11, n11, m11, a12, n12, m12, ps, va, vb, vc, xs, cs, ls⟩) :
    Calls Try.prog 45 #[.slice a len cap, .pointer (some ⟨g, 0, none⟩)] w fun e w' => ReadsOwn2 ⟨i, 1, d, a3, n3, m3, a4, n4, m4, a5, n5, m5, a6, n6, m6, q, u, n, a10, n10, m10, a11, n11, m11, a12, n12, m12, ps, va, vb, vc, xs, cs, ls⟩ z w g e w' := by
  have hq := takeBox2_any i d a3 n3 m3 a4 n4 m4 a5 n5 m5 a6 n6 m6 q u n a10 n10 m10 a11 n11 m11 a12 n12 m12 ps va vb vc xs cs ls 1 a len cap z w g hr hne hO
  have hl := hr.len
  have ck := hO.cells.2.1
  dsimp only at ck
  unfold ReadsOwn2
  dsimp only
  rw [owE1]
  by_cases h6 : z.length < 6
  · rw [if_pos h6]
    go_enter Try.func45, Try.ntmps45
    go_wp2_with fail
    refine hq.mono ?_
    rintro e w1 ⟨N, E, rfl, hg, h | h⟩
    · omega
    · obtain ⟨_, rfl⟩ := h
      go_wp2_with fail
      go_ret2
      exact ⟨N, rfl, hg, fun h => by omega⟩
  · rw [if_neg h6]
    go_enter Try.func45, Try.ntmps45
    go_wp2_with fail
    refine hq.mono ?_
    rintro e w1 ⟨N, E, rfl, hg, h | h⟩
    · obtain ⟨_, rfl, rfl, hA⟩ := h
      have HA : Hid (ObAt w1 g _) := hA
      have hM2 := hM.grown hg (Nat.lt_succ_self g)
      clear hA
      go_wp2_with fail
      go_ret2
      exact ⟨6, rfl, hg, fun _ => ⟨rfl, _, HA.out, ⟨hM2.r3, hM2.r4, hM2.r5, hM2.r6, hM2.r10, hM2.r11, hM2.r12⟩, rfl⟩⟩
    · omega
set_option maxHeartbeats 1000000 in
theorem own2_seg (i d : Int) (a3 : Option Addr) (n3 m3 : Nat) (a4 : Option Addr) (n4 m4 : Nat) (a5 : Option Addr) (n5 m5 : Nat) (a6 : Option Addr) (n6 m6 : Nat) (q u n : Int) (a10 : Option Addr) (n10 m10 : Nat) (a11 : Option Addr) (n11 m11 : Nat) (a12 : Option Addr) (n12 m12 : Nat) (ps : List (Int × Int)) (va vb vc xs cs : List Int) (ls : List Le) (a : Option Addr) (len cap : Nat) (z : List Int) (w : World) (g : Nat) (hr : Row w a len cap z) (hne : 0 < len → ∀ y, a = some y → y.block ≠ g) (hbd : len ≤ 1000000) (hO : ObAt w g ⟨i, 2, d, a3, n3, m3, a4, n4, m4, a5, n5, m5, a6, n6, m6, q, u, n, a10, n10, m10, a11, n11, m11, a12, n12, m12, ps, va, vb, vc, xs, cs, ls⟩) (hM : Ob.Made w (g + 1) ⟨i, 2, d, a3, n3, m3, a4, n4, m4, a5, n5, m5, a6, n6, m6, q, u, n, a10, n10, m10, a11, n11, m11, a12, n12, m12, ps, va, vb, vc, xs, cs, ls⟩) :
    Calls Try.prog 45 #[.slice a len cap, .pointer (some ⟨g, 0, none⟩)] w fun e w' => ReadsOwn2 ⟨i, 2, d, a3, n3, m3, a4, n4, m4, a5, n5, m5, a6, n6, m6, q, u, n, a10, n10, m10, a11, n11, m11, a12, n12, m12, ps, va, vb, vc, xs, cs, ls⟩ z w g e w' := by
  have hl := hr.len
  have hgl := hO.lt
  have ck := hO.cells.2.1
  dsimp only at ck
  unfold ReadsOwn2
  dsimp only
  rw [owE2]
  cases ho : okRg z
  · have hq := takeL_no a len cap z w hr ho
    have cx := hO.cells.2.2.2.2.2.2.2.2.2.2.1
    have fz := hO.fz 10
    dsimp only at cx
    rw [if_neg (by simp)]
    go_enter Try.func45, Try.ntmps45
    go_wp2_with fail
    refine hq.mono ?_
    rintro e w1 ⟨rfl, rfl⟩
    go_wp2_with fail
    go_ret2
    exact ⟨0, rfl, grown_setO _ _ _ _, fun h => by omega⟩
  · have h2 := of_decide_eq_true ho
    obtain ⟨b, off, rfl, _⟩ := hr.at (by omega)
    have hq := takeL_ok b off len cap z w hr (by omega) ho
    rw [if_pos rfl]
    clear h2
    go_enter Try.func45, Try.ntmps45
    go_wp2_with fail
    refine hq.mono ?_
    rintro e w1 ⟨g1, c1, rfl, o1, b1⟩
    have hO1 := hO.below b1
    have cx := hO1.cells.2.2.2.2.2.2.2.2.2.2.1
    have fz := hO1.fz 10
    dsimp only at cx
    have hM1 := hM.below b1
    have hg1 := (grown_of b1 (some g)).trans (grown_setO w1 g 10 (.slice (some ⟨g1, 0, none⟩) (szL z) c1))
    have HA := hO1.set 10 (.slice (some ⟨g1, 0, none⟩) (szL z) c1) ⟨i, 2, d, a3, n3, m3, a4, n4, m4, a5, n5, m5, a6, n6, m6, q, u, n, some ⟨g1, 0, none⟩, szL z, c1, a11, n11, m11, a12, n12, m12, ps, va, vb, vc, leL z, cs, ls⟩ rfl
    have hM2 := hM1.grown (grown_setO w1 g 10 (.slice (some ⟨g1, 0, none⟩) (szL z) c1)) (Nat.lt_succ_self g)
    have hL : LeO w1 (g + 1) ⟨some ⟨g1, 0, none⟩, szL z, c1, leL z⟩ := (LeO.made o1).mono (by omega)
    have hL2 := hL.grown_lt (grown_setO w1 g 10 (.slice (some ⟨g1, 0, none⟩) (szL z) c1)) (Nat.lt_succ_self g)
    clear hO hO1 hM hM1 hL o1
    go_wp2_with fail
    go_ret2
    exact ⟨_, rfl, hg1, fun _ => ⟨by simp [owN], _, HA, ⟨hM2.r3, hM2.r4, hM2.r5, hM2.r6, hL2, hM2.r11, hM2.r12⟩, rfl⟩⟩
set_option maxHeartbeats 1000000 in
theorem own2_gate (i d : Int) (a3 : Option Addr) (n3 m3 : Nat) (a4 : Option Addr) (n4 m4 : Nat) (a5 : Option Addr) (n5 m5 : Nat) (a6 : Option Addr) (n6 m6 : Nat) (q u n : Int) (a10 : Option Addr) (n10 m10 : Nat) (a11 : Option Addr) (n11 m11 : Nat) (a12 : Option Addr) (n12 m12 : Nat) (ps : List (Int × Int)) (va vb vc xs cs : List Int) (ls : List Le) (a : Option Addr) (len cap : Nat) (z : List Int) (w : World) (g : Nat) (hr : Row w a len cap z) (hne : 0 < len → ∀ y, a = some y → y.block ≠ g) (hO : ObAt w g ⟨i, 3, d, a3, n3, m3, a4, n4, m4, a5, n5, m5, a6, n6, m6, q, u, n, a10, n10, m10, a11, n11, m11, a12, n12, m12, ps, va, vb, vc, xs, cs, ls⟩) (hM : Ob.Made w (g + 1) ⟨i, 3, d, a3, n3, m3, a4, n4, m4, a5, n5, m5, a6, n6, m6, q, u, n, a10, n10, m10, a11, n11, m11, a12, n12, m12, ps, va, vb, vc, xs, cs, ls⟩) :
    Calls Try.prog 45 #[.slice a len cap, .pointer (some ⟨g, 0, none⟩)] w fun e w' => ReadsOwn2 ⟨i, 3, d, a3, n3, m3, a4, n4, m4, a5, n5, m5, a6, n6, m6, q, u, n, a10, n10, m10, a11, n11, m11, a12, n12, m12, ps, va, vb, vc, xs, cs, ls⟩ z w g e w' := by
  have hl := hr.len
  have hgl := hO.lt
  have ck := hO.cells.2.1
  dsimp only at ck
  unfold ReadsOwn2
  dsimp only
  rw [owE3]
  have hq := takeSet_any a len cap z w hr
  have hN : tsE z = 0 → tsN z = owN 3 z := fun h => by
    obtain ⟨K, h1, _⟩ := tsX_back z hr.byt h
    simp [owN, h1]
  have hS : tsY z = owS 3 z := rfl
  generalize tsN z = N at hq hN
  generalize tsE z = E at hq hN ⊢
  go_enter Try.func45, Try.ntmps45
  go_wp2_with fail
  refine hq.mono ?_
  rintro e w1 ⟨so, k1, c1, rfl, o1, b1⟩
  have hO1 := hO.below b1
  have cx := hO1.cells.2.2.2.2.2.2.2.2.2.2.2.1
  have fz := hO1.fz 11
  dsimp only at cx
  have hM1 := hM.below b1
  have hg1 := (grown_of b1 (some g)).trans (grown_setO w1 g 11 (.slice so k1 c1))
  have HA := hO1.set 11 (.slice so k1 c1) ⟨i, 3, d, a3, n3, m3, a4, n4, m4, a5, n5, m5, a6, n6, m6, q, u, n, a10, n10, m10, so, k1, c1, a12, n12, m12, ps, va, vb, vc, xs, tsY z, ls⟩ rfl
  have hM2 := hM1.grown (grown_setO w1 g 11 (.slice so k1 c1)) (Nat.lt_succ_self g)
  have hL2 := (o1.mono (show g + 1 ≤ w.heap.size by omega)).grownO (grown_setO w1 g 11 (.slice so k1 c1)) (Nat.lt_succ_self g)
  clear hO hO1 hM hM1 o1
  go_wp2_with fail
  go_ret2
  exact ⟨_, rfl, hg1, fun h => ⟨hN h, _, HA, ⟨hM2.r3, hM2.r4, hM2.r5, hM2.r6, hM2.r10, hL2, hM2.r12⟩, rfl⟩⟩
set_option maxHeartbeats 1000000 in
theorem own2_port (i d : Int) (a3 : Option Addr) (n3 m3 : Nat) (a4 : Option Addr) (n4 m4 : Nat) (a5 : Option Addr) (n5 m5 : Nat) (a6 : Option Addr) (n6 m6 : Nat) (q u n : Int) (a10 : Option Addr) (n10 m10 : Nat) (a11 : Option Addr) (n11 m11 : Nat) (a12 : Option Addr) (n12 m12 : Nat) (ps : List (Int × Int)) (va vb vc xs cs : List Int) (ls : List Le) (a : Option Addr) (len cap : Nat) (z : List Int) (w : World) (g : Nat) (hr : Row w a len cap z) (hne : 0 < len → ∀ y, a = some y → y.block ≠ g) (hbd : len ≤ 1000000) (hO : ObAt w g ⟨i, 4, d, a3, n3, m3, a4, n4, m4, a5, n5, m5, a6, n6, m6, q, u, n, a10, n10, m10, a11, n11, m11, a12, n12, m12, ps, va, vb, vc, xs, cs, ls⟩) (hM : Ob.Made w (g + 1) ⟨i, 4, d, a3, n3, m3, a4, n4, m4, a5, n5, m5, a6, n6, m6, q, u, n, a10, n10, m10, a11, n11, m11, a12, n12, m12, ps, va, vb, vc, xs, cs, ls⟩) :
    Calls Try.prog 45 #[.slice a len cap, .pointer (some ⟨g, 0, none⟩)] w fun e w' => ReadsOwn2 ⟨i, 4, d, a3, n3, m3, a4, n4, m4, a5, n5, m5, a6, n6, m6, q, u, n, a10, n10, m10, a11, n11, m11, a12, n12, m12, ps, va, vb, vc, xs, cs, ls⟩ z w g e w' := by
  have hl := hr.len
  have hgl := hO.lt
  have ck := hO.cells.2.1
  dsimp only at ck
  unfold ReadsOwn2
  dsimp only
  have hq := takeR_any a len cap z w hr (by omega)
  go_enter Try.func45, Try.ntmps45
  go_wp2_with fail
  refine hq.mono ?_
  rintro e w1 ⟨so, k1, c1, p, E, rfl, b1, h⟩
  have hO1 := hO.below b1
  have cx := hO1.cells.2.2.2.2.2.2.2.2.2.2.2.2
  have fz := hO1.fz 12
  dsimp only at cx
  have hM1 := hM.below b1
  have hg1 := (grown_of b1 (some g)).trans (grown_setO w1 g 12 (.slice so k1 c1))
  have hM2 := hM1.grown (grown_setO w1 g 12 (.slice so k1 c1)) (Nat.lt_succ_self g)
  have HH : Hid (owE 4 z = E ∧ (E = 0 → p = owN 4 z ∧ ∃ qs, owL 4 z = txt qs ∧ OwnR w1 w.heap.size so k1 c1 qs)) := by
    rcases h with ⟨qs, p', rfl, rfl, ht, hm, o⟩ | ⟨rfl, _, _, _, _, ls', p', ht, hm⟩ | ⟨rfl, _, _, _, _, ht⟩
    · exact ⟨by rw [owE4_some ht, hm]; rfl, fun _ => ⟨by rw [owN4 ht], qs, owL4 ht, o⟩⟩
    · exact ⟨by rw [owE4_some ht, hm]; rfl, fun h => by omega⟩
    · exact ⟨owE4_none ht, fun h => by omega⟩
  have HO : Hid (ObAt w1 g ⟨i, 4, d, a3, n3, m3, a4, n4, m4, a5, n5, m5, a6, n6, m6, q, u, n, a10, n10, m10, a11, n11, m11, a12, n12, m12, ps, va, vb, vc, xs, cs, ls⟩) := hO1
  clear hO hO1 hM hM1 h
  go_wp2_with fail
  go_ret2
  refine ⟨p, by rw [HH.out.1]; rfl, hg1, fun h => ?_⟩
  obtain ⟨h1, qs, h2, h3⟩ := HH.out.2 (by rw [← HH.out.1]; exact h)
  refine ⟨h1, _, HO.out.set 12 (.slice so k1 c1) ⟨i, 4, d, a3, n3, m3, a4, n4, m4, a5, n5, m5, a6, n6, m6, q, u, n, a10, n10, m10, a11, n11, m11, so, k1, c1, ps, va, vb, vc, xs, cs, qs⟩ rfl,
    ⟨hM2.r3, hM2.r4, hM2.r5, hM2.r6, hM2.r10, hM2.r11, (h3.mono (show g + 1 ≤ w.heap.size by omega)).grown_lt (grown_setO w1 g 12 (.slice so k1 c1)) (Nat.lt_succ_self g)⟩, ?_⟩
  show (⟨i, 4, d, ps, va, vb, vc, q, u, n, xs, cs, txt qs⟩ : Od) = ⟨i, 4, d, ps, va, vb, vc, q, u, n, xs, cs, owL 4 z⟩
  rw [h2]
theorem takeOwn2_any (x : Ob) (hk : isK x.k = true) (a : Option Addr) (len cap : Nat) (z : List Int) (w : World) (g : Nat) (hr : Row w a len cap z) (hne : 0 < len → ∀ y, a = some y → y.block ≠ g) (hbd : len ≤ 1000000) (hO : ObAt w g x) (hM : x.Made w (g + 1)) :
    Calls Try.prog 45 #[.slice a len cap, .pointer (some ⟨g, 0, none⟩)] w fun e w' => ReadsOwn2 x z w g e w' := by
  have hk' : 1 ≤ x.k ∧ x.k ≤ 4 := isK_iff.1 hk
  obtain ⟨i, k, d, a3, n3, m3, a4, n4, m4, a5, n5, m5, a6, n6, m6, q, u, n, a10, n10, m10, a11, n11, m11, a12, n12, m12, ps, va, vb, vc, xs, cs, ls⟩ := x
  dsimp only at hk'
  obtain rfl | rfl | rfl | rfl : k = 1 ∨ k = 2 ∨ k = 3 ∨ k = 4 := by omega
  · exact own2_box i d a3 n3 m3 a4 n4 m4 a5 n5 m5 a6 n6 m6 q u n a10 n10 m10 a11 n11 m11 a12 n12 m12 ps va vb vc xs cs ls a len cap z w g hr hne hO hM
  · exact own2_seg i d a3 n3 m3 a4 n4 m4 a5 n5 m5 a6 n6 m6 q u n a10 n10 m10 a11 n11 m11 a12 n12 m12 ps va vb vc xs cs ls a len cap z w g hr hne hbd hO hM
  · exact own2_gate i d a3 n3 m3 a4 n4 m4 a5 n5 m5 a6 n6 m6 q u n a10 n10 m10 a11 n11 m11 a12 n12 m12 ps va vb vc xs cs ls a len cap z w g hr hne hO hM
  · exact own2_port i d a3 n3 m3 a4 n4 m4 a5 n5 m5 a6 n6 m6 q u n a10 n10 m10 a11 n11 m11 a12 n12 m12 ps va vb vc xs cs ls a len cap z w g hr hne hbd hO hM
end Go.Proofs.Ytkmpmljohjelhaa
