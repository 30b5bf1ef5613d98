/- Object2Kinds walked: it answers true, and turns nothing that was there. -/
import Derived.Test.YtkmpmljohjelhaaN2Begun
import Derived.Test.YtkmpmljohjelhaaJRing
import Derived.Test.YtkmpmljohjelhaaRgSame
import Derived.Test.YtkmpmljohjelhaaRegion
import Derived.Lib.MinMax
import Derived.BigQuiet
namespace Go.Proofs.Ytkmpmljohjelhaa
open Go.RowKit
set_option maxRecDepth 100000
set_option linter.unusedVariables false

theorem tE2_0p (o : Od) (ok : o.Ok) (hm : mayD2 o = true) : tE2 (encD2 o) = 0 ∧ tkO2 (encD2 o) = o.own2 := by
  have h1 := tE2_put o ok hm []
  have h2 := tkO2_put o ok hm []
  rw [List.append_nil] at h1 h2
  exact ⟨h1, h2⟩
/-- What each kind keeps. -/
theorem own2_kinds (K q u n : Int) (xs cs : List Int) (ls : List (List Int)) (x : Od) (hx : x = Od.own2 ⟨65, K, 0, [], [], [], [], q, u, n, xs, cs, ls⟩) :
    x.i = 65 ∧ x.k = K ∧ x.q = (if K = 1 then q else 0) ∧ x.u = (if K = 1 then u else 0) ∧ x.n = (if K = 1 then n else 0) ∧ x.xs = (if K = 2 then xs else []) ∧ x.cs = (if K = 3 then cs else []) ∧ x.ls = (if K = 4 then ls else []) := by
  subst hx
  exact ⟨rfl, rfl, rfl, rfl, rfl, rfl, rfl, rfl⟩

set_option maxHeartbeats 8000000 in
theorem object2Kinds_1 (k8 q8 u8 : Int) (hk8 : 0 ≤ k8 ∧ k8 < 256) (hj : k8 % 4 = 0) (hq8 : 0 ≤ q8 ∧ q8 < 256) (hu8 : 0 ≤ u8 ∧ u8 < 256) (a : Option Addr) (n c : Nat) (xs : List Int) (c16 : Int) (hc16 : 0 ≤ c16 ∧ c16 < 65536) (a2 : Option Addr) (n2 c2 : Nat) (ys : List Int) (w : World)
    (hr : Row w a n c xs) (hs : Row w a2 n2 c2 ys) (hn : n ≤ 64) (hn2 : n2 ≤ 16) :
    Calls Try.prog 5 #[.int .u8 k8, .int .u8 q8, .int .u8 u8, .slice a n c, .int .u16 c16, .slice a2 n2 c2] w fun e w' => e = .returned (.bool true) ∧ Below w.heap.size w w' := by
  have hn' : ¬ (64 : Int) < (n : Int) := by omega
  have hn2' : ¬ (16 : Int) < (n2 : Int) := by omega
  go_enter Try.func5, Try.ntmps5
  go_wp2_with fail
  refine (begun18_true _).mono ?_
  rintro e w1 ⟨rfl, b1⟩
  have hU : 0 ≤ min u8 q8 ∧ min u8 q8 ≤ q8 := by omega
  have hN : 1 ≤ 1 + u8 % 60 ∧ 1 + u8 % 60 ≤ 60 := by omega
  have HJ : Hid (k8 % 4 = 0) := hj
  clear hj
  go_wp2_with fail
  rw [show (1 : Int) + k8 % 4 = 1 by have := HJ.out; omega]
  generalize min u8 q8 = U at hU ⊢
  generalize 1 + u8 % 60 = N at hN ⊢
  have hc0 : RowW (w1.alloc (.cells #[.int .u16 c16] 42)) (some ⟨w1.heap.size, 0, none⟩) 1 1 [c16] := roww_lit w1 42 [c16] 1 rfl (by omega) (fun y hy => by simp at hy; subst hy; exact hc16)
  have bA := below_alloc w1 (.cells #[.int .u16 c16] 42)
  have sA : (w1.alloc (.cells #[.int .u16 c16] 42)).heap.size = w1.heap.size + 1 := by simp
  have hl0 := lit_one (w1.alloc (.cells #[.int .u16 c16] 42)) ⟨a2, n2, c2, ys⟩
  rw [sA] at hl0
  have bB := below_alloc (w1.alloc (.cells #[.int .u16 c16] 42)) (.cells #[.slice a2 n2 c2] 29)
  have bC := ext_trans b1 (ext_trans bA bB)
  have hrC := hr.below bC
  have hsC := hs.below bC
  have hI : Ob.In ((w1.alloc (.cells #[.int .u16 c16] 42)).alloc (.cells #[.slice a2 n2 c2] 29)) ⟨65, 1, 0, none, 0, 0, none, 0, 0, none, 0, 0, none, 0, 0, q8, U, N, a, n, c, some ⟨w1.heap.size, 0, none⟩, 1, 1, some ⟨w1.heap.size + 1, 0, none⟩, 1, 1, [], [], [], [], xs, [c16], [⟨a2, n2, c2, ys⟩]⟩ :=
    ⟨(⟨by decide, by decide⟩ : Go.Proofs.Ytkmpmljohjelhaa.U 65), (by decide : (-9223372036854775808 : Int) ≤ 1 ∧ (1 : Int) < 9223372036854775808), (by decide : (0 : Int) ≤ 0 ∧ (0 : Int) < 256), RowG.nil _ _, RowW.nil _, RowW.nil _, RowW.nil _, hrC, hc0.below bB, ⟨hl0, fun p hp => by
      simp only [List.mem_singleton] at hp
      subst hp
      exact hsC⟩⟩
  generalize hX : (⟨65, 1, 0, none, 0, 0, none, 0, 0, none, 0, 0, none, 0, 0, q8, U, N, a, n, c, some ⟨w1.heap.size, 0, none⟩, 1, 1, some ⟨w1.heap.size + 1, 0, none⟩, 1, 1, [], [], [], [], xs, [c16], [⟨a2, n2, c2, ys⟩]⟩ : Ob) = X at hI
  have HX : Hid (X.od = ⟨65, 1, 0, [], [], [], [], q8, U, N, xs, [c16], [ys]⟩) := (by rw [← hX]; rfl : X.od = ⟨65, 1, 0, [], [], [], [], q8, U, N, xs, [c16], [ys]⟩)
  have hO := obj_at X ((w1.alloc (.cells #[.int .u16 c16] 42)).alloc (.cells #[.slice a2 n2 c2] 29))
  have sB : ((w1.alloc (.cells #[.int .u16 c16] 42)).alloc (.cells #[.slice a2 n2 c2] 29)).heap.size = w1.heap.size + 1 + 1 := by simp
  rw [sB] at hO
  have bX := obj_below X ((w1.alloc (.cells #[.int .u16 c16] 42)).alloc (.cells #[.slice a2 n2 c2] 29))
  replace hI := hI.below bX
  have bW := ext_trans bC bX
  have hsW := hs.below bW
  have hrW := hr.below bW
  have HW : Hid (((w1.alloc (.cells #[.int .u16 c16] 42)).alloc (.cells #[.slice a2 n2 c2] 29)).alloc (.cells #[.int .u64 65, .int .i64 1, .int .u8 0, .slice none 0 0, .slice none 0 0, .slice none 0 0, .slice none 0 0, .int .i64 q8, .int .i64 U, .int .i64 N, .slice a n c, .slice (some ⟨w1.heap.size, 0, none⟩) 1 1, .slice (some ⟨w1.heap.size + 1, 0, none⟩) 1 1] 32) = obj X ((w1.alloc (.cells #[.int .u16 c16] 42)).alloc (.cells #[.slice a2 n2 c2] 29))) := (by rw [← hX]; rfl : _ = _)
  generalize obj X ((w1.alloc (.cells #[.int .u16 c16] 42)).alloc (.cells #[.slice a2 n2 c2] 29)) = W at hO hI bW hsW hrW HW bX
  have hp := obPut2_any X W hI
  rw [HX.out] at hp
  have hxl := hr.len
  have hyl := hs.len
  have hm : mayD2 ⟨65, 1, 0, [], [], [], [], q8, U, N, xs, [c16], [ys]⟩ = true := by
    refine mayD2_iff.2 ⟨(by decide +kernel : isN 65 = true), (by decide : isK 1 = true), (by decide +kernel : mayQ [] [] [] = true), ?_⟩
    exact (mayW1 rfl).2 ⟨hU.1, hU.2, by show q8 ≤ 400; omega, by show 1 ≤ N; omega, by show N ≤ 64; omega⟩
  have hOk : Od.Ok ⟨65, 1, 0, [], [], [], [], q8, U, N, xs, [c16], [ys]⟩   := ⟨(by decide : (0 : Int) ≤ 65 ∧ (65 : Int) < 18446744073709551616), fun _ h => by simp at h, fun _ h => by simp at h, fun _ h => by simp at h, fun _ h => by simp at h, fun y hy => by simp at hy; subst hy; exact hc16⟩
  obtain ⟨hz1, hz2⟩ := tE2_0p _ hOk hm
  have hZ := own2_kinds 1 q8 U N xs [c16] [ys] _ hz2
  have hbl : (encD2 ⟨65, 1, 0, [], [], [], [], q8, U, N, xs, [c16], [ys]⟩).length ≤ 1000 := by
    rw [encD2_len]
    simp only [List.length_nil]
    rw [ownB1 rfl]; simp [putB_len]
  rw [← hX] at hp hO
  dsimp only at hp
  have hO' := hO
  have hb0 := hO.cells
  dsimp only at hb0
  clear hX hc0 bA sA hl0 bB bC hrC hsC sB hOk hz2 b1 bX hI hb0
  rw [HW.out]
  refine hp.mono ?_
  rintro e w2 ⟨ap, np, cp, E, rfl, b2, h⟩
  rcases h.symm with ⟨h, _⟩ | ⟨_, rfl, g, rfl, o⟩
  · rw [hm] at h; exact absurd h (by simp)
  clear h hm hp
  generalize encD2 ⟨65, 1, 0, [], [], [], [], q8, U, N, xs, [c16], [ys]⟩ = zs at *
  have ht := takeN_any _ _ _ _ w2 o.row (by have := o.row.len; omega)
  rw [hz1] at ht
  have hO2 := hO.below b2
  have hs2 := hsW.below b2
  have hr2 := hrW.below b2
  replace b2 := ext_trans bW b2
  clear hO hO' hsW hrW bW o hz1 hbl
  go_wp2_with fail
  refine ht.mono ?_
  rintro e w3 ⟨x, rfl, b3, hi, hod⟩
  have hod' := hod (by first | rfl | trivial)
  rw [← hod'] at hZ
  obtain ⟨z1, z2, z3, z4, z5, z6, z7, z8⟩ := hZ
  have hO3 := hO2.below b3
  have hs3 := hs2.below b3
  have hr3 := hr2.below b3
  have bw := ext_trans b2 b3
  clear b3 hO2 hs2 hr2 b2 hod hod' ht
  obtain ⟨xi, xk, xd, xa3, xn3, xm3, xa4, xn4, xm4, xa5, xn5, xm5, xa6, xn6, xm6, xq, xu, xn, xa10, xn10, xm10, xa11, xn11, xm11, xa12, xn12, xm12, xps, xva, xvb, xvc, xxs, xcs, xls⟩ := x
  have z1' : xi = 65 := z1
  have z2' : xk = 1 := z2
  have z3' : xq = q8 := z3
  have z4' : xu = U := z4
  have z5' : xn = N := z5
  have z6' : xxs = [] := z6
  have z7' : xcs = [] := z7
  have z8' : txt xls = [] := z8
  clear z1 z2 z3 z4 z5 z6 z7 z8
  obtain rfl := z1'.symm
  obtain rfl := z2'.symm
  obtain rfl := z3'.symm
  obtain rfl := z4'.symm
  obtain rfl := z5'.symm
  obtain rfl := z6'.symm
  obtain rfl := z7'.symm
  have r10 := hi.r10
  have r11 := hi.r11
  have r12 := hi.r12
  dsimp only at r10 r11 r12
  have l10 := r10.len
  have l11 := r11.len
  have l12 := r12.len
  have lt := txt_len xls
  rw [z8'] at lt
  rw [← lt] at l12
  simp only [List.length_nil] at l10
  simp only [List.length_nil] at l11
  simp only [List.length_nil] at l12
  subst l10 l11 l12
  clear lt
  have hlt := hO3.lt
  obtain ⟨y0, y1, y2, y3, y4, y5, y6, y7, y8, y9, y10, y11, y12⟩ := hO3.cells
  dsimp only at y0 y1 y2 y3 y4 y5 y6 y7 y8 y9 y10 y11 y12
  have eN1 : (N == 0) = false := by simp; omega
  have eN2 : ((0 : Int) == N) = false := by simp; omega
  by_cases hq0 : q8 = 0
  · obtain rfl : U = 0 := by omega
    subst hq0
    clear hi z8' hs3 hr3 hO3 r10 r11 r12
    go_wp2_with fail
    go_ret
    exact ⟨rfl, ext_trans bw (below_alloc _ _)⟩
  · have eq1 : (q8 == 0) = false := by simpa using hq0
    have eq2 : ((0 : Int) == q8) = false := by simp; omega
    clear hq0
    clear hi z8' hs3 hr3 hO3 r10 r11 r12
    go_wp2_with fail
    go_ret
    exact ⟨rfl, ext_trans bw (below_alloc _ _)⟩

set_option maxHeartbeats 8000000 in
theorem object2Kinds_2 (k8 q8 u8 : Int) (hk8 : 0 ≤ k8 ∧ k8 < 256) (hj : k8 % 4 = 1) (hq8 : 0 ≤ q8 ∧ q8 < 256) (hu8 : 0 ≤ u8 ∧ u8 < 256) (a : Option Addr) (n c : Nat) (xs : List Int) (c16 : Int) (hc16 : 0 ≤ c16 ∧ c16 < 65536) (a2 : Option Addr) (n2 c2 : Nat) (ys : List Int) (w : World)
    (hr : Row w a n c xs) (hs : Row w a2 n2 c2 ys) (hn : n ≤ 64) (hn2 : n2 ≤ 16) :
    Calls Try.prog 5 #[.int .u8 k8, .int .u8 q8, .int .u8 u8, .slice a n c, .int .u16 c16, .slice a2 n2 c2] w fun e w' => e = .returned (.bool true) ∧ Below w.heap.size w w' := by
  have hn' : ¬ (64 : Int) < (n : Int) := by omega
  have hn2' : ¬ (16 : Int) < (n2 : Int) := by omega
  go_enter Try.func5, Try.ntmps5
  go_wp2_with fail
  refine (begun18_true _).mono ?_
  rintro e w1 ⟨rfl, b1⟩
  have hU : 0 ≤ min u8 q8 ∧ min u8 q8 ≤ q8 := by omega
  have hN : 1 ≤ 1 + u8 % 60 ∧ 1 + u8 % 60 ≤ 60 := by omega
  have HJ : Hid (k8 % 4 = 1) := hj
  clear hj
  go_wp2_with fail
  rw [show (1 : Int) + k8 % 4 = 2 by have := HJ.out; omega]
  generalize min u8 q8 = U at hU ⊢
  generalize 1 + u8 % 60 = N at hN ⊢
  have hc0 : RowW (w1.alloc (.cells #[.int .u16 c16] 42)) (some ⟨w1.heap.size, 0, none⟩) 1 1 [c16] := roww_lit w1 42 [c16] 1 rfl (by omega) (fun y hy => by simp at hy; subst hy; exact hc16)
  have bA := below_alloc w1 (.cells #[.int .u16 c16] 42)
  have sA : (w1.alloc (.cells #[.int .u16 c16] 42)).heap.size = w1.heap.size + 1 := by simp
  have hl0 := lit_one (w1.alloc (.cells #[.int .u16 c16] 42)) ⟨a2, n2, c2, ys⟩
  rw [sA] at hl0
  have bB := below_alloc (w1.alloc (.cells #[.int .u16 c16] 42)) (.cells #[.slice a2 n2 c2] 29)
  have bC := ext_trans b1 (ext_trans bA bB)
  have hrC := hr.below bC
  have hsC := hs.below bC
  have hI : Ob.In ((w1.alloc (.cells #[.int .u16 c16] 42)).alloc (.cells #[.slice a2 n2 c2] 29)) ⟨65, 2, 0, none, 0, 0, none, 0, 0, none, 0, 0, none, 0, 0, q8, U, N, a, n, c, some ⟨w1.heap.size, 0, none⟩, 1, 1, some ⟨w1.heap.size + 1, 0, none⟩, 1, 1, [], [], [], [], xs, [c16], [⟨a2, n2, c2, ys⟩]⟩ :=
    ⟨(⟨by decide, by decide⟩ : Go.Proofs.Ytkmpmljohjelhaa.U 65), (by decide : (-9223372036854775808 : Int) ≤ 2 ∧ (2 : Int) < 9223372036854775808), (by decide : (0 : Int) ≤ 0 ∧ (0 : Int) < 256), RowG.nil _ _, RowW.nil _, RowW.nil _, RowW.nil _, hrC, hc0.below bB, ⟨hl0, fun p hp => by
      simp only [List.mem_singleton] at hp
      subst hp
      exact hsC⟩⟩
  generalize hX : (⟨65, 2, 0, none, 0, 0, none, 0, 0, none, 0, 0, none, 0, 0, q8, U, N, a, n, c, some ⟨w1.heap.size, 0, none⟩, 1, 1, some ⟨w1.heap.size + 1, 0, none⟩, 1, 1, [], [], [], [], xs, [c16], [⟨a2, n2, c2, ys⟩]⟩ : Ob) = X at hI
  have HX : Hid (X.od = ⟨65, 2, 0, [], [], [], [], q8, U, N, xs, [c16], [ys]⟩) := (by rw [← hX]; rfl : X.od = ⟨65, 2, 0, [], [], [], [], q8, U, N, xs, [c16], [ys]⟩)
  have hO := obj_at X ((w1.alloc (.cells #[.int .u16 c16] 42)).alloc (.cells #[.slice a2 n2 c2] 29))
  have sB : ((w1.alloc (.cells #[.int .u16 c16] 42)).alloc (.cells #[.slice a2 n2 c2] 29)).heap.size = w1.heap.size + 1 + 1 := by simp
  rw [sB] at hO
  have bX := obj_below X ((w1.alloc (.cells #[.int .u16 c16] 42)).alloc (.cells #[.slice a2 n2 c2] 29))
  replace hI := hI.below bX
  have bW := ext_trans bC bX
  have hsW := hs.below bW
  have hrW := hr.below bW
  have HW : Hid (((w1.alloc (.cells #[.int .u16 c16] 42)).alloc (.cells #[.slice a2 n2 c2] 29)).alloc (.cells #[.int .u64 65, .int .i64 2, .int .u8 0, .slice none 0 0, .slice none 0 0, .slice none 0 0, .slice none 0 0, .int .i64 q8, .int .i64 U, .int .i64 N, .slice a n c, .slice (some ⟨w1.heap.size, 0, none⟩) 1 1, .slice (some ⟨w1.heap.size + 1, 0, none⟩) 1 1] 32) = obj X ((w1.alloc (.cells #[.int .u16 c16] 42)).alloc (.cells #[.slice a2 n2 c2] 29))) := (by rw [← hX]; rfl : _ = _)
  generalize obj X ((w1.alloc (.cells #[.int .u16 c16] 42)).alloc (.cells #[.slice a2 n2 c2] 29)) = W at hO hI bW hsW hrW HW bX
  have hp := obPut2_any X W hI
  rw [HX.out] at hp
  have hxl := hr.len
  have hyl := hs.len
  have hm : mayD2 ⟨65, 2, 0, [], [], [], [], q8, U, N, xs, [c16], [ys]⟩ = true := by
    refine mayD2_iff.2 ⟨(by decide +kernel : isN 65 = true), (by decide : isK 2 = true), (by decide +kernel : mayQ [] [] [] = true), ?_⟩
    exact (mayW2 rfl).2 (by show xs.length ≤ 64; omega)
  have hOk : Od.Ok ⟨65, 2, 0, [], [], [], [], q8, U, N, xs, [c16], [ys]⟩   := ⟨(by decide : (0 : Int) ≤ 65 ∧ (65 : Int) < 18446744073709551616), fun _ h => by simp at h, fun _ h => by simp at h, fun _ h => by simp at h, fun _ h => by simp at h, fun y hy => by simp at hy; subst hy; exact hc16⟩
  obtain ⟨hz1, hz2⟩ := tE2_0p _ hOk hm
  have hZ := own2_kinds 2 q8 U N xs [c16] [ys] _ hz2
  have hbl : (encD2 ⟨65, 2, 0, [], [], [], [], q8, U, N, xs, [c16], [ys]⟩).length ≤ 1000 := by
    rw [encD2_len]
    simp only [List.length_nil]
    rw [ownB2 rfl, letB_len]; show 13 + 2 * (0 + 0 + 0) + (2 + xs.length) ≤ 1000; omega
  rw [← hX] at hp hO
  dsimp only at hp
  have hO' := hO
  have hb0 := hO.cells
  dsimp only at hb0
  clear hX hc0 bA sA hl0 bB bC hrC hsC sB hOk hz2 b1 bX hI hb0
  rw [HW.out]
  refine hp.mono ?_
  rintro e w2 ⟨ap, np, cp, E, rfl, b2, h⟩
  rcases h.symm with ⟨h, _⟩ | ⟨_, rfl, g, rfl, o⟩
  · rw [hm] at h; exact absurd h (by simp)
  clear h hm hp
  generalize encD2 ⟨65, 2, 0, [], [], [], [], q8, U, N, xs, [c16], [ys]⟩ = zs at *
  have ht := takeN_any _ _ _ _ w2 o.row (by have := o.row.len; omega)
  rw [hz1] at ht
  have hO2 := hO.below b2
  have hs2 := hsW.below b2
  have hr2 := hrW.below b2
  replace b2 := ext_trans bW b2
  clear hO hO' hsW hrW bW o hz1 hbl
  go_wp2_with fail
  refine ht.mono ?_
  rintro e w3 ⟨x, rfl, b3, hi, hod⟩
  have hod' := hod (by first | rfl | trivial)
  rw [← hod'] at hZ
  obtain ⟨z1, z2, z3, z4, z5, z6, z7, z8⟩ := hZ
  have hO3 := hO2.below b3
  have hs3 := hs2.below b3
  have hr3 := hr2.below b3
  have bw := ext_trans b2 b3
  clear b3 hO2 hs2 hr2 b2 hod hod' ht
  obtain ⟨xi, xk, xd, xa3, xn3, xm3, xa4, xn4, xm4, xa5, xn5, xm5, xa6, xn6, xm6, xq, xu, xn, xa10, xn10, xm10, xa11, xn11, xm11, xa12, xn12, xm12, xps, xva, xvb, xvc, xxs, xcs, xls⟩ := x
  have z1' : xi = 65 := z1
  have z2' : xk = 2 := z2
  have z3' : xq = 0 := z3
  have z4' : xu = 0 := z4
  have z5' : xn = 0 := z5
  have z6' : xxs = xs := z6
  have z7' : xcs = [] := z7
  have z8' : txt xls = [] := z8
  clear z1 z2 z3 z4 z5 z6 z7 z8
  obtain rfl := z1'.symm
  obtain rfl := z2'.symm
  obtain rfl := z3'.symm
  obtain rfl := z4'.symm
  obtain rfl := z5'.symm
  obtain rfl := z6'.symm
  obtain rfl := z7'.symm
  have r10 := hi.r10
  have r11 := hi.r11
  have r12 := hi.r12
  dsimp only at r10 r11 r12
  have l10 := r10.len
  have l11 := r11.len
  have l12 := r12.len
  have lt := txt_len xls
  rw [z8'] at lt
  rw [← lt] at l12
  clear l10
  simp only [List.length_nil] at l11
  simp only [List.length_nil] at l12
  subst l11 l12
  clear lt
  have hlt := hO3.lt
  obtain ⟨y0, y1, y2, y3, y4, y5, y6, y7, y8, y9, y10, y11, y12⟩ := hO3.cells
  dsimp only at y0 y1 y2 y3 y4 y5 y6 y7 y8 y9 y10 y11 y12
  have eN1 : (N == 0) = false := by simp; omega
  have eN2 : ((0 : Int) == N) = false := by simp; omega
  by_cases hq0 : q8 = 0
  · obtain rfl : U = 0 := by omega
    subst hq0
    have s1 := fun o => strR.out (w3.alloc o) _ _ _ _ (r10.below (below_alloc w3 o))
    have s2 := fun o => strR.out (w3.alloc o) _ _ _ _ (hr3.below (below_alloc w3 o))
    clear hi z8' hs3 hr3 hO3 r10 r11 r12
    go_wp2_with fail
    go_ret
    exact ⟨rfl, ext_trans bw (below_alloc _ _)⟩
  · have eq1 : (q8 == 0) = false := by simpa using hq0
    have eq2 : ((0 : Int) == q8) = false := by simp; omega
    clear hq0
    have s1 := fun o => strR.out (w3.alloc o) _ _ _ _ (r10.below (below_alloc w3 o))
    have s2 := fun o => strR.out (w3.alloc o) _ _ _ _ (hr3.below (below_alloc w3 o))
    clear hi z8' hs3 hr3 hO3 r10 r11 r12
    go_wp2_with fail
    go_ret
    exact ⟨rfl, ext_trans bw (below_alloc _ _)⟩

set_option maxHeartbeats 8000000 in
theorem object2Kinds_3 (k8 q8 u8 : Int) (hk8 : 0 ≤ k8 ∧ k8 < 256) (hj : k8 % 4 = 2) (hq8 : 0 ≤ q8 ∧ q8 < 256) (hu8 : 0 ≤ u8 ∧ u8 < 256) (a : Option Addr) (n c : Nat) (xs : List Int) (c16 : Int) (hc16 : 0 ≤ c16 ∧ c16 < 65536) (a2 : Option Addr) (n2 c2 : Nat) (ys : List Int) (w : World)
    (hr : Row w a n c xs) (hs : Row w a2 n2 c2 ys) (hn : n ≤ 64) (hn2 : n2 ≤ 16) :
    Calls Try.prog 5 #[.int .u8 k8, .int .u8 q8, .int .u8 u8, .slice a n c, .int .u16 c16, .slice a2 n2 c2] w fun e w' => e = .returned (.bool true) ∧ Below w.heap.size w w' := by
  have hn' : ¬ (64 : Int) < (n : Int) := by omega
  have hn2' : ¬ (16 : Int) < (n2 : Int) := by omega
  go_enter Try.func5, Try.ntmps5
  go_wp2_with fail
  refine (begun18_true _).mono ?_
  rintro e w1 ⟨rfl, b1⟩
  have hU : 0 ≤ min u8 q8 ∧ min u8 q8 ≤ q8 := by omega
  have hN : 1 ≤ 1 + u8 % 60 ∧ 1 + u8 % 60 ≤ 60 := by omega
  have HJ : Hid (k8 % 4 = 2) := hj
  clear hj
  go_wp2_with fail
  rw [show (1 : Int) + k8 % 4 = 3 by have := HJ.out; omega]
  generalize min u8 q8 = U at hU ⊢
  generalize 1 + u8 % 60 = N at hN ⊢
  have hc0 : RowW (w1.alloc (.cells #[.int .u16 c16] 42)) (some ⟨w1.heap.size, 0, none⟩) 1 1 [c16] := roww_lit w1 42 [c16] 1 rfl (by omega) (fun y hy => by simp at hy; subst hy; exact hc16)
  have bA := below_alloc w1 (.cells #[.int .u16 c16] 42)
  have sA : (w1.alloc (.cells #[.int .u16 c16] 42)).heap.size = w1.heap.size + 1 := by simp
  have hl0 := lit_one (w1.alloc (.cells #[.int .u16 c16] 42)) ⟨a2, n2, c2, ys⟩
  rw [sA] at hl0
  have bB := below_alloc (w1.alloc (.cells #[.int .u16 c16] 42)) (.cells #[.slice a2 n2 c2] 29)
  have bC := ext_trans b1 (ext_trans bA bB)
  have hrC := hr.below bC
  have hsC := hs.below bC
  have hI : Ob.In ((w1.alloc (.cells #[.int .u16 c16] 42)).alloc (.cells #[.slice a2 n2 c2] 29)) ⟨65, 3, 0, none, 0, 0, none, 0, 0, none, 0, 0, none, 0, 0, q8, U, N, a, n, c, some ⟨w1.heap.size, 0, none⟩, 1, 1, some ⟨w1.heap.size + 1, 0, none⟩, 1, 1, [], [], [], [], xs, [c16], [⟨a2, n2, c2, ys⟩]⟩ :=
    ⟨(⟨by decide, by decide⟩ : Go.Proofs.Ytkmpmljohjelhaa.U 65), (by decide : (-9223372036854775808 : Int) ≤ 3 ∧ (3 : Int) < 9223372036854775808), (by decide : (0 : Int) ≤ 0 ∧ (0 : Int) < 256), RowG.nil _ _, RowW.nil _, RowW.nil _, RowW.nil _, hrC, hc0.below bB, ⟨hl0, fun p hp => by
      simp only [List.mem_singleton] at hp
      subst hp
      exact hsC⟩⟩
  generalize hX : (⟨65, 3, 0, none, 0, 0, none, 0, 0, none, 0, 0, none, 0, 0, q8, U, N, a, n, c, some ⟨w1.heap.size, 0, none⟩, 1, 1, some ⟨w1.heap.size + 1, 0, none⟩, 1, 1, [], [], [], [], xs, [c16], [⟨a2, n2, c2, ys⟩]⟩ : Ob) = X at hI
  have HX : Hid (X.od = ⟨65, 3, 0, [], [], [], [], q8, U, N, xs, [c16], [ys]⟩) := (by rw [← hX]; rfl : X.od = ⟨65, 3, 0, [], [], [], [], q8, U, N, xs, [c16], [ys]⟩)
  have hO := obj_at X ((w1.alloc (.cells #[.int .u16 c16] 42)).alloc (.cells #[.slice a2 n2 c2] 29))
  have sB : ((w1.alloc (.cells #[.int .u16 c16] 42)).alloc (.cells #[.slice a2 n2 c2] 29)).heap.size = w1.heap.size + 1 + 1 := by simp
  rw [sB] at hO
  have bX := obj_below X ((w1.alloc (.cells #[.int .u16 c16] 42)).alloc (.cells #[.slice a2 n2 c2] 29))
  replace hI := hI.below bX
  have bW := ext_trans bC bX
  have hsW := hs.below bW
  have hrW := hr.below bW
  have HW : Hid (((w1.alloc (.cells #[.int .u16 c16] 42)).alloc (.cells #[.slice a2 n2 c2] 29)).alloc (.cells #[.int .u64 65, .int .i64 3, .int .u8 0, .slice none 0 0, .slice none 0 0, .slice none 0 0, .slice none 0 0, .int .i64 q8, .int .i64 U, .int .i64 N, .slice a n c, .slice (some ⟨w1.heap.size, 0, none⟩) 1 1, .slice (some ⟨w1.heap.size + 1, 0, none⟩) 1 1] 32) = obj X ((w1.alloc (.cells #[.int .u16 c16] 42)).alloc (.cells #[.slice a2 n2 c2] 29))) := (by rw [← hX]; rfl : _ = _)
  generalize obj X ((w1.alloc (.cells #[.int .u16 c16] 42)).alloc (.cells #[.slice a2 n2 c2] 29)) = W at hO hI bW hsW hrW HW bX
  have hp := obPut2_any X W hI
  rw [HX.out] at hp
  have hxl := hr.len
  have hyl := hs.len
  have hm : mayD2 ⟨65, 3, 0, [], [], [], [], q8, U, N, xs, [c16], [ys]⟩ = true := by
    refine mayD2_iff.2 ⟨(by decide +kernel : isN 65 = true), (by decide : isK 3 = true), (by decide +kernel : mayQ [] [] [] = true), ?_⟩
    exact (by simp [mayW3, mayS, asc] : mayW ⟨65, 3, 0, [], [], [], [], q8, U, N, xs, [c16], [ys]⟩ = true)
  have hOk : Od.Ok ⟨65, 3, 0, [], [], [], [], q8, U, N, xs, [c16], [ys]⟩   := ⟨(by decide : (0 : Int) ≤ 65 ∧ (65 : Int) < 18446744073709551616), fun _ h => by simp at h, fun _ h => by simp at h, fun _ h => by simp at h, fun _ h => by simp at h, fun y hy => by simp at hy; subst hy; exact hc16⟩
  obtain ⟨hz1, hz2⟩ := tE2_0p _ hOk hm
  have hZ := own2_kinds 3 q8 U N xs [c16] [ys] _ hz2
  have hbl : (encD2 ⟨65, 3, 0, [], [], [], [], q8, U, N, xs, [c16], [ys]⟩).length ≤ 1000 := by
    rw [encD2_len]
    simp only [List.length_nil]
    rw [ownB3 rfl]; simp [putB_len, encS_len]
  rw [← hX] at hp hO
  dsimp only at hp
  have hO' := hO
  have hb0 := hO.cells
  dsimp only at hb0
  clear hX hc0 bA sA hl0 bB bC hrC hsC sB hOk hz2 b1 bX hI hb0
  rw [HW.out]
  refine hp.mono ?_
  rintro e w2 ⟨ap, np, cp, E, rfl, b2, h⟩
  rcases h.symm with ⟨h, _⟩ | ⟨_, rfl, g, rfl, o⟩
  · rw [hm] at h; exact absurd h (by simp)
  clear h hm hp
  generalize encD2 ⟨65, 3, 0, [], [], [], [], q8, U, N, xs, [c16], [ys]⟩ = zs at *
  have ht := takeN_any _ _ _ _ w2 o.row (by have := o.row.len; omega)
  rw [hz1] at ht
  have hO2 := hO.below b2
  have hs2 := hsW.below b2
  have hr2 := hrW.below b2
  replace b2 := ext_trans bW b2
  clear hO hO' hsW hrW bW o hz1 hbl
  go_wp2_with fail
  refine ht.mono ?_
  rintro e w3 ⟨x, rfl, b3, hi, hod⟩
  have hod' := hod (by first | rfl | trivial)
  rw [← hod'] at hZ
  obtain ⟨z1, z2, z3, z4, z5, z6, z7, z8⟩ := hZ
  have hO3 := hO2.below b3
  have hs3 := hs2.below b3
  have hr3 := hr2.below b3
  have bw := ext_trans b2 b3
  clear b3 hO2 hs2 hr2 b2 hod hod' ht
  obtain ⟨xi, xk, xd, xa3, xn3, xm3, xa4, xn4, xm4, xa5, xn5, xm5, xa6, xn6, xm6, xq, xu, xn, xa10, xn10, xm10, xa11, xn11, xm11, xa12, xn12, xm12, xps, xva, xvb, xvc, xxs, xcs, xls⟩ := x
  have z1' : xi = 65 := z1
  have z2' : xk = 3 := z2
  have z3' : xq = 0 := z3
  have z4' : xu = 0 := z4
  have z5' : xn = 0 := z5
  have z6' : xxs = [] := z6
  have z7' : xcs = [c16] := z7
  have z8' : txt xls = [] := z8
  clear z1 z2 z3 z4 z5 z6 z7 z8
  obtain rfl := z1'.symm
  obtain rfl := z2'.symm
  obtain rfl := z3'.symm
  obtain rfl := z4'.symm
  obtain rfl := z5'.symm
  obtain rfl := z6'.symm
  obtain rfl := z7'.symm
  have r10 := hi.r10
  have r11 := hi.r11
  have r12 := hi.r12
  dsimp only at r10 r11 r12
  have l10 := r10.len
  have l11 := r11.len
  have l12 := r12.len
  have lt := txt_len xls
  rw [z8'] at lt
  rw [← lt] at l12
  simp only [List.length_nil] at l10
  simp only [List.length_singleton] at l11
  simp only [List.length_nil] at l12
  subst l10 l11 l12
  clear lt
  have hlt := hO3.lt
  obtain ⟨y0, y1, y2, y3, y4, y5, y6, y7, y8, y9, y10, y11, y12⟩ := hO3.cells
  dsimp only at y0 y1 y2 y3 y4 y5 y6 y7 y8 y9 y10 y11 y12
  have eN1 : (N == 0) = false := by simp; omega
  have eN2 : ((0 : Int) == N) = false := by simp; omega
  by_cases hq0 : q8 = 0
  · obtain rfl : U = 0 := by omega
    subst hq0
    obtain ⟨gb, off, rfl, hcc⟩ := r11.at (by omega)
    have e0 : w3.cell? ⟨gb, off, none⟩ = some (.int .u16 c16) := hcc 0 (by omega)
    have hgb : gb < w3.heap.size := lt_of_cell e0
    clear hi z8' hs3 hr3 hO3 r10 r11 r12 hcc
    go_wp2_with fail
    go_ret
    exact ⟨rfl, ext_trans bw (below_alloc _ _)⟩
  · have eq1 : (q8 == 0) = false := by simpa using hq0
    have eq2 : ((0 : Int) == q8) = false := by simp; omega
    clear hq0
    obtain ⟨gb, off, rfl, hcc⟩ := r11.at (by omega)
    have e0 : w3.cell? ⟨gb, off, none⟩ = some (.int .u16 c16) := hcc 0 (by omega)
    have hgb : gb < w3.heap.size := lt_of_cell e0
    clear hi z8' hs3 hr3 hO3 r10 r11 r12 hcc
    go_wp2_with fail
    go_ret
    exact ⟨rfl, ext_trans bw (below_alloc _ _)⟩

set_option maxHeartbeats 8000000 in
theorem object2Kinds_4 (k8 q8 u8 : Int) (hk8 : 0 ≤ k8 ∧ k8 < 256) (hj : k8 % 4 = 3) (hq8 : 0 ≤ q8 ∧ q8 < 256) (hu8 : 0 ≤ u8 ∧ u8 < 256) (a : Option Addr) (n c : Nat) (xs : List Int) (c16 : Int) (hc16 : 0 ≤ c16 ∧ c16 < 65536) (a2 : Option Addr) (n2 c2 : Nat) (ys : List Int) (w : World)
    (hr : Row w a n c xs) (hs : Row w a2 n2 c2 ys) (hn : n ≤ 64) (hn2 : n2 ≤ 16) :
    Calls Try.prog 5 #[.int .u8 k8, .int .u8 q8, .int .u8 u8, .slice a n c, .int .u16 c16, .slice a2 n2 c2] w fun e w' => e = .returned (.bool true) ∧ Below w.heap.size w w' := by
  have hn' : ¬ (64 : Int) < (n : Int) := by omega
  have hn2' : ¬ (16 : Int) < (n2 : Int) := by omega
  go_enter Try.func5, Try.ntmps5
  go_wp2_with fail
  refine (begun18_true _).mono ?_
  rintro e w1 ⟨rfl, b1⟩
  have hU : 0 ≤ min u8 q8 ∧ min u8 q8 ≤ q8 := by omega
  have hN : 1 ≤ 1 + u8 % 60 ∧ 1 + u8 % 60 ≤ 60 := by omega
  have HJ : Hid (k8 % 4 = 3) := hj
  clear hj
  go_wp2_with fail
  rw [show (1 : Int) + k8 % 4 = 4 by have := HJ.out; omega]
  generalize min u8 q8 = U at hU ⊢
  generalize 1 + u8 % 60 = N at hN ⊢
  have hc0 : RowW (w1.alloc (.cells #[.int .u16 c16] 42)) (some ⟨w1.heap.size, 0, none⟩) 1 1 [c16] := roww_lit w1 42 [c16] 1 rfl (by omega) (fun y hy => by simp at hy; subst hy; exact hc16)
  have bA := below_alloc w1 (.cells #[.int .u16 c16] 42)
  have sA : (w1.alloc (.cells #[.int .u16 c16] 42)).heap.size = w1.heap.size + 1 := by simp
  have hl0 := lit_one (w1.alloc (.cells #[.int .u16 c16] 42)) ⟨a2, n2, c2, ys⟩
  rw [sA] at hl0
  have bB := below_alloc (w1.alloc (.cells #[.int .u16 c16] 42)) (.cells #[.slice a2 n2 c2] 29)
  have bC := ext_trans b1 (ext_trans bA bB)
  have hrC := hr.below bC
  have hsC := hs.below bC
  have hI : Ob.In ((w1.alloc (.cells #[.int .u16 c16] 42)).alloc (.cells #[.slice a2 n2 c2] 29)) ⟨65, 4, 0, none, 0, 0, none, 0, 0, none, 0, 0, none, 0, 0, q8, U, N, a, n, c, some ⟨w1.heap.size, 0, none⟩, 1, 1, some ⟨w1.heap.size + 1, 0, none⟩, 1, 1, [], [], [], [], xs, [c16], [⟨a2, n2, c2, ys⟩]⟩ :=
    ⟨(⟨by decide, by decide⟩ : Go.Proofs.Ytkmpmljohjelhaa.U 65), (by decide : (-9223372036854775808 : Int) ≤ 4 ∧ (4 : Int) < 9223372036854775808), (by decide : (0 : Int) ≤ 0 ∧ (0 : Int) < 256), RowG.nil _ _, RowW.nil _, RowW.nil _, RowW.nil _, hrC, hc0.below bB, ⟨hl0, fun p hp => by
      simp only [List.mem_singleton] at hp
      subst hp
      exact hsC⟩⟩
  generalize hX : (⟨65, 4, 0, none, 0, 0, none, 0, 0, none, 0, 0, none, 0, 0, q8, U, N, a, n, c, some ⟨w1.heap.size, 0, none⟩, 1, 1, some ⟨w1.heap.size + 1, 0, none⟩, 1, 1, [], [], [], [], xs, [c16], [⟨a2, n2, c2, ys⟩]⟩ : Ob) = X at hI
  have HX : Hid (X.od = ⟨65, 4, 0, [], [], [], [], q8, U, N, xs, [c16], [ys]⟩) := (by rw [← hX]; rfl : X.od = ⟨65, 4, 0, [], [], [], [], q8, U, N, xs, [c16], [ys]⟩)
  have hO := obj_at X ((w1.alloc (.cells #[.int .u16 c16] 42)).alloc (.cells #[.slice a2 n2 c2] 29))
  have sB : ((w1.alloc (.cells #[.int .u16 c16] 42)).alloc (.cells #[.slice a2 n2 c2] 29)).heap.size = w1.heap.size + 1 + 1 := by simp
  rw [sB] at hO
  have bX := obj_below X ((w1.alloc (.cells #[.int .u16 c16] 42)).alloc (.cells #[.slice a2 n2 c2] 29))
  replace hI := hI.below bX
  have bW := ext_trans bC bX
  have hsW := hs.below bW
  have hrW := hr.below bW
  have HW : Hid (((w1.alloc (.cells #[.int .u16 c16] 42)).alloc (.cells #[.slice a2 n2 c2] 29)).alloc (.cells #[.int .u64 65, .int .i64 4, .int .u8 0, .slice none 0 0, .slice none 0 0, .slice none 0 0, .slice none 0 0, .int .i64 q8, .int .i64 U, .int .i64 N, .slice a n c, .slice (some ⟨w1.heap.size, 0, none⟩) 1 1, .slice (some ⟨w1.heap.size + 1, 0, none⟩) 1 1] 32) = obj X ((w1.alloc (.cells #[.int .u16 c16] 42)).alloc (.cells #[.slice a2 n2 c2] 29))) := (by rw [← hX]; rfl : _ = _)
  generalize obj X ((w1.alloc (.cells #[.int .u16 c16] 42)).alloc (.cells #[.slice a2 n2 c2] 29)) = W at hO hI bW hsW hrW HW bX
  have hp := obPut2_any X W hI
  rw [HX.out] at hp
  have hxl := hr.len
  have hyl := hs.len
  have hm : mayD2 ⟨65, 4, 0, [], [], [], [], q8, U, N, xs, [c16], [ys]⟩ = true := by
    refine mayD2_iff.2 ⟨(by decide +kernel : isN 65 = true), (by decide : isK 4 = true), (by decide +kernel : mayQ [] [] [] = true), ?_⟩
    exact (mayW4 rfl).trans ((mayT_iff _).2 ⟨by simp, fun l hl => by simp at hl; subst hl; omega⟩)
  have hOk : Od.Ok ⟨65, 4, 0, [], [], [], [], q8, U, N, xs, [c16], [ys]⟩   := ⟨(by decide : (0 : Int) ≤ 65 ∧ (65 : Int) < 18446744073709551616), fun _ h => by simp at h, fun _ h => by simp at h, fun _ h => by simp at h, fun _ h => by simp at h, fun y hy => by simp at hy; subst hy; exact hc16⟩
  obtain ⟨hz1, hz2⟩ := tE2_0p _ hOk hm
  have hZ := own2_kinds 4 q8 U N xs [c16] [ys] _ hz2
  have hbl : (encD2 ⟨65, 4, 0, [], [], [], [], q8, U, N, xs, [c16], [ys]⟩).length ≤ 1000 := by
    rw [encD2_len]
    simp only [List.length_nil]
    rw [ownB4 rfl, ringB_len]; have := letsB_le [ys] (fun l hl => by simp at hl; subst hl; omega); simp only [List.length_singleton] at this; show 13 + 2 * (0 + 0 + 0) + (1 + (letsB [ys]).length) ≤ 1000; omega
  rw [← hX] at hp hO
  dsimp only at hp
  have hO' := hO
  have hb0 := hO.cells
  dsimp only at hb0
  clear hX hc0 bA sA hl0 bB bC hrC hsC sB hOk hz2 b1 bX hI hb0
  rw [HW.out]
  refine hp.mono ?_
  rintro e w2 ⟨ap, np, cp, E, rfl, b2, h⟩
  rcases h.symm with ⟨h, _⟩ | ⟨_, rfl, g, rfl, o⟩
  · rw [hm] at h; exact absurd h (by simp)
  clear h hm hp
  generalize encD2 ⟨65, 4, 0, [], [], [], [], q8, U, N, xs, [c16], [ys]⟩ = zs at *
  have ht := takeN_any _ _ _ _ w2 o.row (by have := o.row.len; omega)
  rw [hz1] at ht
  have hO2 := hO.below b2
  have hs2 := hsW.below b2
  have hr2 := hrW.below b2
  replace b2 := ext_trans bW b2
  clear hO hO' hsW hrW bW o hz1 hbl
  go_wp2_with fail
  refine ht.mono ?_
  rintro e w3 ⟨x, rfl, b3, hi, hod⟩
  have hod' := hod (by first | rfl | trivial)
  rw [← hod'] at hZ
  obtain ⟨z1, z2, z3, z4, z5, z6, z7, z8⟩ := hZ
  have hO3 := hO2.below b3
  have hs3 := hs2.below b3
  have hr3 := hr2.below b3
  have bw := ext_trans b2 b3
  clear b3 hO2 hs2 hr2 b2 hod hod' ht
  obtain ⟨xi, xk, xd, xa3, xn3, xm3, xa4, xn4, xm4, xa5, xn5, xm5, xa6, xn6, xm6, xq, xu, xn, xa10, xn10, xm10, xa11, xn11, xm11, xa12, xn12, xm12, xps, xva, xvb, xvc, xxs, xcs, xls⟩ := x
  have z1' : xi = 65 := z1
  have z2' : xk = 4 := z2
  have z3' : xq = 0 := z3
  have z4' : xu = 0 := z4
  have z5' : xn = 0 := z5
  have z6' : xxs = [] := z6
  have z7' : xcs = [] := z7
  have z8' : txt xls = [ys] := z8
  clear z1 z2 z3 z4 z5 z6 z7 z8
  obtain rfl := z1'.symm
  obtain rfl := z2'.symm
  obtain rfl := z3'.symm
  obtain rfl := z4'.symm
  obtain rfl := z5'.symm
  obtain rfl := z6'.symm
  obtain rfl := z7'.symm
  have r10 := hi.r10
  have r11 := hi.r11
  have r12 := hi.r12
  dsimp only at r10 r11 r12
  have l10 := r10.len
  have l11 := r11.len
  have l12 := r12.len
  have lt := txt_len xls
  rw [z8'] at lt
  rw [← lt] at l12
  simp only [List.length_nil] at l10
  simp only [List.length_nil] at l11
  simp only [List.length_singleton] at l12
  subst l10 l11 l12
  clear lt
  have hlt := hO3.lt
  obtain ⟨y0, y1, y2, y3, y4, y5, y6, y7, y8, y9, y10, y11, y12⟩ := hO3.cells
  dsimp only at y0 y1 y2 y3 y4 y5 y6 y7 y8 y9 y10 y11 y12
  have eN1 : (N == 0) = false := by simp; omega
  have eN2 : ((0 : Int) == N) = false := by simp; omega
  by_cases hq0 : q8 = 0
  · obtain rfl : U = 0 := by omega
    subst hq0
    obtain ⟨gb, off, rfl, hr'⟩ := r12.at (by omega)
    obtain ⟨p, hp1⟩ := r12.get 0 (by omega)
    obtain ⟨e0', r1⟩ := hr'.cell hp1
    have e0 : w3.cell? ⟨gb, off, none⟩ = some (.slice p.a p.n p.c) := e0'
    clear e0'
    have hpx : p.xs = ys := by
      have h0 : (txt xls)[0]? = some p.xs := by simp [txt, hp1]
      rw [z8'] at h0
      simpa using h0.symm
    have e12 := strR_beq r1.byt hs3.byt
    rw [decide_eq_true hpx] at e12
    obtain ⟨V, hV⟩ : ∃ V, V = w3.alloc (.cells #[.int .u64 65, .int .i64 4, .int .u8 xd, .slice xa3 xn3 xm3, .slice xa4 xn4 xm4, .slice xa5 xn5 xm5, .slice xa6 xn6 xm6, .int .i64 0, .int .i64 0, .int .i64 0, .slice xa10 0 xm10, .slice xa11 0 xm11, .slice (some ⟨gb, off, none⟩) 1 xm12] 32) := ⟨_, rfl⟩
    have HV : Hid (V = w3.alloc (.cells #[.int .u64 65, .int .i64 4, .int .u8 xd, .slice xa3 xn3 xm3, .slice xa4 xn4 xm4, .slice xa5 xn5 xm5, .slice xa6 xn6 xm6, .int .i64 0, .int .i64 0, .int .i64 0, .slice xa10 0 xm10, .slice xa11 0 xm11, .slice (some ⟨gb, off, none⟩) 1 xm12] 32)) := hV
    have bV : Below w3.heap.size w3 V := hV ▸ below_alloc _ _
    have hnew : V.heap[w3.heap.size]? = _ := hV ▸ heap_alloc_new w3 _
    have f0 : V.cell? ⟨gb, off, none⟩ = some (.slice p.a p.n p.c) := by rw [bV.cell (lt_of_cell e0)]; exact e0
    have f10 : V.cell? ⟨w3.heap.size, 10, none⟩ = some (.slice xa10 0 xm10) := cellOb hnew rfl
    have f11 : V.cell? ⟨w3.heap.size, 11, none⟩ = some (.slice xa11 0 xm11) := cellOb hnew rfl
    have f12 : V.cell? ⟨w3.heap.size, 12, none⟩ = some (.slice (some ⟨gb, off, none⟩) 1 xm12) := cellOb hnew rfl
    have HC : Hid (∀ V', Below V.heap.size V V' → (V'.cell? ⟨gb, off, none⟩ = some (.slice p.a p.n p.c) ∧ V'.cell? ⟨w3.heap.size, 10, none⟩ = some (.slice xa10 0 xm10) ∧ V'.cell? ⟨w3.heap.size, 11, none⟩ = some (.slice xa11 0 xm11) ∧ V'.cell? ⟨w3.heap.size, 12, none⟩ = some (.slice (some ⟨gb, off, none⟩) 1 xm12)) ∧
        (convert 29 9 (.slice p.a p.n p.c)).run Try.prog V' = .ok (.string (strOfNums p.xs)) V' ∧ (convert 29 9 (.slice a2 n2 c2)).run Try.prog V' = .ok (.string (strOfNums ys)) V' ∧ Below w.heap.size w V') :=
      fun V' h => ⟨⟨by rw [h.cell (lt_of_cell f0)]; exact f0, by rw [h.cell (lt_of_cell f10)]; exact f10, by rw [h.cell (lt_of_cell f11)]; exact f11, by rw [h.cell (lt_of_cell f12)]; exact f12⟩,
        strR.out V' _ _ _ _ ((r1.below bV).below h), strR.out V' _ _ _ _ ((hs3.below bV).below h), ext_trans (ext_trans bw bV) h⟩
    clear hi z8' hs3 hr3 hO3 hr' hp1 hpx r1 r10 r11 r12 hV bV hnew f0 f10 f11 f12 e0
    go_wp2_with fail
    rw [← HV.out]
    clear y0 y1 y2 y3 y4 y5 y6 y7 y8 y9 y10 y11 y12 hlt
    refine wp_region_noPanic ?_
    refine wp_region_held_drew (S := fun V' => Below V.heap.size V V') (by kernel_rfl) (ext_drew _) fun hS => ?_
    refine take_to (i := 0) (v := ?_) 178 rfl rfl (by kernel_rfl) (by kernel_rfl) (by kernel_rfl) (fun _ _ _ h => h) (Or.inl ⟨by rfl, ?_⟩) hS ?_
    rotate_left
    · intro V' hV'
      obtain ⟨⟨f0, f10, f11, f12⟩, s1, s2, _⟩ := HC.out V' hV'
      go_simp
      try with_reducible rfl
    simp only [List.setIfInBounds_toArray, List.set_cons_zero, List.set_cons_succ]
    refine take_to (i := 1) (v := ?_) 179 rfl rfl (by kernel_rfl) (by kernel_rfl) (by kernel_rfl) (fun _ _ _ h => h) (Or.inl ⟨by rfl, ?_⟩) hS ?_
    rotate_left
    · intro V' hV'
      obtain ⟨⟨f0, f10, f11, f12⟩, s1, s2, _⟩ := HC.out V' hV'
      go_simp
      try with_reducible rfl
    simp only [List.setIfInBounds_toArray, List.set_cons_zero, List.set_cons_succ]
    refine take_to (i := 2) (v := ?_) 180 rfl rfl (by kernel_rfl) (by kernel_rfl) (by kernel_rfl) (fun _ _ _ h => h) (Or.inl ⟨by rfl, ?_⟩) hS ?_
    rotate_left
    · intro V' hV'
      obtain ⟨⟨f0, f10, f11, f12⟩, s1, s2, _⟩ := HC.out V' hV'
      go_simp
      try with_reducible rfl
    simp only [List.setIfInBounds_toArray, List.set_cons_zero, List.set_cons_succ]
    refine take_to (i := 3) (v := ?_) 181 rfl rfl (by kernel_rfl) (by kernel_rfl) (by kernel_rfl) (fun _ _ _ h => h) (Or.inl ⟨by rfl, ?_⟩) hS ?_
    rotate_left
    · intro V' hV'
      obtain ⟨⟨f0, f10, f11, f12⟩, s1, s2, _⟩ := HC.out V' hV'
      go_simp
      try with_reducible rfl
    simp only [List.setIfInBounds_toArray, List.set_cons_zero, List.set_cons_succ]
    refine take_to (i := 4) (v := ?_) 182 rfl rfl (by kernel_rfl) (by kernel_rfl) (by kernel_rfl) (fun _ _ _ h => h) (Or.inl ⟨by rfl, ?_⟩) hS ?_
    rotate_left
    · intro V' hV'
      obtain ⟨⟨f0, f10, f11, f12⟩, s1, s2, _⟩ := HC.out V' hV'
      go_simp
      try with_reducible rfl
    simp only [List.setIfInBounds_toArray, List.set_cons_zero, List.set_cons_succ]
    refine take_to (i := 5) (v := ?_) 183 rfl rfl (by kernel_rfl) (by kernel_rfl) (by kernel_rfl) (fun _ _ _ h => h) (Or.inl ⟨by rfl, ?_⟩) hS ?_
    rotate_left
    · intro V' hV'
      obtain ⟨⟨f0, f10, f11, f12⟩, s1, s2, _⟩ := HC.out V' hV'
      go_simp
      try with_reducible rfl
    simp only [List.setIfInBounds_toArray, List.set_cons_zero, List.set_cons_succ]
    refine take_to (i := 6) (v := ?_) 184 rfl rfl (by kernel_rfl) (by kernel_rfl) (by kernel_rfl) (fun _ _ _ h => h) (Or.inl ⟨by rfl, ?_⟩) hS ?_
    rotate_left
    · intro V' hV'
      obtain ⟨⟨f0, f10, f11, f12⟩, s1, s2, _⟩ := HC.out V' hV'
      go_simp
      try with_reducible rfl
    simp only [List.setIfInBounds_toArray, List.set_cons_zero, List.set_cons_succ]
    refine take_to (i := 7) (v := ?_) 185 rfl rfl (by kernel_rfl) (by kernel_rfl) (by kernel_rfl) (fun _ _ _ h => h) (Or.inl ⟨by rfl, ?_⟩) hS ?_
    rotate_left
    · intro V' hV'
      obtain ⟨⟨f0, f10, f11, f12⟩, s1, s2, _⟩ := HC.out V' hV'
      go_simp
      try with_reducible rfl
    simp only [List.setIfInBounds_toArray, List.set_cons_zero, List.set_cons_succ]
    refine take_to (i := 8) (v := ?_) 186 rfl rfl (by kernel_rfl) (by kernel_rfl) (by kernel_rfl) (fun _ _ _ h => h) (Or.inl ⟨by rfl, ?_⟩) hS ?_
    rotate_left
    · intro V' hV'
      obtain ⟨⟨f0, f10, f11, f12⟩, s1, s2, _⟩ := HC.out V' hV'
      go_simp
      try with_reducible rfl
    simp only [List.setIfInBounds_toArray, List.set_cons_zero, List.set_cons_succ]
    refine take_to (i := 9) (v := ?_) 187 rfl rfl (by kernel_rfl) (by kernel_rfl) (by kernel_rfl) (fun _ _ _ h => h) (Or.inl ⟨by rfl, ?_⟩) hS ?_
    rotate_left
    · intro V' hV'
      obtain ⟨⟨f0, f10, f11, f12⟩, s1, s2, _⟩ := HC.out V' hV'
      go_simp
      try with_reducible rfl
    simp only [List.setIfInBounds_toArray, List.set_cons_zero, List.set_cons_succ]
    refine take_to (i := 10) (v := ?_) 188 rfl rfl (by kernel_rfl) (by kernel_rfl) (by kernel_rfl) (fun _ _ _ h => h) (Or.inl ⟨by rfl, ?_⟩) hS ?_
    rotate_left
    · intro V' hV'
      obtain ⟨⟨f0, f10, f11, f12⟩, s1, s2, _⟩ := HC.out V' hV'
      go_simp
      try with_reducible rfl
    simp only [List.setIfInBounds_toArray, List.set_cons_zero, List.set_cons_succ]
    refine take_to (i := 11) (v := ?_) 189 rfl rfl (by kernel_rfl) (by kernel_rfl) (by kernel_rfl) (fun _ _ _ h => h) (Or.inl ⟨by rfl, ?_⟩) hS ?_
    rotate_left
    · intro V' hV'
      obtain ⟨⟨f0, f10, f11, f12⟩, s1, s2, _⟩ := HC.out V' hV'
      go_simp
      try with_reducible rfl
    simp only [List.setIfInBounds_toArray, List.set_cons_zero, List.set_cons_succ]
    refine take_to (i := 12) (v := ?_) 190 rfl rfl (by kernel_rfl) (by kernel_rfl) (by kernel_rfl) (fun _ _ _ h => h) (Or.inl ⟨by rfl, ?_⟩) hS ?_
    rotate_left
    · intro V' hV'
      obtain ⟨⟨f0, f10, f11, f12⟩, s1, s2, _⟩ := HC.out V' hV'
      go_simp
      try with_reducible rfl
    simp only [List.setIfInBounds_toArray, List.set_cons_zero, List.set_cons_succ]
    refine take_to (i := 13) (v := ?_) 191 rfl rfl (by kernel_rfl) (by kernel_rfl) (by kernel_rfl) (fun _ _ _ h => h) (Or.inl ⟨by rfl, ?_⟩) hS ?_
    rotate_left
    · intro V' hV'
      obtain ⟨⟨f0, f10, f11, f12⟩, s1, s2, _⟩ := HC.out V' hV'
      go_simp
      try with_reducible rfl
    simp only [List.setIfInBounds_toArray, List.set_cons_zero, List.set_cons_succ]
    refine take_to (i := 14) (v := ?_) 192 rfl rfl (by kernel_rfl) (by kernel_rfl) (by kernel_rfl) (fun _ _ _ h => h) (Or.inl ⟨by rfl, ?_⟩) hS ?_
    rotate_left
    · intro V' hV'
      obtain ⟨⟨f0, f10, f11, f12⟩, s1, s2, _⟩ := HC.out V' hV'
      go_simp
      try with_reducible rfl
    simp only [List.setIfInBounds_toArray, List.set_cons_zero, List.set_cons_succ]
    refine take_to (i := 15) (v := ?_) 193 rfl rfl (by kernel_rfl) (by kernel_rfl) (by kernel_rfl) (fun _ _ _ h => h) (Or.inl ⟨by rfl, ?_⟩) hS ?_
    rotate_left
    · intro V' hV'
      obtain ⟨⟨f0, f10, f11, f12⟩, s1, s2, _⟩ := HC.out V' hV'
      go_simp
      try with_reducible rfl
    simp only [List.setIfInBounds_toArray, List.set_cons_zero, List.set_cons_succ]
    refine take_to (i := 16) (v := ?_) 194 rfl rfl (by kernel_rfl) (by kernel_rfl) (by kernel_rfl) (fun _ _ _ h => h) (Or.inl ⟨by rfl, ?_⟩) hS ?_
    rotate_left
    · intro V' hV'
      obtain ⟨⟨f0, f10, f11, f12⟩, s1, s2, _⟩ := HC.out V' hV'
      go_simp
      try with_reducible rfl
    simp only [List.setIfInBounds_toArray, List.set_cons_zero, List.set_cons_succ]
    refine take_to (i := 17) (v := ?_) 195 rfl rfl (by kernel_rfl) (by kernel_rfl) (by kernel_rfl) (fun _ _ _ h => h) (Or.inl ⟨by rfl, ?_⟩) hS ?_
    rotate_left
    · intro V' hV'
      obtain ⟨⟨f0, f10, f11, f12⟩, s1, s2, _⟩ := HC.out V' hV'
      go_simp
      try with_reducible rfl
    simp only [List.setIfInBounds_toArray, List.set_cons_zero, List.set_cons_succ]
    refine take_to (i := 18) (v := ?_) 196 rfl rfl (by kernel_rfl) (by kernel_rfl) (by kernel_rfl) (fun _ _ _ h => h) (Or.inl ⟨by rfl, ?_⟩) hS ?_
    rotate_left
    · intro V' hV'
      obtain ⟨⟨f0, f10, f11, f12⟩, s1, s2, _⟩ := HC.out V' hV'
      go_simp
      try with_reducible rfl
    simp only [List.setIfInBounds_toArray, List.set_cons_zero, List.set_cons_succ]
    refine take_to (i := 19) (v := ?_) 197 rfl rfl (by kernel_rfl) (by kernel_rfl) (by kernel_rfl) (fun _ _ _ h => h) (Or.inl ⟨by rfl, ?_⟩) hS ?_
    rotate_left
    · intro V' hV'
      obtain ⟨⟨f0, f10, f11, f12⟩, s1, s2, _⟩ := HC.out V' hV'
      go_simp
      try with_reducible rfl
    simp only [List.setIfInBounds_toArray, List.set_cons_zero, List.set_cons_succ]
    refine take_to (i := 20) (v := ?_) 198 rfl rfl (by kernel_rfl) (by kernel_rfl) (by kernel_rfl) (fun _ _ _ h => h) (Or.inl ⟨by rfl, ?_⟩) hS ?_
    rotate_left
    · intro V' hV'
      obtain ⟨⟨f0, f10, f11, f12⟩, s1, s2, _⟩ := HC.out V' hV'
      go_simp
      try with_reducible rfl
    simp only [List.setIfInBounds_toArray, List.set_cons_zero, List.set_cons_succ]
    refine take_to (i := 21) (v := ?_) 199 rfl rfl (by kernel_rfl) (by kernel_rfl) (by kernel_rfl) (fun _ _ _ h => h) (Or.inl ⟨by rfl, ?_⟩) hS ?_
    rotate_left
    · intro V' hV'
      obtain ⟨⟨f0, f10, f11, f12⟩, s1, s2, _⟩ := HC.out V' hV'
      go_simp
      try with_reducible rfl
    simp only [List.setIfInBounds_toArray, List.set_cons_zero, List.set_cons_succ]
    refine take_to (i := 22) (v := ?_) 200 rfl rfl (by kernel_rfl) (by kernel_rfl) (by kernel_rfl) (fun _ _ _ h => h) (Or.inl ⟨by rfl, ?_⟩) hS ?_
    rotate_left
    · intro V' hV'
      obtain ⟨⟨f0, f10, f11, f12⟩, s1, s2, _⟩ := HC.out V' hV'
      go_simp
      try with_reducible rfl
    simp only [List.setIfInBounds_toArray, List.set_cons_zero, List.set_cons_succ]
    refine take_to (i := 23) (v := ?_) 201 rfl rfl (by kernel_rfl) (by kernel_rfl) (by kernel_rfl) (fun _ _ _ h => h) (Or.inl ⟨by rfl, ?_⟩) hS ?_
    rotate_left
    · intro V' hV'
      obtain ⟨⟨f0, f10, f11, f12⟩, s1, s2, _⟩ := HC.out V' hV'
      go_simp
      try with_reducible rfl
    simp only [List.setIfInBounds_toArray, List.set_cons_zero, List.set_cons_succ]
    refine take_to (i := 24) (v := ?_) 202 rfl rfl (by kernel_rfl) (by kernel_rfl) (by kernel_rfl) (fun _ _ _ h => h) (Or.inl ⟨by rfl, ?_⟩) hS ?_
    rotate_left
    · intro V' hV'
      obtain ⟨⟨f0, f10, f11, f12⟩, s1, s2, _⟩ := HC.out V' hV'
      go_simp
      try with_reducible rfl
    simp only [List.setIfInBounds_toArray, List.set_cons_zero, List.set_cons_succ]
    refine take_to (i := 25) (v := ?_) 203 rfl rfl (by kernel_rfl) (by kernel_rfl) (by kernel_rfl) (fun _ _ _ h => h) (Or.inl ⟨by rfl, ?_⟩) hS ?_
    rotate_left
    · intro V' hV'
      obtain ⟨⟨f0, f10, f11, f12⟩, s1, s2, _⟩ := HC.out V' hV'
      go_simp
      try with_reducible rfl
    simp only [List.setIfInBounds_toArray, List.set_cons_zero, List.set_cons_succ]
    refine take_to (i := 26) (v := ?_) 204 rfl rfl (by kernel_rfl) (by kernel_rfl) (by kernel_rfl) (fun _ _ _ h => h) (Or.inl ⟨by rfl, ?_⟩) hS ?_
    rotate_left
    · intro V' hV'
      obtain ⟨⟨f0, f10, f11, f12⟩, s1, s2, _⟩ := HC.out V' hV'
      go_simp
      try with_reducible rfl
    simp only [List.setIfInBounds_toArray, List.set_cons_zero, List.set_cons_succ]
    refine take_to (i := 27) (v := ?_) 12 rfl rfl (by kernel_rfl) (by kernel_rfl) (by kernel_rfl) (fun _ _ _ h => h) (Or.inl ⟨by rfl, ?_⟩) hS ?_
    rotate_left
    · intro V' hV'
      obtain ⟨⟨f0, f10, f11, f12⟩, s1, s2, _⟩ := HC.out V' hV'
      go_simp
      try with_reducible rfl
    simp only [List.setIfInBounds_toArray, List.set_cons_zero, List.set_cons_succ]
    refine wpAnyH_done (by kernel_rfl) ?_ _
    refine NoPanic.normal ?_
    obtain ⟨_, _, _, bwV⟩ := HC.out _ hS
    go_wp2_with fail
    go_ret
    exact ⟨rfl, bwV⟩
  · have eq1 : (q8 == 0) = false := by simpa using hq0
    have eq2 : ((0 : Int) == q8) = false := by simp; omega
    clear hq0
    obtain ⟨gb, off, rfl, hr'⟩ := r12.at (by omega)
    obtain ⟨p, hp1⟩ := r12.get 0 (by omega)
    obtain ⟨e0', r1⟩ := hr'.cell hp1
    have e0 : w3.cell? ⟨gb, off, none⟩ = some (.slice p.a p.n p.c) := e0'
    clear e0'
    have hpx : p.xs = ys := by
      have h0 : (txt xls)[0]? = some p.xs := by simp [txt, hp1]
      rw [z8'] at h0
      simpa using h0.symm
    have e12 := strR_beq r1.byt hs3.byt
    rw [decide_eq_true hpx] at e12
    obtain ⟨V, hV⟩ : ∃ V, V = w3.alloc (.cells #[.int .u64 65, .int .i64 4, .int .u8 xd, .slice xa3 xn3 xm3, .slice xa4 xn4 xm4, .slice xa5 xn5 xm5, .slice xa6 xn6 xm6, .int .i64 0, .int .i64 0, .int .i64 0, .slice xa10 0 xm10, .slice xa11 0 xm11, .slice (some ⟨gb, off, none⟩) 1 xm12] 32) := ⟨_, rfl⟩
    have HV : Hid (V = w3.alloc (.cells #[.int .u64 65, .int .i64 4, .int .u8 xd, .slice xa3 xn3 xm3, .slice xa4 xn4 xm4, .slice xa5 xn5 xm5, .slice xa6 xn6 xm6, .int .i64 0, .int .i64 0, .int .i64 0, .slice xa10 0 xm10, .slice xa11 0 xm11, .slice (some ⟨gb, off, none⟩) 1 xm12] 32)) := hV
    have bV : Below w3.heap.size w3 V := hV ▸ below_alloc _ _
    have hnew : V.heap[w3.heap.size]? = _ := hV ▸ heap_alloc_new w3 _
    have f0 : V.cell? ⟨gb, off, none⟩ = some (.slice p.a p.n p.c) := by rw [bV.cell (lt_of_cell e0)]; exact e0
    have f10 : V.cell? ⟨w3.heap.size, 10, none⟩ = some (.slice xa10 0 xm10) := cellOb hnew rfl
    have f11 : V.cell? ⟨w3.heap.size, 11, none⟩ = some (.slice xa11 0 xm11) := cellOb hnew rfl
    have f12 : V.cell? ⟨w3.heap.size, 12, none⟩ = some (.slice (some ⟨gb, off, none⟩) 1 xm12) := cellOb hnew rfl
    have HC : Hid (∀ V', Below V.heap.size V V' → (V'.cell? ⟨gb, off, none⟩ = some (.slice p.a p.n p.c) ∧ V'.cell? ⟨w3.heap.size, 10, none⟩ = some (.slice xa10 0 xm10) ∧ V'.cell? ⟨w3.heap.size, 11, none⟩ = some (.slice xa11 0 xm11) ∧ V'.cell? ⟨w3.heap.size, 12, none⟩ = some (.slice (some ⟨gb, off, none⟩) 1 xm12)) ∧
        (convert 29 9 (.slice p.a p.n p.c)).run Try.prog V' = .ok (.string (strOfNums p.xs)) V' ∧ (convert 29 9 (.slice a2 n2 c2)).run Try.prog V' = .ok (.string (strOfNums ys)) V' ∧ Below w.heap.size w V') :=
      fun V' h => ⟨⟨by rw [h.cell (lt_of_cell f0)]; exact f0, by rw [h.cell (lt_of_cell f10)]; exact f10, by rw [h.cell (lt_of_cell f11)]; exact f11, by rw [h.cell (lt_of_cell f12)]; exact f12⟩,
        strR.out V' _ _ _ _ ((r1.below bV).below h), strR.out V' _ _ _ _ ((hs3.below bV).below h), ext_trans (ext_trans bw bV) h⟩
    clear hi z8' hs3 hr3 hO3 hr' hp1 hpx r1 r10 r11 r12 hV bV hnew f0 f10 f11 f12 e0
    go_wp2_with fail
    rw [← HV.out]
    clear y0 y1 y2 y3 y4 y5 y6 y7 y8 y9 y10 y11 y12 hlt
    refine wp_region_noPanic ?_
    refine wp_region_held_drew (S := fun V' => Below V.heap.size V V') (by kernel_rfl) (ext_drew _) fun hS => ?_
    refine take_to (i := 0) (v := ?_) 178 rfl rfl (by kernel_rfl) (by kernel_rfl) (by kernel_rfl) (fun _ _ _ h => h) (Or.inl ⟨by rfl, ?_⟩) hS ?_
    rotate_left
    · intro V' hV'
      obtain ⟨⟨f0, f10, f11, f12⟩, s1, s2, _⟩ := HC.out V' hV'
      go_simp
      try with_reducible rfl
    simp only [List.setIfInBounds_toArray, List.set_cons_zero, List.set_cons_succ]
    refine take_to (i := 1) (v := ?_) 179 rfl rfl (by kernel_rfl) (by kernel_rfl) (by kernel_rfl) (fun _ _ _ h => h) (Or.inl ⟨by rfl, ?_⟩) hS ?_
    rotate_left
    · intro V' hV'
      obtain ⟨⟨f0, f10, f11, f12⟩, s1, s2, _⟩ := HC.out V' hV'
      go_simp
      try with_reducible rfl
    simp only [List.setIfInBounds_toArray, List.set_cons_zero, List.set_cons_succ]
    refine take_to (i := 2) (v := ?_) 180 rfl rfl (by kernel_rfl) (by kernel_rfl) (by kernel_rfl) (fun _ _ _ h => h) (Or.inl ⟨by rfl, ?_⟩) hS ?_
    rotate_left
    · intro V' hV'
      obtain ⟨⟨f0, f10, f11, f12⟩, s1, s2, _⟩ := HC.out V' hV'
      go_simp
      try with_reducible rfl
    simp only [List.setIfInBounds_toArray, List.set_cons_zero, List.set_cons_succ]
    refine take_to (i := 3) (v := ?_) 181 rfl rfl (by kernel_rfl) (by kernel_rfl) (by kernel_rfl) (fun _ _ _ h => h) (Or.inl ⟨by rfl, ?_⟩) hS ?_
    rotate_left
    · intro V' hV'
      obtain ⟨⟨f0, f10, f11, f12⟩, s1, s2, _⟩ := HC.out V' hV'
      go_simp
      try with_reducible rfl
    simp only [List.setIfInBounds_toArray, List.set_cons_zero, List.set_cons_succ]
    refine take_to (i := 4) (v := ?_) 182 rfl rfl (by kernel_rfl) (by kernel_rfl) (by kernel_rfl) (fun _ _ _ h => h) (Or.inl ⟨by rfl, ?_⟩) hS ?_
    rotate_left
    · intro V' hV'
      obtain ⟨⟨f0, f10, f11, f12⟩, s1, s2, _⟩ := HC.out V' hV'
      go_simp
      try with_reducible rfl
    simp only [List.setIfInBounds_toArray, List.set_cons_zero, List.set_cons_succ]
    refine take_to (i := 5) (v := ?_) 183 rfl rfl (by kernel_rfl) (by kernel_rfl) (by kernel_rfl) (fun _ _ _ h => h) (Or.inl ⟨by rfl, ?_⟩) hS ?_
    rotate_left
    · intro V' hV'
      obtain ⟨⟨f0, f10, f11, f12⟩, s1, s2, _⟩ := HC.out V' hV'
      go_simp
      try with_reducible rfl
    simp only [List.setIfInBounds_toArray, List.set_cons_zero, List.set_cons_succ]
    refine take_to (i := 6) (v := ?_) 184 rfl rfl (by kernel_rfl) (by kernel_rfl) (by kernel_rfl) (fun _ _ _ h => h) (Or.inl ⟨by rfl, ?_⟩) hS ?_
    rotate_left
    · intro V' hV'
      obtain ⟨⟨f0, f10, f11, f12⟩, s1, s2, _⟩ := HC.out V' hV'
      go_simp
      try with_reducible rfl
    simp only [List.setIfInBounds_toArray, List.set_cons_zero, List.set_cons_succ]
    refine take_to (i := 7) (v := ?_) 185 rfl rfl (by kernel_rfl) (by kernel_rfl) (by kernel_rfl) (fun _ _ _ h => h) (Or.inl ⟨by rfl, ?_⟩) hS ?_
    rotate_left
    · intro V' hV'
      obtain ⟨⟨f0, f10, f11, f12⟩, s1, s2, _⟩ := HC.out V' hV'
      go_simp
      try with_reducible rfl
    simp only [List.setIfInBounds_toArray, List.set_cons_zero, List.set_cons_succ]
    refine take_to (i := 8) (v := ?_) 186 rfl rfl (by kernel_rfl) (by kernel_rfl) (by kernel_rfl) (fun _ _ _ h => h) (Or.inl ⟨by rfl, ?_⟩) hS ?_
    rotate_left
    · intro V' hV'
      obtain ⟨⟨f0, f10, f11, f12⟩, s1, s2, _⟩ := HC.out V' hV'
      go_simp
      try with_reducible rfl
    simp only [List.setIfInBounds_toArray, List.set_cons_zero, List.set_cons_succ]
    refine take_to (i := 9) (v := ?_) 187 rfl rfl (by kernel_rfl) (by kernel_rfl) (by kernel_rfl) (fun _ _ _ h => h) (Or.inl ⟨by rfl, ?_⟩) hS ?_
    rotate_left
    · intro V' hV'
      obtain ⟨⟨f0, f10, f11, f12⟩, s1, s2, _⟩ := HC.out V' hV'
      go_simp
      try with_reducible rfl
    simp only [List.setIfInBounds_toArray, List.set_cons_zero, List.set_cons_succ]
    refine take_to (i := 10) (v := ?_) 188 rfl rfl (by kernel_rfl) (by kernel_rfl) (by kernel_rfl) (fun _ _ _ h => h) (Or.inl ⟨by rfl, ?_⟩) hS ?_
    rotate_left
    · intro V' hV'
      obtain ⟨⟨f0, f10, f11, f12⟩, s1, s2, _⟩ := HC.out V' hV'
      go_simp
      try with_reducible rfl
    simp only [List.setIfInBounds_toArray, List.set_cons_zero, List.set_cons_succ]
    refine take_to (i := 11) (v := ?_) 189 rfl rfl (by kernel_rfl) (by kernel_rfl) (by kernel_rfl) (fun _ _ _ h => h) (Or.inl ⟨by rfl, ?_⟩) hS ?_
    rotate_left
    · intro V' hV'
      obtain ⟨⟨f0, f10, f11, f12⟩, s1, s2, _⟩ := HC.out V' hV'
      go_simp
      try with_reducible rfl
    simp only [List.setIfInBounds_toArray, List.set_cons_zero, List.set_cons_succ]
    refine take_to (i := 12) (v := ?_) 190 rfl rfl (by kernel_rfl) (by kernel_rfl) (by kernel_rfl) (fun _ _ _ h => h) (Or.inl ⟨by rfl, ?_⟩) hS ?_
    rotate_left
    · intro V' hV'
      obtain ⟨⟨f0, f10, f11, f12⟩, s1, s2, _⟩ := HC.out V' hV'
      go_simp
      try with_reducible rfl
    simp only [List.setIfInBounds_toArray, List.set_cons_zero, List.set_cons_succ]
    refine take_to (i := 13) (v := ?_) 191 rfl rfl (by kernel_rfl) (by kernel_rfl) (by kernel_rfl) (fun _ _ _ h => h) (Or.inl ⟨by rfl, ?_⟩) hS ?_
    rotate_left
    · intro V' hV'
      obtain ⟨⟨f0, f10, f11, f12⟩, s1, s2, _⟩ := HC.out V' hV'
      go_simp
      try with_reducible rfl
    simp only [List.setIfInBounds_toArray, List.set_cons_zero, List.set_cons_succ]
    refine take_to (i := 14) (v := ?_) 192 rfl rfl (by kernel_rfl) (by kernel_rfl) (by kernel_rfl) (fun _ _ _ h => h) (Or.inl ⟨by rfl, ?_⟩) hS ?_
    rotate_left
    · intro V' hV'
      obtain ⟨⟨f0, f10, f11, f12⟩, s1, s2, _⟩ := HC.out V' hV'
      go_simp
      try with_reducible rfl
    simp only [List.setIfInBounds_toArray, List.set_cons_zero, List.set_cons_succ]
    refine take_to (i := 15) (v := ?_) 193 rfl rfl (by kernel_rfl) (by kernel_rfl) (by kernel_rfl) (fun _ _ _ h => h) (Or.inl ⟨by rfl, ?_⟩) hS ?_
    rotate_left
    · intro V' hV'
      obtain ⟨⟨f0, f10, f11, f12⟩, s1, s2, _⟩ := HC.out V' hV'
      go_simp
      try with_reducible rfl
    simp only [List.setIfInBounds_toArray, List.set_cons_zero, List.set_cons_succ]
    refine take_to (i := 16) (v := ?_) 194 rfl rfl (by kernel_rfl) (by kernel_rfl) (by kernel_rfl) (fun _ _ _ h => h) (Or.inl ⟨by rfl, ?_⟩) hS ?_
    rotate_left
    · intro V' hV'
      obtain ⟨⟨f0, f10, f11, f12⟩, s1, s2, _⟩ := HC.out V' hV'
      go_simp
      try with_reducible rfl
    simp only [List.setIfInBounds_toArray, List.set_cons_zero, List.set_cons_succ]
    refine take_to (i := 17) (v := ?_) 195 rfl rfl (by kernel_rfl) (by kernel_rfl) (by kernel_rfl) (fun _ _ _ h => h) (Or.inl ⟨by rfl, ?_⟩) hS ?_
    rotate_left
    · intro V' hV'
      obtain ⟨⟨f0, f10, f11, f12⟩, s1, s2, _⟩ := HC.out V' hV'
      go_simp
      try with_reducible rfl
    simp only [List.setIfInBounds_toArray, List.set_cons_zero, List.set_cons_succ]
    refine take_to (i := 18) (v := ?_) 196 rfl rfl (by kernel_rfl) (by kernel_rfl) (by kernel_rfl) (fun _ _ _ h => h) (Or.inl ⟨by rfl, ?_⟩) hS ?_
    rotate_left
    · intro V' hV'
      obtain ⟨⟨f0, f10, f11, f12⟩, s1, s2, _⟩ := HC.out V' hV'
      go_simp
      try with_reducible rfl
    simp only [List.setIfInBounds_toArray, List.set_cons_zero, List.set_cons_succ]
    refine take_to (i := 19) (v := ?_) 197 rfl rfl (by kernel_rfl) (by kernel_rfl) (by kernel_rfl) (fun _ _ _ h => h) (Or.inl ⟨by rfl, ?_⟩) hS ?_
    rotate_left
    · intro V' hV'
      obtain ⟨⟨f0, f10, f11, f12⟩, s1, s2, _⟩ := HC.out V' hV'
      go_simp
      try with_reducible rfl
    simp only [List.setIfInBounds_toArray, List.set_cons_zero, List.set_cons_succ]
    refine take_to (i := 20) (v := ?_) 198 rfl rfl (by kernel_rfl) (by kernel_rfl) (by kernel_rfl) (fun _ _ _ h => h) (Or.inl ⟨by rfl, ?_⟩) hS ?_
    rotate_left
    · intro V' hV'
      obtain ⟨⟨f0, f10, f11, f12⟩, s1, s2, _⟩ := HC.out V' hV'
      go_simp
      try with_reducible rfl
    simp only [List.setIfInBounds_toArray, List.set_cons_zero, List.set_cons_succ]
    refine take_to (i := 21) (v := ?_) 199 rfl rfl (by kernel_rfl) (by kernel_rfl) (by kernel_rfl) (fun _ _ _ h => h) (Or.inl ⟨by rfl, ?_⟩) hS ?_
    rotate_left
    · intro V' hV'
      obtain ⟨⟨f0, f10, f11, f12⟩, s1, s2, _⟩ := HC.out V' hV'
      go_simp
      try with_reducible rfl
    simp only [List.setIfInBounds_toArray, List.set_cons_zero, List.set_cons_succ]
    refine take_to (i := 22) (v := ?_) 200 rfl rfl (by kernel_rfl) (by kernel_rfl) (by kernel_rfl) (fun _ _ _ h => h) (Or.inl ⟨by rfl, ?_⟩) hS ?_
    rotate_left
    · intro V' hV'
      obtain ⟨⟨f0, f10, f11, f12⟩, s1, s2, _⟩ := HC.out V' hV'
      go_simp
      try with_reducible rfl
    simp only [List.setIfInBounds_toArray, List.set_cons_zero, List.set_cons_succ]
    refine take_to (i := 23) (v := ?_) 201 rfl rfl (by kernel_rfl) (by kernel_rfl) (by kernel_rfl) (fun _ _ _ h => h) (Or.inl ⟨by rfl, ?_⟩) hS ?_
    rotate_left
    · intro V' hV'
      obtain ⟨⟨f0, f10, f11, f12⟩, s1, s2, _⟩ := HC.out V' hV'
      go_simp
      try with_reducible rfl
    simp only [List.setIfInBounds_toArray, List.set_cons_zero, List.set_cons_succ]
    refine take_to (i := 24) (v := ?_) 202 rfl rfl (by kernel_rfl) (by kernel_rfl) (by kernel_rfl) (fun _ _ _ h => h) (Or.inl ⟨by rfl, ?_⟩) hS ?_
    rotate_left
    · intro V' hV'
      obtain ⟨⟨f0, f10, f11, f12⟩, s1, s2, _⟩ := HC.out V' hV'
      go_simp
      try with_reducible rfl
    simp only [List.setIfInBounds_toArray, List.set_cons_zero, List.set_cons_succ]
    refine take_to (i := 25) (v := ?_) 203 rfl rfl (by kernel_rfl) (by kernel_rfl) (by kernel_rfl) (fun _ _ _ h => h) (Or.inl ⟨by rfl, ?_⟩) hS ?_
    rotate_left
    · intro V' hV'
      obtain ⟨⟨f0, f10, f11, f12⟩, s1, s2, _⟩ := HC.out V' hV'
      go_simp
      try with_reducible rfl
    simp only [List.setIfInBounds_toArray, List.set_cons_zero, List.set_cons_succ]
    refine take_to (i := 26) (v := ?_) 204 rfl rfl (by kernel_rfl) (by kernel_rfl) (by kernel_rfl) (fun _ _ _ h => h) (Or.inl ⟨by rfl, ?_⟩) hS ?_
    rotate_left
    · intro V' hV'
      obtain ⟨⟨f0, f10, f11, f12⟩, s1, s2, _⟩ := HC.out V' hV'
      go_simp
      try with_reducible rfl
    simp only [List.setIfInBounds_toArray, List.set_cons_zero, List.set_cons_succ]
    refine take_to (i := 27) (v := ?_) 12 rfl rfl (by kernel_rfl) (by kernel_rfl) (by kernel_rfl) (fun _ _ _ h => h) (Or.inl ⟨by rfl, ?_⟩) hS ?_
    rotate_left
    · intro V' hV'
      obtain ⟨⟨f0, f10, f11, f12⟩, s1, s2, _⟩ := HC.out V' hV'
      go_simp
      try with_reducible rfl
    simp only [List.setIfInBounds_toArray, List.set_cons_zero, List.set_cons_succ]
    refine wpAnyH_done (by kernel_rfl) ?_ _
    refine NoPanic.normal ?_
    obtain ⟨_, _, _, bwV⟩ := HC.out _ hS
    go_wp2_with fail
    go_ret
    exact ⟨rfl, bwV⟩

theorem object2Kinds_walk (k8 q8 u8 : Int) (hk8 : 0 ≤ k8 ∧ k8 < 256) (hq8 : 0 ≤ q8 ∧ q8 < 256) (hu8 : 0 ≤ u8 ∧ u8 < 256) (a : Option Addr) (n c : Nat) (xs : List Int) (c16 : Int) (hc16 : 0 ≤ c16 ∧ c16 < 65536) (a2 : Option Addr) (n2 c2 : Nat) (ys : List Int) (w : World)
    (hr : Row w a n c xs) (hs : Row w a2 n2 c2 ys) :
    Calls Try.prog 5 #[.int .u8 k8, .int .u8 q8, .int .u8 u8, .slice a n c, .int .u16 c16, .slice a2 n2 c2] w fun e w' => e = .returned (.bool true) ∧ Below w.heap.size w w' := by
  by_cases hn : 64 < n
  · have hn' : (64 : Int) < (n : Int) := by omega
    go_enter Try.func5, Try.ntmps5
    go_wp2_with fail
    refine (begun18_true _).mono ?_
    rintro e w1 ⟨rfl, b1⟩
    go_wp2_with fail
    go_ret
    exact ⟨rfl, b1⟩
  by_cases hn2 : 16 < n2
  · have hn' : ¬ (64 : Int) < (n : Int) := by omega
    have hn2' : (16 : Int) < (n2 : Int) := by omega
    go_enter Try.func5, Try.ntmps5
    go_wp2_with fail
    refine (begun18_true _).mono ?_
    rintro e w1 ⟨rfl, b1⟩
    go_wp2_with fail
    go_ret
    exact ⟨rfl, b1⟩
  obtain h | h | h | h : k8 % 4 = 0 ∨ k8 % 4 = 1 ∨ k8 % 4 = 2 ∨ k8 % 4 = 3 := by omega
  · exact object2Kinds_1 k8 q8 u8 hk8 h hq8 hu8 a n c xs c16 hc16 a2 n2 c2 ys w hr hs (by omega) (by omega)
  · exact object2Kinds_2 k8 q8 u8 hk8 h hq8 hu8 a n c xs c16 hc16 a2 n2 c2 ys w hr hs (by omega) (by omega)
  · exact object2Kinds_3 k8 q8 u8 hk8 h hq8 hu8 a n c xs c16 hc16 a2 n2 c2 ys w hr hs (by omega) (by omega)
  · exact object2Kinds_4 k8 q8 u8 hk8 h hq8 hu8 a n c xs c16 hc16 a2 n2 c2 ys w hr hs (by omega) (by omega)
end Go.Proofs.Ytkmpmljohjelhaa
