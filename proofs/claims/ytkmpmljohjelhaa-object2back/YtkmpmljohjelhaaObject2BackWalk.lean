/- Object2Back walked: it answers true, and turns nothing that was there. -/
import Derived.Test.YtkmpmljohjelhaaN2Begun
import Derived.Test.YtkmpmljohjelhaaN2Ref
import Derived.Test.YtkmpmljohjelhaaJRing
namespace Go.Proofs.Ytkmpmljohjelhaa
open Go.RowKit
set_option maxRecDepth 100000
set_option linter.unusedVariables false

set_option maxHeartbeats 400000 in
theorem place18_any (k n : Int) (w : World) (hn : 1 ≤ n ∧ n ≤ 9223372036854775807) :
    Calls Try.prog 13 #[.int .i64 k, .int .i64 n] w fun e w' => ∃ m : Nat, e = .returned (.int .i64 m) ∧ (m : Int) < n ∧ Below w.heap.size w w' := by
  obtain ⟨hn0, hn1⟩ := hn
  have h1 : ¬ n < 1 := by omega
  obtain ⟨t0, t1⟩ := tmod_bd k n hn0
  by_cases hneg : k.tmod n < 0
  · obtain ⟨m, hm⟩ := Int.eq_ofNat_of_zero_le (show 0 ≤ k.tmod n + n by omega)
    go_enter Try.func13, Try.ntmps13
    go_wp2_with fail
    go_ret
    exact ⟨m, by rw [← hm]; rfl, by omega, Below.refl _ _⟩
  · obtain ⟨m, hm⟩ := Int.eq_ofNat_of_zero_le (show 0 ≤ k.tmod n by omega)
    go_enter Try.func13, Try.ntmps13
    go_wp2_with fail
    go_ret
    exact ⟨m, rfl, by omega, Below.refl _ _⟩

theorem ownB2_le (o : Od) (hk : isK o.k = true) (hw : mayW o = true) : (ownB o).length ≤ 100 := by
  have hk' := isK_iff.1 hk
  obtain h | h | h | h : o.k = 1 ∨ o.k = 2 ∨ o.k = 3 ∨ o.k = 4 := by omega
  · rw [ownB1 h]; simp [putB_len]
  · have := (mayW2 h).1 hw
    rw [ownB2 h, letB_len]; omega
  · rw [mayW3 h] at hw
    have := mayS_le16 hw
    rw [ownB3 h]; simp only [List.length_append, putB_len, encS_len]; omega
  · rw [mayW4 h] at hw
    have h1 := (mayT_iff _).1 hw
    have h2 := letsB_le o.ls h1.2
    rw [ownB4 h, ringB_len]; omega
theorem encD2_le (o : Od) (hm : mayD2 o = true) : (encD2 o).length ≤ 200 := by
  obtain ⟨_, hk, hp, hw⟩ := mayD2_iff.1 hm
  have h1 := ownB2_le o hk hw
  have h2 := mayB_len (mayQ_V hp)
  rw [encD2_len]; omega
theorem tE2_0put (o : Od) (ok : o.Ok) (hm : mayD2 o = true) : tE2 (encD2 o) = 0 ∧ tkO2 (encD2 o) = o.own2 := by
  have h1 := tE2_put o ok hm []
  have h2 := tkO2_put o ok hm []
  rw [List.append_nil] at h1 h2
  exact ⟨h1, h2⟩

set_option maxHeartbeats 16000000 in
theorem object2Back_walk (x : Ob) (cut mo : Int) (hmo : 0 ≤ mo ∧ mo < 256) (ab : Option Addr) (nb cb : Nat) (bs : List Int) (w : World) (hx : x.In w) (hbs : Row w ab nb cb bs) :
    Calls Try.prog 4 #[.agg #[.int .u64 x.i, .int .i64 x.k, .int .u8 x.d, .slice x.a3 x.n3 x.m3, .slice x.a4 x.n4 x.m4, .slice x.a5 x.n5 x.m5, .slice x.a6 x.n6 x.m6, .int .i64 x.q, .int .i64 x.u, .int .i64 x.n, .slice x.a10 x.n10 x.m10, .slice x.a11 x.n11 x.m11, .slice x.a12 x.n12 x.m12], .int .i64 cut, .int .u8 mo, .slice ab nb cb] w fun e w' => e = .returned (.bool true) ∧ Below w.heap.size w w' := by
  have hb := obj_below x w
  have hO := obj_at x w
  have HD : Hid (w.alloc (.cells #[.int .u64 x.i, .int .i64 x.k, .int .u8 x.d, .slice x.a3 x.n3 x.m3, .slice x.a4 x.n4 x.m4, .slice x.a5 x.n5 x.m5, .slice x.a6 x.n6 x.m6, .int .i64 x.q, .int .i64 x.u, .int .i64 x.n, .slice x.a10 x.n10 x.m10, .slice x.a11 x.n11 x.m11, .slice x.a12 x.n12 x.m12] 32) = obj x w) := obj_def x w
  have hx' := hx.below hb
  have hcapb := hbs.cap_le
  generalize obj x w = W at hb hx' hO HD
  have HC : Hid (∀ V, Below W.heap.size W V → (V.cell? ⟨w.heap.size, 0, none⟩ = some (.int .u64 x.i) ∧ V.cell? ⟨w.heap.size, 1, none⟩ = some (.int .i64 x.k) ∧ V.cell? ⟨w.heap.size, 2, none⟩ = some (.int .u8 x.d) ∧ V.cell? ⟨w.heap.size, 3, none⟩ = some (.slice x.a3 x.n3 x.m3) ∧ V.cell? ⟨w.heap.size, 4, none⟩ = some (.slice x.a4 x.n4 x.m4) ∧ V.cell? ⟨w.heap.size, 5, none⟩ = some (.slice x.a5 x.n5 x.m5) ∧ V.cell? ⟨w.heap.size, 6, none⟩ = some (.slice x.a6 x.n6 x.m6) ∧ V.cell? ⟨w.heap.size, 7, none⟩ = some (.int .i64 x.q) ∧ V.cell? ⟨w.heap.size, 8, none⟩ = some (.int .i64 x.u) ∧ V.cell? ⟨w.heap.size, 9, none⟩ = some (.int .i64 x.n) ∧ V.cell? ⟨w.heap.size, 10, none⟩ = some (.slice x.a10 x.n10 x.m10) ∧ V.cell? ⟨w.heap.size, 11, none⟩ = some (.slice x.a11 x.n11 x.m11) ∧ V.cell? ⟨w.heap.size, 12, none⟩ = some (.slice x.a12 x.n12 x.m12)) ∧ Below w.heap.size w V ∧ x.In V ∧ Row V ab nb cb bs) :=
    fun V h => ⟨(hO.below h).cells, ext_trans hb h, hx'.below h, (hbs.below hb).below h⟩
  clear hO hb
  have HOK : Hid x.od.Ok := hx.ok
  go_enter Try.func4, Try.ntmps4
  go_wp2_with fail
  rw [HD.out]
  refine (begun18_true _).mono ?_
  rintro e w1 ⟨rfl, b1⟩
  obtain ⟨⟨c0, c1, c2, c3, c4, c5, c6, c7, c8, c9, c10, c11, c12⟩, _, _⟩ := HC.out _ b1
  have hl := light18_any x w1
  go_wp2_with fail
  refine hl.mono ?_
  rintro e w2 ⟨b, rfl, b2, hlt⟩
  replace b2 := ext_trans b1 b2
  clear c0 c1 c2 c3 c4 c5 c6 c7 c8 c9 c10 c11 c12
  clear hl b1
  cases b
  · obtain ⟨_, bw, _⟩ := HC.out _ b2
    go_wp2_with fail
    go_ret
    exact ⟨rfl, bw⟩
  have h30 := (hlt rfl).1
  clear hlt
  by_cases h300 : 300 < nb
  · have h300' : (300 : Int) < (nb : Int) := by omega
    obtain ⟨_, bw, _⟩ := HC.out _ b2
    go_wp2_with fail
    go_ret
    exact ⟨rfl, bw⟩
  have h300' : ¬ (300 : Int) < (nb : Int) := by omega
  obtain ⟨⟨c0, c1, c2, c3, c4, c5, c6, c7, c8, c9, c10, c11, c12⟩, _, hi, _⟩ := HC.out _ b2
  have hp := obPut2_any x w2 hi
  go_wp2_with fail
  refine hp.mono ?_
  rintro e w3 ⟨a, n, c, E, rfl, b3, h⟩
  replace b3 := ext_trans b2 b3
  clear c0 c1 c2 c3 c4 c5 c6 c7 c8 c9 c10 c11 c12
  clear hi hp b2
  rcases h.symm with ⟨hm, rfl, rfl, rfl, rfl⟩ | ⟨hm, rfl, g, rfl, o⟩
  · obtain ⟨⟨c0, c1, c2, c3, c4, c5, c6, c7, c8, c9, c10, c11, c12⟩, _, hi, _⟩ := HC.out _ b3
    have hq := may2N_any x w3 hi
    rw [hm] at hq
    go_wp2_with fail
    refine hq.mono ?_
    rintro e w4 ⟨rfl, b4⟩
    obtain ⟨_, bw, _⟩ := HC.out _ (ext_trans b3 b4)
    go_wp2_with fail
    go_ret
    exact ⟨rfl, bw⟩
  clear h
  -- what was put
  have hZ := tE2_0put x.od HOK.out hm
  have hcut := fun k hk => tE2_cut x.od hm k hk HOK.out
  have hmore := tE2_put x.od HOK.out hm [mo]
  rw [if_neg (by simp)] at hmore
  have hbk := tE2_back (encD2 x.od) o.row.byt hZ.1
  have hle := encD2_le x.od hm
  have hln := encD2_len x.od
  have hnl : (encD2 x.od).length = n := o.row.len
  have HXI : Hid ((tkO2 (encD2 x.od)).i = x.i ∧ (tkO2 (encD2 x.od)).k = x.k) := by rw [hZ.2]; exact ⟨rfl, rfl⟩
  have hZ1 := hZ.1
  clear hZ hm
  generalize encD2 x.od = zs at *
  have HCUT : Hid (∀ k, k < zs.length → tE2 (zs.take k) = 3) := hcut
  have HMORE : Hid (tE2 (zs ++ [mo]) = 2) := hmore
  have HBK : Hid (encD2 (tkO2 zs) = zs ∧ mayD2 (tkO2 zs) = true) := hbk
  have hn1 : 1 ≤ n ∧ n ≤ 200 := by omega
  have hr3 := o.row
  have HNL : Hid (zs.length = n) := hnl
  clear hcut hmore hbk hle hln hnl o HOK
  -- taken
  have ht := takeN_any _ n c zs w3 hr3 (by omega)
  rw [hZ1] at ht
  go_wp2_with fail
  refine ht.mono ?_
  rintro e w4 ⟨x1, rfl, b4, hi1, hod1⟩
  have hod := hod1 (by first | rfl | trivial)
  have HOD : Hid (x1.od = tkO2 zs) := hod
  clear hod hod1 ht hZ1
  have hO1 := obj_at x1 w4
  have hb1 := obj_below x1 w4
  have HD1 : Hid (w4.alloc (.cells #[.int .u64 x1.i, .int .i64 x1.k, .int .u8 x1.d, .slice x1.a3 x1.n3 x1.m3, .slice x1.a4 x1.n4 x1.m4, .slice x1.a5 x1.n5 x1.m5, .slice x1.a6 x1.n6 x1.m6, .int .i64 x1.q, .int .i64 x1.u, .int .i64 x1.n, .slice x1.a10 x1.n10 x1.m10, .slice x1.a11 x1.n11 x1.m11, .slice x1.a12 x1.n12 x1.m12] 32) = obj x1 w4) := obj_def x1 w4
  replace hi1 := hi1.below hb1
  have hr4 := (hr3.below b4).below hb1
  have b4' := ext_trans b3 (ext_trans b4 hb1)
  generalize obj x1 w4 = W4 at hb1 hi1 hO1 HD1 hr4 b4'
  clear hr3 hb1
  -- put again
  have hp := obPut2_any x1 W4 hi1
  rw [HOD.out] at hp
  go_wp2_with fail
  rw [HD1.out]
  refine hp.mono ?_
  rintro e w5 ⟨a5, n5, c5, E5, rfl, b5, h5⟩
  rcases h5.symm with ⟨hm, _⟩ | ⟨_, rfl, g5, rfl, o5⟩
  · rw [HBK.out.2] at hm; exact absurd hm (by simp)
  rw [HBK.out.1] at o5
  have hr5 := o5.row
  have h5n : n5 = n := by rw [← hr5.len]; exact HNL.out
  subst h5n
  clear h5 o5 hp b4
  have hO5 := hO1.below b5
  replace hr4 := hr4.below b5
  have b5' := ext_trans b4' b5
  clear hO1 b4' hi1
  -- cut off
  have hpl := place18_any cut n5 w5 ⟨by omega, by omega⟩
  go_wp2_with fail
  refine hpl.mono ?_
  rintro e w6 ⟨M, rfl, hM, b6⟩
  have hM' : M < n5 := by omega
  have hMc : (M : Int) ≤ (c : Int) := by have := hr4.cap_le; omega
  have hO6 := hO5.below b6
  have hr6 := hr4.below b6
  have hy6 := hr5.below b6
  have b6' := ext_trans b5' b6
  have ht := takeN_any _ M c (zs.take M) w6 (hr6.pre M (by omega)) (by omega)
  rw [HCUT.out M (by rw [HNL.out]; exact hM')] at ht
  clear hO5 hr4 hr5 b5' hpl b5 b6
  go_wp2_with fail
  refine ht.mono ?_
  rintro e w7 ⟨x2, rfl, b7, -, -⟩
  have hb2 := obj_below x2 w7
  have b7' := ext_trans b7 hb2
  have hO7 := hO6.below b7'
  have hr7 := hr6.below b7'
  have hy7 := hy6.below b7'
  replace b7' := ext_trans b6' b7'
  have hs7 : (obj x2 w7).heap.size = w7.heap.size + 1 := by simp [obj]
  clear hO6 hr6 hy6 b6' ht hb2 b7
  -- more behind
  have o75 : Own 5 ((obj x2 w7).alloc (.cells #[] 5)) (w7.heap.size + 1) (w7.heap.size + 1) 0 0 [] := by
    have := own_lit (obj x2 w7) 5 [] 0 rfl (by omega) Byt.nil
    rw [hs7] at this
    exact this
  have bz := below_alloc (obj x2 w7) (.cells #[] 5)
  have r7z := hr7.below bz
  rw [hs7] at bz
  go_wp2_with (first
    | (at_builtin; refine wp_append_bytes _ rfl (.tmp 73) (.tmp 74) 29 rfl 5 Try.underlying29 info5 (w7.heap.size + 1) (w7.heap.size + 1) 0 0 [] rfl o75 _ n5 c zs rfl r7z (by omega) (by simp) (obj x2 w7) bz ?_; intro g8 c8 w8 o8 b8; rw [Nat.zero_add, List.nil_append] at o8)
    | (at_builtin; refine wp_append_bytes _ rfl (.tmp 75) (.tmp 77) 29 rfl 5 Try.underlying29 info5 (w7.heap.size + 1) g8 n5 c8 zs rfl (o8.below (below_alloc _ _)) (some ⟨w8.heap.size, 0, none⟩) 1 1 [mo] rfl (row_lit w8 5 [mo] 1 rfl (by omega) (Byt.one hmo)) (by omega) (by have := b8.size; rw [hs7] at this; simp; omega) (obj x2 w7) (b8.alloc (by have := b8.size; rw [hs7] at this; exact this) _) ?_; intro g9 c9 w9 o9 b9))
  rw [← hs7] at b9
  have hO9 := hO7.below b9
  have hr9 := hr7.below b9
  have hy9 := hy7.below b9
  have b9' := ext_trans b7' b9
  have ht := takeN_any _ _ _ _ w9 o9.row (by omega)
  rw [HMORE.out] at ht
  clear hO7 hr7 hy7 b7' o75 bz r7z o8 b8 b9 o9 hs7
  refine ht.mono ?_
  rintro e w10 ⟨x3, rfl, b10, -, -⟩
  have hb3 := obj_below x3 w10
  have HD3 : Hid (w10.alloc (.cells #[.int .u64 x3.i, .int .i64 x3.k, .int .u8 x3.d, .slice x3.a3 x3.n3 x3.m3, .slice x3.a4 x3.n4 x3.m4, .slice x3.a5 x3.n5 x3.m5, .slice x3.a6 x3.n6 x3.m6, .int .i64 x3.q, .int .i64 x3.u, .int .i64 x3.n, .slice x3.a10 x3.n10 x3.m10, .slice x3.a11 x3.n11 x3.m11, .slice x3.a12 x3.n12 x3.m12] 32) = obj x3 w10) := obj_def x3 w10
  have b10' := ext_trans b10 hb3
  have hOA := hO9.below b10'
  have hrA := hr9.below b10'
  have hyA := hy9.below b10'
  replace b10' := ext_trans b9' b10'
  generalize obj x3 w10 = W10 at hb3 HD3 hOA hrA hyA b10'
  clear hO9 hr9 hy9 b9' ht hb3 b10
  obtain ⟨_, _, _, hbsA⟩ := HC.out _ b10'
  have ht := takeN_any ab nb cb bs W10 hbsA (by omega)
  have hbb := tE2_back bs hbsA.byt
  have HBB : Hid (tE2 bs = 0 → encD2 (tkO2 bs) = bs ∧ mayD2 (tkO2 bs) = true) := hbb
  generalize tE2 bs = EB at ht HBB
  clear hbb hbsA
  go_wp2_with fail
  rw [HD3.out]
  refine ht.mono ?_
  rintro e w11 ⟨z, rfl, b11, hiz, hodz⟩
  have HODZ : Hid (EB = 0 → z.od = tkO2 bs) := hodz
  have hb4 := obj_below z w11
  have HD4 : Hid (w11.alloc (.cells #[.int .u64 z.i, .int .i64 z.k, .int .u8 z.d, .slice z.a3 z.n3 z.m3, .slice z.a4 z.n4 z.m4, .slice z.a5 z.n5 z.m5, .slice z.a6 z.n6 z.m6, .int .i64 z.q, .int .i64 z.u, .int .i64 z.n, .slice z.a10 z.n10 z.m10, .slice z.a11 z.n11 z.m11, .slice z.a12 z.n12 z.m12] 32) = obj z w11) := obj_def z w11
  have b11' := ext_trans b11 hb4
  have hOB := hOA.below b11'
  have hrB := hrA.below b11'
  have hyB := hyA.below b11'
  replace hiz := hiz.below hb4
  replace b11' := ext_trans b10' b11'
  have hOZ := obj_at z w11
  generalize obj z w11 = W11 at hb4 HD4 hOB hrB hyB b11' hiz hOZ
  clear hOA hrA hyA b10' ht hb4 b11 hodz
  have hp := obPut2_any z W11 hiz
  obtain ⟨c0, c1, c2, c3, c4, c5, c6, c7, c8, c9, c10, c11, c12⟩ := hOZ.cells
  go_wp2_with fail
  rw [HD4.out]
  refine hp.mono ?_
  rintro e w12 ⟨ak, nk, ck, EK, rfl, b12, hk⟩
  have hOC := hOB.below b12
  have hrC := hrB.below b12
  have hyC := hyB.below b12
  have b12' := ext_trans b11' b12
  clear c0 c1 c2 c3 c4 c5 c6 c7 c8 c9 c10 c11 c12
  clear hOB hrB hyB b11' b12 hp hOZ hiz
  obtain ⟨⟨c0, c1, c2, c3, c4, c5, c6, c7, c8, c9, c10, c11, c12⟩, bw, _, hbsC⟩ := HC.out _ b12'
  obtain ⟨d0, d1, d2, d3, d4, d5, d6, d7, d8, d9, d10, d11, d12⟩ := hOC.cells
  have hi1 : x1.i = x.i := (congrArg Od.i HOD.out).trans HXI.out.1
  have hk1 : x1.k = x.k := (congrArg Od.k HOD.out).trans HXI.out.2
  rw [hi1] at d0
  rw [hk1] at d1
  have s1 := strR.out w12 _ _ _ _ hyC
  have s2 := strR.out w12 _ _ _ _ hrC
  have s3 := strR.out w12 _ _ _ _ hbsC
  clear hOC hrC hyC b12' HC
  by_cases hE : EB = 0
  · have hz := HBB.out hE
    rw [← HODZ.out hE] at hz
    rcases hk with ⟨_, rfl, gk, rfl, ok⟩ | ⟨hm, _⟩
    · rw [hz.1] at ok
      have s4 := strR.out w12 _ _ _ _ ok.row
      subst hE
      clear ok hz hbsC hi1 hk1
      go_wp2_with fail
      go_ret
      exact ⟨rfl, bw⟩
    · rw [hz.2] at hm; exact absurd hm (by simp)
  · have hE' : (EB != 0) = true := by simpa using hE
    clear hk hbsC hi1 hk1 hE
    go_wp2_with fail
    go_ret
    exact ⟨rfl, bw⟩
end Go.Proofs.Ytkmpmljohjelhaa
