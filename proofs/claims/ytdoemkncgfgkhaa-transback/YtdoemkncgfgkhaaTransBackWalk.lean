/- TransBack walked: it answers true, and turns nothing that was there. -/
import Derived.Test.YtdoemkncgfgkhaaTr2
namespace Go.Proofs.Ytdoemkncgfgkhaa
open Go.RowKit
set_option maxRecDepth 100000

theorem name_snoc (d : Int) (l : List (Int × Int)) (X Y : Int) : nameB d (l ++ [(X, Y)]) = (nameB d l && !decide (Y = 3)) := by
  unfold nameB
  rw [stars_app]
  by_cases hY : Y = 3
  · simp [starsL, hY]
  · have e : starsL 3 [(X, Y)] = [] := by simp [starsL, hY]
    rw [e, List.append_nil, decide_eq_false hY]
    simp
theorem name_nil (d : Int) : nameB d [] = decide (d = 2) := by simp [nameB, starsL]
set_option maxHeartbeats 8000000 in
theorem transBack_walk (d : Int) (hd : 0 ≤ d ∧ d < 256) (a : Option Addr) (n cap : Nat) (xs : List (Int × Int)) (x : Sv) (w : World) (hr : RowG PE w a n cap xs) (hx : x.In w) :
    Calls Try.prog 4 #[.agg #[.int .u8 d, .slice a n cap], .agg #[.slice x.a1 x.n1 x.c1, .slice x.a2 x.n2 x.c2, .slice x.a3 x.n3 x.c3]] w fun e w' => e = .returned (.bool true) ∧ Below w.heap.size w w' := by
  have HC : Hid _ := lab_sv w d a n cap x
  go_enter Try.func4, Try.ntmps4
  go_wp2_with fail
  refine (begun11_true _).mono ?_
  rintro e w1 ⟨rfl, hb1⟩
  obtain ⟨⟨⟨k0, k1⟩, s0, s1, s2⟩, bw⟩ := HC.out _ hb1
  go_wp2_with fail
  obtain ⟨mq0, hq0⟩ : ∃ q, mayB d xs = q := ⟨_, rfl⟩
  have HQ0 : Hid (mayB d xs = mq0) := hq0
  clear hq0
  refine (mayL_is mq0 (hr.below bw) HQ0).mono ?_
  rintro e m0 ⟨rfl, hm0⟩
  replace hm0 := ext_trans hb1 hm0
  clear k0 k1 s0 s1 s2 bw
  obtain ⟨⟨⟨k0, k1⟩, s0, s1, s2⟩, bw⟩ := HC.out _ hm0
  cases mq0
  · go_wp2_with fail
    go_ret
    exact ⟨rfl, bw⟩
  have L0 := (may_lb hd.1 hr HQ0.out).1
  clear hb1
  go_wp2_with fail
  obtain ⟨sq, hsq⟩ : ∃ q, mayV x.xs x.ys x.zs = q := ⟨_, rfl⟩
  have HSQ : Hid (mayV x.xs x.ys x.zs = sq) := hsq
  clear hsq
  refine (refMay_is sq (hx.below bw) HSQ).mono ?_
  rintro e m1 ⟨rfl, hm1⟩
  replace hm1 := ext_trans hm0 hm1
  clear k0 k1 s0 s1 s2 bw
  obtain ⟨⟨⟨k0, k1⟩, s0, s1, s2⟩, bw⟩ := HC.out _ hm1
  cases sq
  · go_wp2_with fail
    go_ret
    exact ⟨rfl, bw⟩
  have HP : Hid (MayP x.xs x.ys x.zs) := (mayV_iff _ _ _).1 HSQ.out
  clear HSQ hm0
  go_wp2_with fail
  refine (split_any d a n cap xs _ (L0.below bw)).mono ?_
  rintro e v1 ⟨g, E, rfl, hg, HS1, hv1⟩
  replace hv1 := ext_trans hm1 hv1
  clear k0 k1 s0 s1 s2 bw
  have HC2 := more_sv g HC hg hv1
  obtain ⟨⟨⟨⟨k0, k1⟩, s0, s1, s2⟩, ⟨t0, t1, t2⟩, hr1⟩, bw⟩ := HC2.out _ (Below.refl _ _)
  go_wp2_with fail
  clear k0 k1 s0 s1 s2 t0 t1 t2 hr1 bw
  obtain ⟨V1, hV1⟩ : ∃ V, V = v1.alloc (Obj.cells #[.slice g.a1 g.n1 g.c1, .slice g.a2 g.n2 g.c2, .slice g.a3 g.n3 g.c3] 27) := ⟨_, rfl⟩
  rw [← hV1] at HC2 ⊢
  clear hV1 hv1 HC
  have hV1 := Below.refl V1.heap.size V1
  obtain ⟨⟨⟨⟨k0, k1⟩, s0, s1, s2⟩, ⟨t0, t1, t2⟩, hr1⟩, bw⟩ := HC2.out _ hV1
  refine (trBack_is x _ (hx.below bw) HP).mono ?_
  rintro e v2 ⟨so1, k1', co1, ps, rfl, hlb1, HB1, hv2⟩
  clear k0 k1 s0 s1 s2 t0 t1 t2 hr1 bw
  obtain ⟨⟨⟨⟨k0, k1⟩, s0, s1, s2⟩, ⟨t0, t1, t2⟩, hr1⟩, bw⟩ := HC2.out _ hv2
  go_wp2_with fail
  refine (split_any 2 so1 k1' co1 ps _ hlb1).mono ?_
  rintro e v3 ⟨y, E2, rfl, hy, HS2, hv3⟩
  replace hv3 := ext_trans hv2 hv3
  clear k0 k1 s0 s1 s2 t0 t1 t2 hr1 bw
  have HC3 := more_sv y HC2 hy hv3
  obtain ⟨⟨⟨⟨⟨k0, k1⟩, s0, s1, s2⟩, ⟨t0, t1, t2⟩, hr1⟩, ⟨u0, u1, u2⟩, hy2⟩, bw⟩ := HC3.out _ (Below.refl _ _)
  obtain ⟨rfl, hY1, hY2, hY3⟩ := HS2.out.back HB1.out HP.out
  have HSM : Hid (y.same x = true) := (Sv.same_iff _ _).2 ⟨hY1, hY2, hY3⟩
  clear hY1 hY2 hY3 HS2 HB1 hlb1
  obtain ⟨tb, htb⟩ : ∃ t, (d != 2) = t := ⟨_, rfl⟩
  have HTB : Hid ((d != 2) = tb) := htb
  go_wp2_with fail
  clear k0 k1 s0 s1 s2 t0 t1 t2 hr1 u0 u1 u2 hy2 bw
  obtain ⟨V2, hV2⟩ : ∃ V, V = v3.alloc (Obj.cells #[.slice y.a1 y.n1 y.c1, .slice y.a2 y.n2 y.c2, .slice y.a3 y.n3 y.c3] 27) := ⟨_, rfl⟩
  rw [← hV2] at HC3 ⊢
  clear hV2 hy hv2 hV1 HC2 hv3
  have hV2 := Below.refl V2.heap.size V2
  obtain ⟨⟨⟨⟨⟨k0, k1⟩, s0, s1, s2⟩, ⟨t0, t1, t2⟩, hr1⟩, ⟨u0, u1, u2⟩, hy2⟩, bw⟩ := HC3.out _ hV2
  have hrV := hr.below bw
  clear htb
  go_loopw [9, 10] (fun tv iv wr => ∃ (j : Nat), j ≤ n ∧ tv = .bool (!nameB d (xs.take j)) ∧ iv = .int .i64 j ∧ wr = V2) (fun _ iv _ => n - (intOf iv).toNat)
  case atStart =>
    refine ⟨0, by omega, ?_, rfl, rfl⟩
    rw [← HTB.out, List.take_zero, name_nil]
    rfl
  case round =>
    obtain ⟨j, hj, rfl, rfl, rfl⟩ := hrel
    have hjl := hrV.cap_le
    by_cases hlt : j < n
    · have hp : (j : Int) < (n : Int) := by omega
      obtain ⟨b, off, rfl, _⟩ := hrV.at (by omega)
      obtain ⟨X, Y, hX, HXb⟩ := hrV.get2 j hlt
      obtain ⟨y1, y2⟩ := hrV.pair hX
      have HX : Hid (xs[j]? = some (X, Y)) := hX
      clear hX
      obtain ⟨tj, htj⟩ : ∃ t, nameB d (xs.take j) = t := ⟨_, rfl⟩
      have HTJ : Hid (nameB d (xs.take j) = tj) := htj
      rw [htj]
      clear htj
      cases tj
      · go_wp2_with fail
        go_roundw
        case rel =>
          refine ⟨j + 1, by omega, ?_, by go_num, by first | rfl | trivial⟩
          rw [take_snoc HX.out, name_snoc, HTJ.out]
          rfl
        case measure => simp [intOf]; omega
      · by_cases hY : Y = 3
        · subst hY
          go_wp2_with fail
          go_roundw
          case rel =>
            refine ⟨j + 1, by omega, ?_, by go_num, by first | rfl | trivial⟩
            rw [take_snoc HX.out, name_snoc, HTJ.out]
            rfl
          case measure => simp [intOf]; omega
        · have hY' : (Y == 3) = false := by simpa using hY
          go_wp2_with fail
          go_roundw
          case rel =>
            refine ⟨j + 1, by omega, ?_, by go_num, by first | rfl | trivial⟩
            rw [take_snoc HX.out, name_snoc, HTJ.out, decide_eq_false hY]
            rfl
          case measure => simp [intOf]; omega
    · obtain rfl : n = j := by omega
      rw [List.take_of_length_le (by rw [hr.len]; exact Nat.le_refl _)]
      obtain ⟨nm, hnm⟩ : ∃ t, nameB d xs = t := ⟨_, rfl⟩
      have HNM : Hid (nameB d xs = nm) := hnm
      rw [hnm]
      clear hnm
      cases nm
      · obtain ⟨rfl, hgn⟩ := HS1.out.no HNM.out
        have z1 : g.n1 = 0 := by rw [hgn]; rfl
        have z2 : g.n2 = 0 := by rw [hgn]; rfl
        have z3 : g.n3 = 0 := by rw [hgn]; rfl
        clear hgn
        go_wp2_with fail
        refine (refSame_is true hy2 (hx.below bw) HSM).mono ?_
        rintro e x1 ⟨rfl, hx1⟩
        go_wp2_with fail
        go_ret
        exact ⟨rfl, (HC3.out _ hx1).2⟩
      · obtain ⟨rfl, _⟩ := HS1.out.ok HNM.out
        obtain ⟨hmr, hbk⟩ := HS1.out.bk HNM.out HQ0.out L0.lv
        have HMR : Hid (MayP g.xs g.ys g.zs) := hmr
        have HMV : Hid (mayV g.xs g.ys g.zs = true) := (mayV_iff _ _ _).2 hmr
        have HBK : Hid (Bk g.xs g.ys g.zs xs) := hbk
        have HX2 : Hid (d = 2) := (name_two HNM.out).1
        clear hmr hbk hrV HTB
        obtain rfl := HX2.out
        go_wp2_with fail
        clear k0 k1 s0 s1 s2 t0 t1 t2 hr1 u0 u1 u2 hy2 bw
        have hB0 : Below wr.heap.size wr wr.drew := ext_drew _
        refine wp_region_noPanic ?_
        refine wp_region_held_drew (S := fun W => Below wr.heap.size wr W) (by kernel_rfl) hB0 fun hS => ?_
        refine take_to (i := 0) (v := ?_) 78 rfl rfl (by kernel_rfl) (by kernel_rfl) (by kernel_rfl) (fun _ _ _ h => h) (Or.inl ⟨by rfl, ?_⟩) hS ?_
        rotate_left
        · intro W hW
          obtain ⟨⟨⟨⟨⟨k0, k1⟩, s0, s1, s2⟩, ⟨t0, t1, t2⟩, hr1⟩, ⟨u0, u1, u2⟩, hy2⟩, _⟩ := HC3.out W hW
          go_simp
          try with_reducible rfl
        simp only [List.setIfInBounds_toArray, List.set_cons_zero, List.set_cons_succ]
        refine take_to (i := 1) (v := ?_) 79 rfl rfl (by kernel_rfl) (by kernel_rfl) (by kernel_rfl) (fun _ _ _ h => h) (Or.inl ⟨by rfl, ?_⟩) hS ?_
        rotate_left
        · intro W hW
          obtain ⟨⟨⟨⟨⟨k0, k1⟩, s0, s1, s2⟩, ⟨t0, t1, t2⟩, hr1⟩, ⟨u0, u1, u2⟩, hy2⟩, _⟩ := HC3.out W hW
          go_simp
          try with_reducible rfl
        simp only [List.setIfInBounds_toArray, List.set_cons_zero, List.set_cons_succ]
        refine take_to (i := 2) (v := ?_) 80 rfl rfl (by kernel_rfl) (by kernel_rfl) (by kernel_rfl) (fun _ _ _ h => h) (Or.inl ⟨by rfl, ?_⟩) hS ?_
        rotate_left
        · intro W hW
          obtain ⟨⟨⟨⟨⟨k0, k1⟩, s0, s1, s2⟩, ⟨t0, t1, t2⟩, hr1⟩, ⟨u0, u1, u2⟩, hy2⟩, _⟩ := HC3.out W hW
          go_simp
          try with_reducible rfl
        simp only [List.setIfInBounds_toArray, List.set_cons_zero, List.set_cons_succ]
        refine take_to (i := 3) (v := ?_) 81 rfl rfl (by kernel_rfl) (by kernel_rfl) (by kernel_rfl) (fun _ _ _ h => h) (Or.inl ⟨by rfl, ?_⟩) hS ?_
        rotate_left
        · intro W hW
          obtain ⟨⟨⟨⟨⟨k0, k1⟩, s0, s1, s2⟩, ⟨t0, t1, t2⟩, hr1⟩, ⟨u0, u1, u2⟩, hy2⟩, _⟩ := HC3.out W hW
          go_simp
          try with_reducible rfl
        simp only [List.setIfInBounds_toArray, List.set_cons_zero, List.set_cons_succ]
        refine take_to (i := 5) (v := ?_) 83 rfl rfl (by kernel_rfl) (by kernel_rfl) (by kernel_rfl) (fun _ _ _ h => h) (Or.inl ⟨by rfl, ?_⟩) hS ?_
        rotate_left
        · intro W hW
          obtain ⟨⟨⟨⟨⟨k0, k1⟩, s0, s1, s2⟩, ⟨t0, t1, t2⟩, hr1⟩, ⟨u0, u1, u2⟩, hy2⟩, _⟩ := HC3.out W hW
          go_simp
          try with_reducible rfl
        simp only [List.setIfInBounds_toArray, List.set_cons_zero, List.set_cons_succ]
        refine wpAnyH_ready (rs := [4]) (by kernel_rfl) (by simp) ?_
        refine AllReadyH.cons rfl (fun K hK => ?_) AllReadyH.nil
        go_simp
        obtain ⟨⟨⟨_, _, ha⟩, _, hb⟩, bw⟩ := HC3.out _ hB0
        refine (trBack_is g _ ha HMR).mono ?_
        rintro e x1 ⟨so, k, co, qs, rfl, hlb, HB, hx1⟩
        replace hx1 := ext_trans hB0 hx1
        clear ha hb bw
        refine hK.out _ _ hx1 fun hS => ?_
        clear hK K
        refine wpAnyH_ready (rs := [6]) (by kernel_rfl) (by simp) ?_
        refine AllReadyH.cons rfl (fun K hK => ?_) AllReadyH.nil
        go_simp
        obtain ⟨_, bw⟩ := HC3.out _ hx1
        refine (refSame_true hlb.row (hr.below bw) (HB.out.uniq HBK.out)).mono ?_
        rintro e x2 ⟨rfl, hx2⟩
        replace hx2 := ext_trans hx1 hx2
        clear bw hlb
        refine hK.out _ _ hx2 fun hS => ?_
        clear hK K
        refine take_to (i := 7) (v := ?_) 85 rfl rfl (by kernel_rfl) (by kernel_rfl) (by kernel_rfl) (fun _ _ _ h => h) (Or.inl ⟨by rfl, ?_⟩) hS ?_
        rotate_left
        · intro W hW
          obtain ⟨⟨⟨⟨⟨k0, k1⟩, s0, s1, s2⟩, ⟨t0, t1, t2⟩, hr1⟩, ⟨u0, u1, u2⟩, hy2⟩, _⟩ := HC3.out W hW
          go_simp
          try with_reducible rfl
        simp only [List.setIfInBounds_toArray, List.set_cons_zero, List.set_cons_succ]
        refine take_to (i := 8) (v := ?_) 86 rfl rfl (by kernel_rfl) (by kernel_rfl) (by kernel_rfl) (fun _ _ _ h => h) (Or.inl ⟨by rfl, ?_⟩) hS ?_
        rotate_left
        · intro W hW
          obtain ⟨⟨⟨⟨⟨k0, k1⟩, s0, s1, s2⟩, ⟨t0, t1, t2⟩, hr1⟩, ⟨u0, u1, u2⟩, hy2⟩, _⟩ := HC3.out W hW
          go_simp
          try with_reducible rfl
        simp only [List.setIfInBounds_toArray, List.set_cons_zero, List.set_cons_succ]
        refine take_to (i := 9) (v := ?_) 87 rfl rfl (by kernel_rfl) (by kernel_rfl) (by kernel_rfl) (fun _ _ _ h => h) (Or.inl ⟨by rfl, ?_⟩) hS ?_
        rotate_left
        · intro W hW
          obtain ⟨⟨⟨⟨⟨k0, k1⟩, s0, s1, s2⟩, ⟨t0, t1, t2⟩, hr1⟩, ⟨u0, u1, u2⟩, hy2⟩, _⟩ := HC3.out W hW
          go_simp
          try with_reducible rfl
        simp only [List.setIfInBounds_toArray, List.set_cons_zero, List.set_cons_succ]
        refine wpAnyH_ready (rs := [10]) (by kernel_rfl) (by simp) ?_
        refine AllReadyH.cons rfl (fun K hK => ?_) AllReadyH.nil
        go_simp
        obtain ⟨⟨⟨_, _, ha⟩, _, hb⟩, bw⟩ := HC3.out _ hx2
        refine (refMay_is true ha HMV).mono ?_
        rintro e x3 ⟨rfl, hx3⟩
        replace hx3 := ext_trans hx2 hx3
        clear ha hb bw
        refine hK.out _ _ hx3 fun hS => ?_
        clear hK K
        refine take_to (i := 11) (v := ?_) 89 rfl rfl (by kernel_rfl) (by kernel_rfl) (by kernel_rfl) (fun _ _ _ h => h) (Or.inl ⟨by rfl, ?_⟩) hS ?_
        rotate_left
        · intro W hW
          obtain ⟨⟨⟨⟨⟨k0, k1⟩, s0, s1, s2⟩, ⟨t0, t1, t2⟩, hr1⟩, ⟨u0, u1, u2⟩, hy2⟩, _⟩ := HC3.out W hW
          go_simp
          try with_reducible rfl
        simp only [List.setIfInBounds_toArray, List.set_cons_zero, List.set_cons_succ]
        refine take_to (i := 12) (v := ?_) 90 rfl rfl (by kernel_rfl) (by kernel_rfl) (by kernel_rfl) (fun _ _ _ h => h) (Or.inl ⟨by rfl, ?_⟩) hS ?_
        rotate_left
        · intro W hW
          obtain ⟨⟨⟨⟨⟨k0, k1⟩, s0, s1, s2⟩, ⟨t0, t1, t2⟩, hr1⟩, ⟨u0, u1, u2⟩, hy2⟩, _⟩ := HC3.out W hW
          go_simp
          try with_reducible rfl
        simp only [List.setIfInBounds_toArray, List.set_cons_zero, List.set_cons_succ]
        refine take_to (i := 13) (v := ?_) 91 rfl rfl (by kernel_rfl) (by kernel_rfl) (by kernel_rfl) (fun _ _ _ h => h) (Or.inl ⟨by rfl, ?_⟩) hS ?_
        rotate_left
        · intro W hW
          obtain ⟨⟨⟨⟨⟨k0, k1⟩, s0, s1, s2⟩, ⟨t0, t1, t2⟩, hr1⟩, ⟨u0, u1, u2⟩, hy2⟩, _⟩ := HC3.out W hW
          go_simp
          try with_reducible rfl
        simp only [List.setIfInBounds_toArray, List.set_cons_zero, List.set_cons_succ]
        refine take_to (i := 14) (v := ?_) 92 rfl rfl (by kernel_rfl) (by kernel_rfl) (by kernel_rfl) (fun _ _ _ h => h) (Or.inl ⟨by rfl, ?_⟩) hS ?_
        rotate_left
        · intro W hW
          obtain ⟨⟨⟨⟨⟨k0, k1⟩, s0, s1, s2⟩, ⟨t0, t1, t2⟩, hr1⟩, ⟨u0, u1, u2⟩, hy2⟩, _⟩ := HC3.out W hW
          go_simp
          try with_reducible rfl
        simp only [List.setIfInBounds_toArray, List.set_cons_zero, List.set_cons_succ]
        refine take_to (i := 15) (v := ?_) 93 rfl rfl (by kernel_rfl) (by kernel_rfl) (by kernel_rfl) (fun _ _ _ h => h) (Or.inl ⟨by rfl, ?_⟩) hS ?_
        rotate_left
        · intro W hW
          obtain ⟨⟨⟨⟨⟨k0, k1⟩, s0, s1, s2⟩, ⟨t0, t1, t2⟩, hr1⟩, ⟨u0, u1, u2⟩, hy2⟩, _⟩ := HC3.out W hW
          go_simp
          try with_reducible rfl
        simp only [List.setIfInBounds_toArray, List.set_cons_zero, List.set_cons_succ]
        refine take_to (i := 16) (v := ?_) 94 rfl rfl (by kernel_rfl) (by kernel_rfl) (by kernel_rfl) (fun _ _ _ h => h) (Or.inl ⟨by rfl, ?_⟩) hS ?_
        rotate_left
        · intro W hW
          obtain ⟨⟨⟨⟨⟨k0, k1⟩, s0, s1, s2⟩, ⟨t0, t1, t2⟩, hr1⟩, ⟨u0, u1, u2⟩, hy2⟩, _⟩ := HC3.out W hW
          go_simp
          try with_reducible rfl
        simp only [List.setIfInBounds_toArray, List.set_cons_zero, List.set_cons_succ]
        refine take_to (i := 17) (v := ?_) 95 rfl rfl (by kernel_rfl) (by kernel_rfl) (by kernel_rfl) (fun _ _ _ h => h) (Or.inl ⟨by rfl, ?_⟩) hS ?_
        rotate_left
        · intro W hW
          obtain ⟨⟨⟨⟨⟨k0, k1⟩, s0, s1, s2⟩, ⟨t0, t1, t2⟩, hr1⟩, ⟨u0, u1, u2⟩, hy2⟩, _⟩ := HC3.out W hW
          go_simp
          try with_reducible rfl
        simp only [List.setIfInBounds_toArray, List.set_cons_zero, List.set_cons_succ]
        refine take_to (i := 18) (v := ?_) 96 rfl rfl (by kernel_rfl) (by kernel_rfl) (by kernel_rfl) (fun _ _ _ h => h) (Or.inl ⟨by rfl, ?_⟩) hS ?_
        rotate_left
        · intro W hW
          obtain ⟨⟨⟨⟨⟨k0, k1⟩, s0, s1, s2⟩, ⟨t0, t1, t2⟩, hr1⟩, ⟨u0, u1, u2⟩, hy2⟩, _⟩ := HC3.out W hW
          go_simp
          try with_reducible rfl
        simp only [List.setIfInBounds_toArray, List.set_cons_zero, List.set_cons_succ]
        refine wpAnyH_ready (rs := [19]) (by kernel_rfl) (by simp) ?_
        refine AllReadyH.cons rfl (fun K hK => ?_) AllReadyH.nil
        go_simp
        obtain ⟨⟨⟨_, _, ha⟩, _, hb⟩, bw⟩ := HC3.out _ hx3
        refine (refSame_is true hb (hx.below bw) HSM).mono ?_
        rintro e x4 ⟨rfl, hx4⟩
        replace hx4 := ext_trans hx3 hx4
        clear ha hb bw
        refine hK.out _ _ hx4 fun hS => ?_
        clear hK K
        refine take_to (i := 20) (v := ?_) 98 rfl rfl (by kernel_rfl) (by kernel_rfl) (by kernel_rfl) (fun _ _ _ h => h) (Or.inl ⟨by rfl, ?_⟩) hS ?_
        rotate_left
        · intro W hW
          obtain ⟨⟨⟨⟨⟨k0, k1⟩, s0, s1, s2⟩, ⟨t0, t1, t2⟩, hr1⟩, ⟨u0, u1, u2⟩, hy2⟩, _⟩ := HC3.out W hW
          go_simp
          try with_reducible rfl
        simp only [List.setIfInBounds_toArray, List.set_cons_zero, List.set_cons_succ]
        refine take_to (i := 21) (v := ?_) 4 rfl rfl (by kernel_rfl) (by kernel_rfl) (by kernel_rfl) (fun _ _ _ h => h) (Or.inl ⟨by rfl, ?_⟩) hS ?_
        rotate_left
        · intro W hW
          obtain ⟨⟨⟨⟨⟨k0, k1⟩, s0, s1, s2⟩, ⟨t0, t1, t2⟩, hr1⟩, ⟨u0, u1, u2⟩, hy2⟩, _⟩ := HC3.out W hW
          go_simp
          try with_reducible rfl
        simp only [List.setIfInBounds_toArray, List.set_cons_zero, List.set_cons_succ]
        refine wpAnyH_done (by kernel_rfl) ?_ _
        refine NoPanic.normal ?_
        go_wp2_with fail
        go_ret
        exact ⟨rfl, (HC3.out _ hx4).2⟩
end Go.Proofs.Ytdoemkncgfgkhaa
