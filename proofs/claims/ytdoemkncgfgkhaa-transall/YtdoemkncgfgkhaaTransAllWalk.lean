/- TransAll walked: it answers true, and turns nothing that was there. -/
import Derived.Test.YtdoemkncgfgkhaaTr2
namespace Go.Proofs.Ytdoemkncgfgkhaa
open Go.RowKit
set_option maxRecDepth 100000

set_option maxHeartbeats 8000000 in
theorem transAll_walk (d : Int) (hd : 0 ≤ d ∧ d < 256) (a : Option Addr) (n cap : Nat) (xs : List (Int × Int)) (x : Sv) (w : World) (hr : RowG PE w a n cap xs) (hx : x.In w) :
    Calls Try.prog 3 #[.agg #[.int .u8 d, .slice a n cap], .agg #[.slice x.a1 x.n1 x.c1, .slice x.a2 x.n2 x.c2, .slice x.a3 x.n3 x.c3]] w fun e w' => e = .returned (.bool true) ∧ Below w.heap.size w w' := by
  have HC : Hid _ := lab_sv w d a n cap x
  go_enter Try.func3, Try.ntmps3
  go_wp2_with fail
  refine (begun11_true _).mono ?_
  rintro e w1 ⟨rfl, hb1⟩
  obtain ⟨⟨⟨k0, k1⟩, s0, s1, s2⟩, bw⟩ := HC.out _ hb1
  go_wp2_with fail
  obtain ⟨mq0, hq0⟩ : ∃ q, mayB d xs = q := ⟨_, rfl⟩
  have HQ0 : Hid (mayB d xs = mq0) := hq0
  clear hq0
  refine (mayL_is mq0 (hr.below bw) HQ0).mono ?_
  rintro e m0 ⟨rfl, hm0⟩
  replace hm0 := ext_trans hb1 hm0
  clear k0 k1 s0 s1 s2 bw
  obtain ⟨⟨⟨k0, k1⟩, s0, s1, s2⟩, bw⟩ := HC.out _ hm0
  cases mq0
  · go_wp2_with fail
    go_ret
    exact ⟨rfl, bw⟩
  have L0 := (may_lb hd.1 hr HQ0.out).1
  clear hb1
  go_wp2_with fail
  obtain ⟨sq, hsq⟩ : ∃ q, mayV x.xs x.ys x.zs = q := ⟨_, rfl⟩
  have HSQ : Hid (mayV x.xs x.ys x.zs = sq) := hsq
  clear hsq
  refine (refMay_is sq (hx.below bw) HSQ).mono ?_
  rintro e m1 ⟨rfl, hm1⟩
  replace hm1 := ext_trans hm0 hm1
  clear k0 k1 s0 s1 s2 bw
  obtain ⟨⟨⟨k0, k1⟩, s0, s1, s2⟩, bw⟩ := HC.out _ hm1
  cases sq
  · go_wp2_with fail
    go_ret
    exact ⟨rfl, bw⟩
  have HP : Hid (MayP x.xs x.ys x.zs) := (mayV_iff _ _ _).1 HSQ.out
  clear HSQ hm0
  go_wp2_with fail
  refine (split_any d a n cap xs _ (L0.below bw)).mono ?_
  rintro e v1 ⟨r, E, rfl, hr, HS1, hv1⟩
  replace hv1 := ext_trans hm1 hv1
  clear k0 k1 s0 s1 s2 bw
  have HC2 := more_sv r HC hr hv1
  obtain ⟨⟨⟨⟨k0, k1⟩, s0, s1, s2⟩, ⟨t0, t1, t2⟩, hr1⟩, bw⟩ := HC2.out _ (Below.refl _ _)
  go_wp2_with fail
  clear k0 k1 s0 s1 s2 t0 t1 t2 hr1 bw
  obtain ⟨V1, hV1⟩ : ∃ V, V = v1.alloc (Obj.cells #[.slice r.a1 r.n1 r.c1, .slice r.a2 r.n2 r.c2, .slice r.a3 r.n3 r.c3] 27) := ⟨_, rfl⟩
  rw [← hV1] at HC2 ⊢
  clear hV1 hr hv1 HC
  have hV1 := Below.refl V1.heap.size V1
  obtain ⟨⟨⟨⟨k0, k1⟩, s0, s1, s2⟩, ⟨t0, t1, t2⟩, hr1⟩, bw⟩ := HC2.out _ hV1
  refine (refSplit_any d a n cap xs _ (L0.below bw)).mono ?_
  rintro e v2 ⟨r2, E2, rfl, hr2, HS2, hv2⟩
  replace hv2 := ext_trans hV1 hv2
  clear k0 k1 s0 s1 s2 t0 t1 t2 hr1 bw
  have HC3 := more_sv r2 HC2 hr2 hv2
  obtain ⟨⟨⟨⟨⟨k0, k1⟩, s0, s1, s2⟩, ⟨t0, t1, t2⟩, hr1⟩, ⟨u0, u1, u2⟩, hr2⟩, bw⟩ := HC3.out _ (Below.refl _ _)
  obtain ⟨rfl, hsame⟩ := HS1.out.same HS2.out
  have HSM : Hid (r.same r2 = true) := hsame
  clear hsame
  have e3 : (E2 == E2) = true := by simp
  go_wp2_with fail
  clear k0 k1 s0 s1 s2 t0 t1 t2 hr1 u0 u1 u2 hr2 bw
  obtain ⟨V2, hV2⟩ : ∃ V, V = v2.alloc (Obj.cells #[.slice r2.a1 r2.n1 r2.c1, .slice r2.a2 r2.n2 r2.c2, .slice r2.a3 r2.n3 r2.c3] 27) := ⟨_, rfl⟩
  rw [← hV2] at HC3 ⊢
  clear hV2 hr2 hv2 HC2 HS1 HS2
  have hV2 := Below.refl V2.heap.size V2
  have hB0 : Below V2.heap.size V2 V2.drew := ext_drew _
  clear hV2
  refine wp_region_noPanic ?_
  refine wp_region_held_drew (S := fun W => Below V2.heap.size V2 W) (by kernel_rfl) hB0 fun hS => ?_
  refine take_to (i := 0) (v := ?_) 29 rfl rfl (by kernel_rfl) (by kernel_rfl) (by kernel_rfl) (fun _ _ _ h => h) (Or.inl ⟨by rfl, ?_⟩) hS ?_
  rotate_left
  · intro W hW
    obtain ⟨⟨⟨⟨⟨k0, k1⟩, s0, s1, s2⟩, ⟨t0, t1, t2⟩, hr1⟩, ⟨u0, u1, u2⟩, hr2⟩, _⟩ := HC3.out W hW
    go_simp
    try with_reducible rfl
  simp only [List.setIfInBounds_toArray, List.set_cons_zero, List.set_cons_succ]
  refine take_to (i := 1) (v := ?_) 30 rfl rfl (by kernel_rfl) (by kernel_rfl) (by kernel_rfl) (fun _ _ _ h => h) (Or.inl ⟨by rfl, ?_⟩) hS ?_
  rotate_left
  · intro W hW
    obtain ⟨⟨⟨⟨⟨k0, k1⟩, s0, s1, s2⟩, ⟨t0, t1, t2⟩, hr1⟩, ⟨u0, u1, u2⟩, hr2⟩, _⟩ := HC3.out W hW
    go_simp
    try with_reducible rfl
  simp only [List.setIfInBounds_toArray, List.set_cons_zero, List.set_cons_succ]
  refine wpAnyH_ready (rs := [2]) (by kernel_rfl) (by simp) ?_
  refine AllReadyH.cons rfl (fun K hK => ?_) AllReadyH.nil
  go_simp
  obtain ⟨⟨⟨_, _, ha⟩, _, hb⟩, bw⟩ := HC3.out _ hB0
  refine (refSame_is true ha hb HSM).mono ?_
  rintro e x1 ⟨rfl, hx1⟩
  replace hx1 := ext_trans hB0 hx1
  clear ha hb bw
  refine hK.out _ _ hx1 fun hS => ?_
  clear hK K
  refine take_to (i := 3) (v := ?_) 32 rfl rfl (by kernel_rfl) (by kernel_rfl) (by kernel_rfl) (fun _ _ _ h => h) (Or.inl ⟨by rfl, ?_⟩) hS ?_
  rotate_left
  · intro W hW
    obtain ⟨⟨⟨⟨⟨k0, k1⟩, s0, s1, s2⟩, ⟨t0, t1, t2⟩, hr1⟩, ⟨u0, u1, u2⟩, hr2⟩, _⟩ := HC3.out W hW
    go_simp
    try with_reducible rfl
  simp only [List.setIfInBounds_toArray, List.set_cons_zero, List.set_cons_succ]
  refine take_to (i := 4) (v := ?_) 33 rfl rfl (by kernel_rfl) (by kernel_rfl) (by kernel_rfl) (fun _ _ _ h => h) (Or.inl ⟨by rfl, ?_⟩) hS ?_
  rotate_left
  · intro W hW
    obtain ⟨⟨⟨⟨⟨k0, k1⟩, s0, s1, s2⟩, ⟨t0, t1, t2⟩, hr1⟩, ⟨u0, u1, u2⟩, hr2⟩, _⟩ := HC3.out W hW
    go_simp
    try with_reducible rfl
  simp only [List.setIfInBounds_toArray, List.set_cons_zero, List.set_cons_succ]
  refine take_to (i := 5) (v := ?_) 34 rfl rfl (by kernel_rfl) (by kernel_rfl) (by kernel_rfl) (fun _ _ _ h => h) (Or.inl ⟨by rfl, ?_⟩) hS ?_
  rotate_left
  · intro W hW
    obtain ⟨⟨⟨⟨⟨k0, k1⟩, s0, s1, s2⟩, ⟨t0, t1, t2⟩, hr1⟩, ⟨u0, u1, u2⟩, hr2⟩, _⟩ := HC3.out W hW
    go_simp
    try with_reducible rfl
  simp only [List.setIfInBounds_toArray, List.set_cons_zero, List.set_cons_succ]
  refine take_to (i := 6) (v := ?_) 35 rfl rfl (by kernel_rfl) (by kernel_rfl) (by kernel_rfl) (fun _ _ _ h => h) (Or.inl ⟨by rfl, ?_⟩) hS ?_
  rotate_left
  · intro W hW
    obtain ⟨⟨⟨⟨⟨k0, k1⟩, s0, s1, s2⟩, ⟨t0, t1, t2⟩, hr1⟩, ⟨u0, u1, u2⟩, hr2⟩, _⟩ := HC3.out W hW
    go_simp
    try with_reducible rfl
  simp only [List.setIfInBounds_toArray, List.set_cons_zero, List.set_cons_succ]
  refine take_to (i := 7) (v := ?_) 36 rfl rfl (by kernel_rfl) (by kernel_rfl) (by kernel_rfl) (fun _ _ _ h => h) (Or.inl ⟨by rfl, ?_⟩) hS ?_
  rotate_left
  · intro W hW
    obtain ⟨⟨⟨⟨⟨k0, k1⟩, s0, s1, s2⟩, ⟨t0, t1, t2⟩, hr1⟩, ⟨u0, u1, u2⟩, hr2⟩, _⟩ := HC3.out W hW
    go_simp
    try with_reducible rfl
  simp only [List.setIfInBounds_toArray, List.set_cons_zero, List.set_cons_succ]
  refine take_to (i := 8) (v := ?_) 37 rfl rfl (by kernel_rfl) (by kernel_rfl) (by kernel_rfl) (fun _ _ _ h => h) (Or.inl ⟨by rfl, ?_⟩) hS ?_
  rotate_left
  · intro W hW
    obtain ⟨⟨⟨⟨⟨k0, k1⟩, s0, s1, s2⟩, ⟨t0, t1, t2⟩, hr1⟩, ⟨u0, u1, u2⟩, hr2⟩, _⟩ := HC3.out W hW
    go_simp
    try with_reducible rfl
  simp only [List.setIfInBounds_toArray, List.set_cons_zero, List.set_cons_succ]
  refine take_to (i := 9) (v := ?_) 38 rfl rfl (by kernel_rfl) (by kernel_rfl) (by kernel_rfl) (fun _ _ _ h => h) (Or.inl ⟨by rfl, ?_⟩) hS ?_
  rotate_left
  · intro W hW
    obtain ⟨⟨⟨⟨⟨k0, k1⟩, s0, s1, s2⟩, ⟨t0, t1, t2⟩, hr1⟩, ⟨u0, u1, u2⟩, hr2⟩, _⟩ := HC3.out W hW
    go_simp
    try with_reducible rfl
  simp only [List.setIfInBounds_toArray, List.set_cons_zero, List.set_cons_succ]
  refine take_to (i := 11) (v := ?_) 40 rfl rfl (by kernel_rfl) (by kernel_rfl) (by kernel_rfl) (fun _ _ _ h => h) (Or.inl ⟨by rfl, ?_⟩) hS ?_
  rotate_left
  · intro W hW
    obtain ⟨⟨⟨⟨⟨k0, k1⟩, s0, s1, s2⟩, ⟨t0, t1, t2⟩, hr1⟩, ⟨u0, u1, u2⟩, hr2⟩, _⟩ := HC3.out W hW
    go_simp
    try with_reducible rfl
  simp only [List.setIfInBounds_toArray, List.set_cons_zero, List.set_cons_succ]
  refine wpAnyH_ready (rs := [10]) (by kernel_rfl) (by simp) ?_
  refine AllReadyH.cons rfl (fun K hK => ?_) AllReadyH.nil
  go_simp
  obtain ⟨_, bw⟩ := HC3.out _ hx1
  refine (trBack_is x _ (hx.below bw) HP).mono ?_
  rintro e x2 ⟨so1, k1, co1, ps, rfl, hlb1, HB1, hx2⟩
  replace hx2 := ext_trans hx1 hx2
  clear bw
  refine hK.out _ _ hx2 fun hS => ?_
  clear hK K
  refine wpAnyH_ready (rs := [12]) (by kernel_rfl) (by simp) ?_
  refine AllReadyH.cons rfl (fun K hK => ?_) AllReadyH.nil
  go_simp
  obtain ⟨_, bw⟩ := HC3.out _ hx2
  refine (back_is x _ (hx.below bw) HP).mono ?_
  rintro e x3 ⟨so2, k2, co2, qs, rfl, hlb2, HB2, hx3⟩
  replace hlb1 := hlb1.below hx3
  replace hx3 := ext_trans hx2 hx3
  clear bw
  refine hK.out _ _ hx3 fun hS => ?_
  clear hK K
  refine wpAnyH_ready (rs := [13]) (by kernel_rfl) (by simp) ?_
  refine AllReadyH.cons rfl (fun K hK => ?_) AllReadyH.nil
  go_simp
  refine (refSame_true hlb1.row hlb2.row (HB1.out.uniq HB2.out)).mono ?_
  rintro e x4 ⟨rfl, hx4⟩
  replace hx4 := ext_trans hx3 hx4
  refine hK.out _ _ hx4 fun hS => ?_
  clear hK K
  refine take_to (i := 14) (v := ?_) 43 rfl rfl (by kernel_rfl) (by kernel_rfl) (by kernel_rfl) (fun _ _ _ h => h) (Or.inl ⟨by rfl, ?_⟩) hS ?_
  rotate_left
  · intro W hW
    obtain ⟨⟨⟨⟨⟨k0, k1⟩, s0, s1, s2⟩, ⟨t0, t1, t2⟩, hr1⟩, ⟨u0, u1, u2⟩, hr2⟩, _⟩ := HC3.out W hW
    go_simp
    try with_reducible rfl
  simp only [List.setIfInBounds_toArray, List.set_cons_zero, List.set_cons_succ]
  refine take_to (i := 15) (v := ?_) 4 rfl rfl (by kernel_rfl) (by kernel_rfl) (by kernel_rfl) (fun _ _ _ h => h) (Or.inl ⟨by rfl, ?_⟩) hS ?_
  rotate_left
  · intro W hW
    obtain ⟨⟨⟨⟨⟨k0, k1⟩, s0, s1, s2⟩, ⟨t0, t1, t2⟩, hr1⟩, ⟨u0, u1, u2⟩, hr2⟩, _⟩ := HC3.out W hW
    go_simp
    try with_reducible rfl
  simp only [List.setIfInBounds_toArray, List.set_cons_zero, List.set_cons_succ]
  refine wpAnyH_done (by kernel_rfl) ?_ _
  refine NoPanic.normal ?_
  go_wp2_with fail
  go_ret
  exact ⟨rfl, (HC3.out _ hx4).2⟩
end Go.Proofs.Ytdoemkncgfgkhaa
