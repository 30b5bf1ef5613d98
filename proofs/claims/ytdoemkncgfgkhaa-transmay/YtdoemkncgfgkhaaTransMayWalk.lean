/- TransMay walked: it answers true, and turns nothing that was there. -/
import Derived.Test.YtdoemkncgfgkhaaTr2
namespace Go.Proofs.Ytdoemkncgfgkhaa
open Go.RowKit
set_option maxRecDepth 100000

theorem bool_pick (P : Prop) : ∃ q : Bool, Hid (q = true ↔ P) := by
  by_cases h : P
  · exact ⟨true, by show _ ↔ _; simp [h]⟩
  · exact ⟨false, by show _ ↔ _; simp [h]⟩
theorem why_same {n st s q f : Bool} (hn : n = true) (hst : st = s) (hf : s = true → f = q) : why n st f = why2 s q := by
  subst hn hst
  cases st
  · rfl
  · rw [hf rfl]; rfl
theorem owns_nil {x y : Sv} (h : y.zs = []) : OwnsP x y := fun z hz => by rw [h] at hz; simp at hz
theorem names_is (q : Bool) {d : Int} {a : Option Addr} {n cap : Nat} {xs : List (Int × Int)} {w : World} (hr : RowG PE w a n cap xs) (hq : Hid (nameB d xs = q)) :
    Calls Try.prog 18 #[.agg #[.int .u8 d, .slice a n cap]] w fun e w' => e = .returned (.bool q) ∧ Below w.heap.size w w' := by
  have := names_any d a n cap xs w hr
  rwa [hq.out] at this
set_option maxHeartbeats 8000000 in
theorem transMay_walk (d : Int) (hd : 0 ≤ d ∧ d < 256) (a : Option Addr) (n cap : Nat) (xs : List (Int × Int)) (d' : Int) (hd' : 0 ≤ d' ∧ d' < 256) (b : Option Addr) (m cap2 : Nat) (ys : List (Int × Int)) (w : World) (hr : RowG PE w a n cap xs) (hs : RowG PE w b m cap2 ys) :
    Calls Try.prog 5 #[.agg #[.int .u8 d, .slice a n cap], .agg #[.int .u8 d', .slice b m cap2]] w fun e w' => e = .returned (.bool true) ∧ Below w.heap.size w w' := by
  have HC : Hid _ := lab_lab w d a n cap d' b m cap2
  go_enter Try.func5, Try.ntmps5
  go_wp2_with fail
  refine (begun11_true _).mono ?_
  rintro e w1 ⟨rfl, hb1⟩
  obtain ⟨⟨⟨k0, k1⟩, l0, l1⟩, bw⟩ := HC.out _ hb1
  go_wp2_with fail
  obtain ⟨mq0, hq0⟩ : ∃ q, mayB d xs = q := ⟨_, rfl⟩
  have HQ0 : Hid (mayB d xs = mq0) := hq0
  clear hq0
  refine (mayL_is mq0 (hr.below bw) HQ0).mono ?_
  rintro e m0 ⟨rfl, hm0⟩
  replace hm0 := ext_trans hb1 hm0
  clear k0 k1 l0 l1 bw
  obtain ⟨⟨⟨k0, k1⟩, l0, l1⟩, bw⟩ := HC.out _ hm0
  cases mq0
  · go_wp2_with fail
    go_ret
    exact ⟨rfl, bw⟩
  have L0 := (may_lb hd.1 hr HQ0.out).1
  clear hb1
  go_wp2_with fail
  obtain ⟨mq1, hq1⟩ : ∃ q, mayB d' ys = q := ⟨_, rfl⟩
  have HQ1 : Hid (mayB d' ys = mq1) := hq1
  clear hq1
  refine (mayL_is mq1 (hs.below bw) HQ1).mono ?_
  rintro e m1 ⟨rfl, hm1⟩
  replace hm1 := ext_trans hm0 hm1
  clear k0 k1 l0 l1 bw
  obtain ⟨⟨⟨k0, k1⟩, l0, l1⟩, bw⟩ := HC.out _ hm1
  cases mq1
  · go_wp2_with fail
    go_ret
    exact ⟨rfl, bw⟩
  have L1 := (may_lb hd'.1 hs HQ1.out).1
  clear hm0
  go_wp2_with fail
  refine (split_any d a n cap xs _ (L0.below bw)).mono ?_
  rintro e v1 ⟨x, E, rfl, hx, HS1, hv1⟩
  replace hv1 := ext_trans hm1 hv1
  clear k0 k1 l0 l1 bw
  have HC2 := more_sv x HC hx hv1
  obtain ⟨⟨⟨⟨k0, k1⟩, l0, l1⟩, ⟨t0, t1, t2⟩, hx1⟩, bw⟩ := HC2.out _ (Below.refl _ _)
  go_wp2_with fail
  clear k0 k1 l0 l1 t0 t1 t2 hx1 bw
  obtain ⟨V1, hV1⟩ : ∃ V, V = v1.alloc (Obj.cells #[.slice x.a1 x.n1 x.c1, .slice x.a2 x.n2 x.c2, .slice x.a3 x.n3 x.c3] 27) := ⟨_, rfl⟩
  rw [← hV1] at HC2 ⊢
  clear hV1 hx hv1 HC
  have hV1 := Below.refl V1.heap.size V1
  obtain ⟨⟨⟨⟨k0, k1⟩, l0, l1⟩, ⟨t0, t1, t2⟩, hx1⟩, bw⟩ := HC2.out _ hV1
  refine (split_any d' b m cap2 ys _ (L1.below bw)).mono ?_
  rintro e v2 ⟨y, E2, rfl, hy, HS2, hv2⟩
  replace hv2 := ext_trans hV1 hv2
  clear k0 k1 l0 l1 t0 t1 t2 hx1 bw
  have HC3 := more_sv y HC2 hy hv2
  obtain ⟨⟨⟨⟨⟨k0, k1⟩, l0, l1⟩, ⟨t0, t1, t2⟩, hx1⟩, ⟨u0, u1, u2⟩, hy1⟩, bw⟩ := HC3.out _ (Below.refl _ _)
  obtain ⟨nt, hnt⟩ : ∃ t, nameB d xs = t := ⟨_, rfl⟩
  have HNT : Hid (nameB d xs = nt) := hnt
  obtain ⟨no, hno⟩ : ∃ t, nameB d' ys = t := ⟨_, rfl⟩
  have HNO : Hid (nameB d' ys = no) := hno
  clear hnt hno
  cases nt
  · cases no
    · obtain ⟨rfl, -⟩ := HS1.out.no HNT.out
      obtain ⟨rfl, -⟩ := HS2.out.no HNO.out
      go_wp2_with fail
      clear k0 k1 l0 l1 t0 t1 t2 hx1 u0 u1 u2 hy1 bw
      obtain ⟨V2, hV2⟩ : ∃ V, V = v2.alloc (Obj.cells #[.slice y.a1 y.n1 y.c1, .slice y.a2 y.n2 y.c2, .slice y.a3 y.n3 y.c3] 27) := ⟨_, rfl⟩
      rw [← hV2] at HC3 ⊢
      clear hV2
      obtain ⟨⟨⟨⟨⟨k0, k1⟩, l0, l1⟩, ⟨t0, t1, t2⟩, hx1⟩, ⟨u0, u1, u2⟩, hy1⟩, bw⟩ := HC3.out _ (Below.refl _ _)
      refine (names_is false (hr.below bw) HNT).mono ?_
      rintro e x1 ⟨rfl, hx1'⟩
      clear k0 k1 l0 l1 t0 t1 t2 hx1 u0 u1 u2 hy1 bw
      obtain ⟨⟨⟨⟨⟨k0, k1⟩, l0, l1⟩, ⟨t0, t1, t2⟩, hx1⟩, ⟨u0, u1, u2⟩, hy1⟩, bw⟩ := HC3.out _ hx1'
      go_wp2_with fail
      refine (names_is false (hs.below bw) HNO).mono ?_
      rintro e x2 ⟨rfl, hx2'⟩
      replace hx2' := ext_trans hx1' hx2'
      go_wp2_with fail
      go_ret
      exact ⟨rfl, (HC3.out _ hx2').2⟩
    · obtain ⟨rfl, -⟩ := HS1.out.no HNT.out
      obtain ⟨rfl, -⟩ := HS2.out.ok HNO.out
      go_wp2_with fail
      clear k0 k1 l0 l1 t0 t1 t2 hx1 u0 u1 u2 hy1 bw
      obtain ⟨V2, hV2⟩ : ∃ V, V = v2.alloc (Obj.cells #[.slice y.a1 y.n1 y.c1, .slice y.a2 y.n2 y.c2, .slice y.a3 y.n3 y.c3] 27) := ⟨_, rfl⟩
      rw [← hV2] at HC3 ⊢
      clear hV2
      obtain ⟨⟨⟨⟨⟨k0, k1⟩, l0, l1⟩, ⟨t0, t1, t2⟩, hx1⟩, ⟨u0, u1, u2⟩, hy1⟩, bw⟩ := HC3.out _ (Below.refl _ _)
      refine (names_is false (hr.below bw) HNT).mono ?_
      rintro e x1 ⟨rfl, hx1'⟩
      clear k0 k1 l0 l1 t0 t1 t2 hx1 u0 u1 u2 hy1 bw
      obtain ⟨⟨⟨⟨⟨k0, k1⟩, l0, l1⟩, ⟨t0, t1, t2⟩, hx1⟩, ⟨u0, u1, u2⟩, hy1⟩, bw⟩ := HC3.out _ hx1'
      go_wp2_with fail
      refine (names_is true (hs.below bw) HNO).mono ?_
      rintro e x2 ⟨rfl, hx2'⟩
      replace hx2' := ext_trans hx1' hx2'
      go_wp2_with fail
      go_ret
      exact ⟨rfl, (HC3.out _ hx2').2⟩
  cases no
  · obtain ⟨rfl, -⟩ := HS1.out.ok HNT.out
    obtain ⟨rfl, -⟩ := HS2.out.no HNO.out
    go_wp2_with fail
    clear k0 k1 l0 l1 t0 t1 t2 hx1 u0 u1 u2 hy1 bw
    obtain ⟨V2, hV2⟩ : ∃ V, V = v2.alloc (Obj.cells #[.slice y.a1 y.n1 y.c1, .slice y.a2 y.n2 y.c2, .slice y.a3 y.n3 y.c3] 27) := ⟨_, rfl⟩
    rw [← hV2] at HC3 ⊢
    clear hV2
    obtain ⟨⟨⟨⟨⟨k0, k1⟩, l0, l1⟩, ⟨t0, t1, t2⟩, hx1⟩, ⟨u0, u1, u2⟩, hy1⟩, bw⟩ := HC3.out _ (Below.refl _ _)
    refine (names_is true (hr.below bw) HNT).mono ?_
    rintro e x1 ⟨rfl, hx1'⟩
    clear k0 k1 l0 l1 t0 t1 t2 hx1 u0 u1 u2 hy1 bw
    obtain ⟨⟨⟨⟨⟨k0, k1⟩, l0, l1⟩, ⟨t0, t1, t2⟩, hx1⟩, ⟨u0, u1, u2⟩, hy1⟩, bw⟩ := HC3.out _ hx1'
    go_wp2_with fail
    refine (names_is false (hs.below bw) HNO).mono ?_
    rintro e x2 ⟨rfl, hx2'⟩
    replace hx2' := ext_trans hx1' hx2'
    go_wp2_with fail
    go_ret
    exact ⟨rfl, (HC3.out _ hx2').2⟩
  obtain ⟨rfl, -⟩ := HS1.out.ok HNT.out
  obtain ⟨rfl, -⟩ := HS2.out.ok HNO.out
  obtain ⟨hmx, hbx⟩ := HS1.out.bk HNT.out HQ0.out L0.lv
  have HMX : Hid (MayP x.xs x.ys x.zs) := hmx
  have HBX : Hid (Bk x.xs x.ys x.zs xs) := hbx
  obtain ⟨hmy, hby⟩ := HS2.out.bk HNO.out HQ1.out L1.lv
  have HMY : Hid (MayP y.xs y.ys y.zs) := hmy
  have HBY : Hid (Bk y.xs y.ys y.zs ys) := hby
  have HD : Hid (d = 2) := (name_two HNT.out).1
  have HD' : Hid (d' = 2) := (name_two HNO.out).1
  clear hmx hbx hmy hby
  obtain rfl := HD.out
  obtain rfl := HD'.out
  clear HD HD'
  obtain ⟨qf, Hqf⟩ := bool_pick (FlL 2 xs 2 ys)
  obtain ⟨qt, Hqt⟩ := bool_pick (TurnsP x y)
  obtain ⟨qs, Hqs⟩ := bool_pick (OwnsP x y)
  obtain ⟨q0, Hq0⟩ := bool_pick (y.zs = [])
  have HF : Hid (qs = true → qf = qt) := fun h => bool_is Hqf.out (by rw [HBX.out.flows HBY.out HMX.out HMY.out]; exact ⟨fun k => ⟨Hqs.out.1 h, Hqt.out.1 k⟩, fun k => Hqt.out.2 k.2⟩)
  have H0 : Hid (q0 = true → qs = true) := fun h => Hqs.out.2 (owns_nil (Hq0.out.1 h))
  obtain ⟨er, her⟩ : ∃ z, why2 qs qt = z := ⟨_, rfl⟩
  have HER : Hid (why2 qs qt = er) := her
  have HER1 : Hid (why (nameB 2 ys) (starB 2 xs (starsL 0 ys)) qf = er) := (why_same HNO.out (bool_is (HBX.out.starsB HBY.out) Hqs.out) HF.out).trans her
  clear her
  obtain ⟨em, hem⟩ : ∃ z, why2 q0 qt = z := ⟨_, rfl⟩
  have HEM : Hid (why2 q0 qt = em) := hem
  have HEM1 : Hid (why (nameB 2 ys) (decide (starsL 0 ys = [])) qf = em) := (why_same HNO.out (bool_is (decide_eq_true_iff.trans HBY.out.none) Hq0.out) (fun h => HF.out (H0.out h))).trans hem
  clear hem
  have e4 : (er != er) = false := by simp
  have e5 : (em != em) = false := by simp
  go_wp2_with fail
  clear k0 k1 l0 l1 t0 t1 t2 hx1 u0 u1 u2 hy1 bw
  obtain ⟨V2, hV2⟩ : ∃ V, V = v2.alloc (Obj.cells #[.slice y.a1 y.n1 y.c1, .slice y.a2 y.n2 y.c2, .slice y.a3 y.n3 y.c3] 27) := ⟨_, rfl⟩
  rw [← hV2] at HC3 ⊢
  clear hV2 hy hv2 HC2 HS1 HS2
  have hV2 := Below.refl V2.heap.size V2
  have hB0 : Below V2.heap.size V2 V2.drew := ext_drew _
  clear hV2
  refine wp_region_noPanic ?_
  refine wp_region_held_drew (S := fun W => Below V2.heap.size V2 W) (by kernel_rfl) hB0 fun hS => ?_
  refine take_to (i := 0) (v := ?_) 47 rfl rfl (by kernel_rfl) (by kernel_rfl) (by kernel_rfl) (fun _ _ _ h => h) (Or.inl ⟨by rfl, ?_⟩) hS ?_
  rotate_left
  · intro W hW
    obtain ⟨⟨⟨⟨⟨k0, k1⟩, l0, l1⟩, ⟨t0, t1, t2⟩, hx1⟩, ⟨u0, u1, u2⟩, hy1⟩, _⟩ := HC3.out W hW
    go_simp
    try with_reducible rfl
  simp only [List.setIfInBounds_toArray, List.set_cons_zero, List.set_cons_succ]
  refine take_to (i := 1) (v := ?_) 48 rfl rfl (by kernel_rfl) (by kernel_rfl) (by kernel_rfl) (fun _ _ _ h => h) (Or.inl ⟨by rfl, ?_⟩) hS ?_
  rotate_left
  · intro W hW
    obtain ⟨⟨⟨⟨⟨k0, k1⟩, l0, l1⟩, ⟨t0, t1, t2⟩, hx1⟩, ⟨u0, u1, u2⟩, hy1⟩, _⟩ := HC3.out W hW
    go_simp
    try with_reducible rfl
  simp only [List.setIfInBounds_toArray, List.set_cons_zero, List.set_cons_succ]
  refine take_to (i := 3) (v := ?_) 50 rfl rfl (by kernel_rfl) (by kernel_rfl) (by kernel_rfl) (fun _ _ _ h => h) (Or.inl ⟨by rfl, ?_⟩) hS ?_
  rotate_left
  · intro W hW
    obtain ⟨⟨⟨⟨⟨k0, k1⟩, l0, l1⟩, ⟨t0, t1, t2⟩, hx1⟩, ⟨u0, u1, u2⟩, hy1⟩, _⟩ := HC3.out W hW
    go_simp
    try with_reducible rfl
  simp only [List.setIfInBounds_toArray, List.set_cons_zero, List.set_cons_succ]
  refine take_to (i := 4) (v := ?_) 51 rfl rfl (by kernel_rfl) (by kernel_rfl) (by kernel_rfl) (fun _ _ _ h => h) (Or.inl ⟨by rfl, ?_⟩) hS ?_
  rotate_left
  · intro W hW
    obtain ⟨⟨⟨⟨⟨k0, k1⟩, l0, l1⟩, ⟨t0, t1, t2⟩, hx1⟩, ⟨u0, u1, u2⟩, hy1⟩, _⟩ := HC3.out W hW
    go_simp
    try with_reducible rfl
  simp only [List.setIfInBounds_toArray, List.set_cons_zero, List.set_cons_succ]
  refine wpAnyH_ready (rs := [2]) (by kernel_rfl) (by simp) ?_
  refine AllReadyH.cons rfl (fun K hK => ?_) AllReadyH.nil
  go_simp
  obtain ⟨⟨⟨_, _, hxx⟩, _, hyy⟩, bw⟩ := HC3.out _ hB0
  refine (rises_is qf Hqf _ (L0.below bw) (L1.below bw)).mono ?_
  rintro e c1 ⟨rfl, hc1⟩
  rw [HER1.out]
  replace hc1 := ext_trans hB0 hc1
  clear hxx hyy bw
  refine hK.out _ _ hc1 fun hS => ?_
  clear hK K
  refine wpAnyH_ready (rs := [5]) (by kernel_rfl) (by simp) ?_
  refine AllReadyH.cons rfl (fun K hK => ?_) AllReadyH.nil
  go_simp
  obtain ⟨⟨⟨_, _, hxx⟩, _, hyy⟩, bw⟩ := HC3.out _ hc1
  refine (rises2_is qt qs Hqt Hqs _ (Sm.of hxx HMX.out) (Sm.of hyy HMY.out)).mono ?_
  rintro e c2 ⟨rfl, hc2⟩
  rw [HER.out]
  replace hc2 := ext_trans hc1 hc2
  clear hxx hyy bw
  refine hK.out _ _ hc2 fun hS => ?_
  clear hK K
  refine take_to (i := 6) (v := ?_) 53 rfl rfl (by kernel_rfl) (by kernel_rfl) (by kernel_rfl) (fun _ _ _ h => h) (Or.inl ⟨by rfl, ?_⟩) hS ?_
  rotate_left
  · intro W hW
    obtain ⟨⟨⟨⟨⟨k0, k1⟩, l0, l1⟩, ⟨t0, t1, t2⟩, hx1⟩, ⟨u0, u1, u2⟩, hy1⟩, _⟩ := HC3.out W hW
    go_simp
    try with_reducible rfl
  simp only [List.setIfInBounds_toArray, List.set_cons_zero, List.set_cons_succ]
  refine take_to (i := 7) (v := ?_) 54 rfl rfl (by kernel_rfl) (by kernel_rfl) (by kernel_rfl) (fun _ _ _ h => h) (Or.inl ⟨by rfl, ?_⟩) hS ?_
  rotate_left
  · intro W hW
    obtain ⟨⟨⟨⟨⟨k0, k1⟩, l0, l1⟩, ⟨t0, t1, t2⟩, hx1⟩, ⟨u0, u1, u2⟩, hy1⟩, _⟩ := HC3.out W hW
    go_simp
    try with_reducible rfl
  simp only [List.setIfInBounds_toArray, List.set_cons_zero, List.set_cons_succ]
  refine take_to (i := 8) (v := ?_) 55 rfl rfl (by kernel_rfl) (by kernel_rfl) (by kernel_rfl) (fun _ _ _ h => h) (Or.inl ⟨by rfl, ?_⟩) hS ?_
  rotate_left
  · intro W hW
    obtain ⟨⟨⟨⟨⟨k0, k1⟩, l0, l1⟩, ⟨t0, t1, t2⟩, hx1⟩, ⟨u0, u1, u2⟩, hy1⟩, _⟩ := HC3.out W hW
    go_simp
    try with_reducible rfl
  simp only [List.setIfInBounds_toArray, List.set_cons_zero, List.set_cons_succ]
  refine take_to (i := 9) (v := ?_) 56 rfl rfl (by kernel_rfl) (by kernel_rfl) (by kernel_rfl) (fun _ _ _ h => h) (Or.inl ⟨by rfl, ?_⟩) hS ?_
  rotate_left
  · intro W hW
    obtain ⟨⟨⟨⟨⟨k0, k1⟩, l0, l1⟩, ⟨t0, t1, t2⟩, hx1⟩, ⟨u0, u1, u2⟩, hy1⟩, _⟩ := HC3.out W hW
    go_simp
    try with_reducible rfl
  simp only [List.setIfInBounds_toArray, List.set_cons_zero, List.set_cons_succ]
  refine take_to (i := 11) (v := ?_) 58 rfl rfl (by kernel_rfl) (by kernel_rfl) (by kernel_rfl) (fun _ _ _ h => h) (Or.inl ⟨by rfl, ?_⟩) hS ?_
  rotate_left
  · intro W hW
    obtain ⟨⟨⟨⟨⟨k0, k1⟩, l0, l1⟩, ⟨t0, t1, t2⟩, hx1⟩, ⟨u0, u1, u2⟩, hy1⟩, _⟩ := HC3.out W hW
    go_simp
    try with_reducible rfl
  simp only [List.setIfInBounds_toArray, List.set_cons_zero, List.set_cons_succ]
  refine take_to (i := 12) (v := ?_) 59 rfl rfl (by kernel_rfl) (by kernel_rfl) (by kernel_rfl) (fun _ _ _ h => h) (Or.inl ⟨by rfl, ?_⟩) hS ?_
  rotate_left
  · intro W hW
    obtain ⟨⟨⟨⟨⟨k0, k1⟩, l0, l1⟩, ⟨t0, t1, t2⟩, hx1⟩, ⟨u0, u1, u2⟩, hy1⟩, _⟩ := HC3.out W hW
    go_simp
    try with_reducible rfl
  simp only [List.setIfInBounds_toArray, List.set_cons_zero, List.set_cons_succ]
  refine wpAnyH_ready (rs := [10]) (by kernel_rfl) (by simp) ?_
  refine AllReadyH.cons rfl (fun K hK => ?_) AllReadyH.nil
  go_simp
  obtain ⟨⟨⟨_, _, hxx⟩, _, hyy⟩, bw⟩ := HC3.out _ hc2
  refine (makes_is qf Hqf _ (L0.below bw) (L1.below bw)).mono ?_
  rintro e c3 ⟨rfl, hc3⟩
  rw [HEM1.out]
  replace hc3 := ext_trans hc2 hc3
  clear hxx hyy bw
  refine hK.out _ _ hc3 fun hS => ?_
  clear hK K
  refine wpAnyH_ready (rs := [13]) (by kernel_rfl) (by simp) ?_
  refine AllReadyH.cons rfl (fun K hK => ?_) AllReadyH.nil
  go_simp
  obtain ⟨⟨⟨_, _, hxx⟩, _, hyy⟩, bw⟩ := HC3.out _ hc3
  refine (makes2_is qt q0 Hqt Hq0 _ (Sm.of hxx HMX.out) (Sm.of hyy HMY.out)).mono ?_
  rintro e c4 ⟨rfl, hc4⟩
  rw [HEM.out]
  replace hc4 := ext_trans hc3 hc4
  clear hxx hyy bw
  refine hK.out _ _ hc4 fun hS => ?_
  clear hK K
  refine take_to (i := 14) (v := ?_) 61 rfl rfl (by kernel_rfl) (by kernel_rfl) (by kernel_rfl) (fun _ _ _ h => h) (Or.inl ⟨by rfl, ?_⟩) hS ?_
  rotate_left
  · intro W hW
    obtain ⟨⟨⟨⟨⟨k0, k1⟩, l0, l1⟩, ⟨t0, t1, t2⟩, hx1⟩, ⟨u0, u1, u2⟩, hy1⟩, _⟩ := HC3.out W hW
    go_simp
    try with_reducible rfl
  simp only [List.setIfInBounds_toArray, List.set_cons_zero, List.set_cons_succ]
  refine take_to (i := 15) (v := ?_) 62 rfl rfl (by kernel_rfl) (by kernel_rfl) (by kernel_rfl) (fun _ _ _ h => h) (Or.inl ⟨by rfl, ?_⟩) hS ?_
  rotate_left
  · intro W hW
    obtain ⟨⟨⟨⟨⟨k0, k1⟩, l0, l1⟩, ⟨t0, t1, t2⟩, hx1⟩, ⟨u0, u1, u2⟩, hy1⟩, _⟩ := HC3.out W hW
    go_simp
    try with_reducible rfl
  simp only [List.setIfInBounds_toArray, List.set_cons_zero, List.set_cons_succ]
  refine wpAnyH_done (by kernel_rfl) ?_ _
  refine NoPanic.normal ?_
  obtain ⟨⟨⟨⟨⟨k0, k1⟩, l0, l1⟩, ⟨t0, t1, t2⟩, hx1⟩, ⟨u0, u1, u2⟩, hy1⟩, bw⟩ := HC3.out _ hc4
  by_cases hz : 0 < y.n3
  · have hz' : (0 : Int) < (y.n3 : Int) := by omega
    go_wp2_with fail
    go_ret
    exact ⟨rfl, bw⟩
  have HZ : Hid (y.zs = []) := List.eq_nil_of_length_eq_zero (by have := hy1.r3.len; omega)
  have hz' : y.n3 = 0 := by omega
  clear hz
  have HT : Hid (qt = true ↔ FlL 2 xs 2 ys) := by
    rw [← HF.out (H0.out (Hq0.out.2 HZ.out))]
    exact Hqf.out
  obtain ⟨qv, Hqv⟩ := bool_pick (SeesP x y)
  have HV : Hid (qv = true ↔ FlL 2 ys (riseL 2) (riseP 2 xs)) := Hqv.out.trans (HBX.out.sees HBY.out HMX.out HMY.out HZ.out).symm
  have e6 : (qv == qv) = true := by simp
  have e7 : (qt == qt) = true := by simp
  go_wp2_with fail
  clear hz'
  clear k0 k1 l0 l1 t0 t1 t2 hx1 u0 u1 u2 hy1 bw
  have hB1 : Below V2.heap.size V2 c4.drew := ext_trans hc4 (ext_drew _)
  refine wp_region_noPanic ?_
  refine wp_region_held_drew (S := fun W => Below V2.heap.size V2 W) (by kernel_rfl) hB1 fun hS => ?_
  refine take_to (i := 0) (v := ?_) 67 rfl rfl (by kernel_rfl) (by kernel_rfl) (by kernel_rfl) (fun _ _ _ h => h) (Or.inl ⟨by rfl, ?_⟩) hS ?_
  rotate_left
  · intro W hW
    obtain ⟨⟨⟨⟨⟨k0, k1⟩, l0, l1⟩, ⟨t0, t1, t2⟩, hx1⟩, ⟨u0, u1, u2⟩, hy1⟩, _⟩ := HC3.out W hW
    go_simp
    try with_reducible rfl
  simp only [List.setIfInBounds_toArray, List.set_cons_zero, List.set_cons_succ]
  refine take_to (i := 1) (v := ?_) 68 rfl rfl (by kernel_rfl) (by kernel_rfl) (by kernel_rfl) (fun _ _ _ h => h) (Or.inl ⟨by rfl, ?_⟩) hS ?_
  rotate_left
  · intro W hW
    obtain ⟨⟨⟨⟨⟨k0, k1⟩, l0, l1⟩, ⟨t0, t1, t2⟩, hx1⟩, ⟨u0, u1, u2⟩, hy1⟩, _⟩ := HC3.out W hW
    go_simp
    try with_reducible rfl
  simp only [List.setIfInBounds_toArray, List.set_cons_zero, List.set_cons_succ]
  refine take_to (i := 3) (v := ?_) 70 rfl rfl (by kernel_rfl) (by kernel_rfl) (by kernel_rfl) (fun _ _ _ h => h) (Or.inl ⟨by rfl, ?_⟩) hS ?_
  rotate_left
  · intro W hW
    obtain ⟨⟨⟨⟨⟨k0, k1⟩, l0, l1⟩, ⟨t0, t1, t2⟩, hx1⟩, ⟨u0, u1, u2⟩, hy1⟩, _⟩ := HC3.out W hW
    go_simp
    try with_reducible rfl
  simp only [List.setIfInBounds_toArray, List.set_cons_zero, List.set_cons_succ]
  refine take_to (i := 4) (v := ?_) 71 rfl rfl (by kernel_rfl) (by kernel_rfl) (by kernel_rfl) (fun _ _ _ h => h) (Or.inl ⟨by rfl, ?_⟩) hS ?_
  rotate_left
  · intro W hW
    obtain ⟨⟨⟨⟨⟨k0, k1⟩, l0, l1⟩, ⟨t0, t1, t2⟩, hx1⟩, ⟨u0, u1, u2⟩, hy1⟩, _⟩ := HC3.out W hW
    go_simp
    try with_reducible rfl
  simp only [List.setIfInBounds_toArray, List.set_cons_zero, List.set_cons_succ]
  refine wpAnyH_ready (rs := [2]) (by kernel_rfl) (by simp) ?_
  refine AllReadyH.cons rfl (fun K hK => ?_) AllReadyH.nil
  go_simp
  obtain ⟨⟨⟨_, _, hxx⟩, _, hyy⟩, bw⟩ := HC3.out _ hB1
  refine (sees_is qv HV _ (L0.below bw) (L1.below bw)).mono ?_
  rintro e g1 ⟨rfl, hg1⟩
  replace hg1 := ext_trans hB1 hg1
  clear hxx hyy bw
  refine hK.out _ _ hg1 fun hS => ?_
  clear hK K
  refine wpAnyH_ready (rs := [5]) (by kernel_rfl) (by simp) ?_
  refine AllReadyH.cons rfl (fun K hK => ?_) AllReadyH.nil
  go_simp
  obtain ⟨⟨⟨_, _, hxx⟩, _, hyy⟩, bw⟩ := HC3.out _ hg1
  refine (sees2_is qv Hqv _ (Sm.of hxx HMX.out) (Sm.of hyy HMY.out)).mono ?_
  rintro e g2 ⟨rfl, hg2⟩
  replace hg2 := ext_trans hg1 hg2
  clear hxx hyy bw
  refine hK.out _ _ hg2 fun hS => ?_
  clear hK K
  refine take_to (i := 6) (v := ?_) 73 rfl rfl (by kernel_rfl) (by kernel_rfl) (by kernel_rfl) (fun _ _ _ h => h) (Or.inl ⟨by rfl, ?_⟩) hS ?_
  rotate_left
  · intro W hW
    obtain ⟨⟨⟨⟨⟨k0, k1⟩, l0, l1⟩, ⟨t0, t1, t2⟩, hx1⟩, ⟨u0, u1, u2⟩, hy1⟩, _⟩ := HC3.out W hW
    go_simp
    try with_reducible rfl
  simp only [List.setIfInBounds_toArray, List.set_cons_zero, List.set_cons_succ]
  refine take_to (i := 7) (v := ?_) 74 rfl rfl (by kernel_rfl) (by kernel_rfl) (by kernel_rfl) (fun _ _ _ h => h) (Or.inl ⟨by rfl, ?_⟩) hS ?_
  rotate_left
  · intro W hW
    obtain ⟨⟨⟨⟨⟨k0, k1⟩, l0, l1⟩, ⟨t0, t1, t2⟩, hx1⟩, ⟨u0, u1, u2⟩, hy1⟩, _⟩ := HC3.out W hW
    go_simp
    try with_reducible rfl
  simp only [List.setIfInBounds_toArray, List.set_cons_zero, List.set_cons_succ]
  refine take_to (i := 8) (v := ?_) 75 rfl rfl (by kernel_rfl) (by kernel_rfl) (by kernel_rfl) (fun _ _ _ h => h) (Or.inl ⟨by rfl, ?_⟩) hS ?_
  rotate_left
  · intro W hW
    obtain ⟨⟨⟨⟨⟨k0, k1⟩, l0, l1⟩, ⟨t0, t1, t2⟩, hx1⟩, ⟨u0, u1, u2⟩, hy1⟩, _⟩ := HC3.out W hW
    go_simp
    try with_reducible rfl
  simp only [List.setIfInBounds_toArray, List.set_cons_zero, List.set_cons_succ]
  refine take_to (i := 9) (v := ?_) 76 rfl rfl (by kernel_rfl) (by kernel_rfl) (by kernel_rfl) (fun _ _ _ h => h) (Or.inl ⟨by rfl, ?_⟩) hS ?_
  rotate_left
  · intro W hW
    obtain ⟨⟨⟨⟨⟨k0, k1⟩, l0, l1⟩, ⟨t0, t1, t2⟩, hx1⟩, ⟨u0, u1, u2⟩, hy1⟩, _⟩ := HC3.out W hW
    go_simp
    try with_reducible rfl
  simp only [List.setIfInBounds_toArray, List.set_cons_zero, List.set_cons_succ]
  refine take_to (i := 11) (v := ?_) 78 rfl rfl (by kernel_rfl) (by kernel_rfl) (by kernel_rfl) (fun _ _ _ h => h) (Or.inl ⟨by rfl, ?_⟩) hS ?_
  rotate_left
  · intro W hW
    obtain ⟨⟨⟨⟨⟨k0, k1⟩, l0, l1⟩, ⟨t0, t1, t2⟩, hx1⟩, ⟨u0, u1, u2⟩, hy1⟩, _⟩ := HC3.out W hW
    go_simp
    try with_reducible rfl
  simp only [List.setIfInBounds_toArray, List.set_cons_zero, List.set_cons_succ]
  refine take_to (i := 12) (v := ?_) 79 rfl rfl (by kernel_rfl) (by kernel_rfl) (by kernel_rfl) (fun _ _ _ h => h) (Or.inl ⟨by rfl, ?_⟩) hS ?_
  rotate_left
  · intro W hW
    obtain ⟨⟨⟨⟨⟨k0, k1⟩, l0, l1⟩, ⟨t0, t1, t2⟩, hx1⟩, ⟨u0, u1, u2⟩, hy1⟩, _⟩ := HC3.out W hW
    go_simp
    try with_reducible rfl
  simp only [List.setIfInBounds_toArray, List.set_cons_zero, List.set_cons_succ]
  refine wpAnyH_ready (rs := [10]) (by kernel_rfl) (by simp) ?_
  refine AllReadyH.cons rfl (fun K hK => ?_) AllReadyH.nil
  go_simp
  obtain ⟨⟨⟨_, _, hxx⟩, _, hyy⟩, bw⟩ := HC3.out _ hg2
  refine (turns_is qt HT _ (L0.below bw) (L1.below bw)).mono ?_
  rintro e g3 ⟨rfl, hg3⟩
  replace hg3 := ext_trans hg2 hg3
  clear hxx hyy bw
  refine hK.out _ _ hg3 fun hS => ?_
  clear hK K
  refine wpAnyH_ready (rs := [13]) (by kernel_rfl) (by simp) ?_
  refine AllReadyH.cons rfl (fun K hK => ?_) AllReadyH.nil
  go_simp
  obtain ⟨⟨⟨_, _, hxx⟩, _, hyy⟩, bw⟩ := HC3.out _ hg3
  refine (turns2_is qt Hqt _ (Sm.of hxx HMX.out) (Sm.of hyy HMY.out)).mono ?_
  rintro e g4 ⟨rfl, hg4⟩
  replace hg4 := ext_trans hg3 hg4
  clear hxx hyy bw
  refine hK.out _ _ hg4 fun hS => ?_
  clear hK K
  refine take_to (i := 14) (v := ?_) 81 rfl rfl (by kernel_rfl) (by kernel_rfl) (by kernel_rfl) (fun _ _ _ h => h) (Or.inl ⟨by rfl, ?_⟩) hS ?_
  rotate_left
  · intro W hW
    obtain ⟨⟨⟨⟨⟨k0, k1⟩, l0, l1⟩, ⟨t0, t1, t2⟩, hx1⟩, ⟨u0, u1, u2⟩, hy1⟩, _⟩ := HC3.out W hW
    go_simp
    try with_reducible rfl
  simp only [List.setIfInBounds_toArray, List.set_cons_zero, List.set_cons_succ]
  refine take_to (i := 15) (v := ?_) 82 rfl rfl (by kernel_rfl) (by kernel_rfl) (by kernel_rfl) (fun _ _ _ h => h) (Or.inl ⟨by rfl, ?_⟩) hS ?_
  rotate_left
  · intro W hW
    obtain ⟨⟨⟨⟨⟨k0, k1⟩, l0, l1⟩, ⟨t0, t1, t2⟩, hx1⟩, ⟨u0, u1, u2⟩, hy1⟩, _⟩ := HC3.out W hW
    go_simp
    try with_reducible rfl
  simp only [List.setIfInBounds_toArray, List.set_cons_zero, List.set_cons_succ]
  refine take_to (i := 16) (v := ?_) 4 rfl rfl (by kernel_rfl) (by kernel_rfl) (by kernel_rfl) (fun _ _ _ h => h) (Or.inl ⟨by rfl, ?_⟩) hS ?_
  rotate_left
  · intro W hW
    obtain ⟨⟨⟨⟨⟨k0, k1⟩, l0, l1⟩, ⟨t0, t1, t2⟩, hx1⟩, ⟨u0, u1, u2⟩, hy1⟩, _⟩ := HC3.out W hW
    go_simp
    try with_reducible rfl
  simp only [List.setIfInBounds_toArray, List.set_cons_zero, List.set_cons_succ]
  refine wpAnyH_done (by kernel_rfl) ?_ _
  refine NoPanic.normal ?_
  go_wp2_with fail
  go_ret
  exact ⟨rfl, (HC3.out _ hg4).2⟩
end Go.Proofs.Ytdoemkncgfgkhaa
