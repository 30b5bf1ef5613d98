/- TransOwns walked: it answers true, and turns nothing that was there. -/
import Derived.Test.YtdoemkncgfgkhaaTr2
import Derived.Test.YtdoemkncgfgkhaaLabSetAt
import Derived.Test.YtdoemkncgfgkhaaLabSet
namespace Go.Proofs.Ytdoemkncgfgkhaa
open Go.RowKit
set_option maxRecDepth 100000

/-- Pairs of one level, by what the label says of a category. -/
theorem stars_at {ps : List (Int × Int)} (h : UpL ps) {v : Int} (hv : v ≠ 2) (c : Int) : c ∈ starsL v ps ↔ atL 2 ps c = v := by
  rw [stars_mem]
  constructor
  · exact fun hp => atL_mem 2 h hp
  · intro e
    rcases atL_any 2 ps c with k | ⟨p, hp, h1, h2⟩
    · omega
    · have : p = (c, v) := by rw [← h1, ← e, h2]
      rwa [← this]
theorem star_lv {xs zs : List (Int × Int)} {c : Int} (hz : CanL 2 zs) (hv : LvL 2 xs) (ha : ∀ c', atL 2 zs c' = if c' = c then 0 else atL 2 xs c') : LvL 2 zs := by
  refine ⟨by omega, fun p hp => ?_⟩
  rw [← atL_mem 2 hz.1 hp, ha]
  split
  · omega
  · rcases atL_any 2 xs p.1 with k | ⟨q, hq, _, h2⟩
    · omega
    · rw [h2]; exact hv.2 q hq
theorem star_split {x y : Sv} {xs zs : List (Int × Int)} {c E : Int} (hB : Bk x.xs x.ys x.zs xs) (hm : MayP x.xs x.ys x.zs) (hz : CanL 2 zs) (ha : ∀ c', atL 2 zs c' = if c' = c then 0 else atL 2 xs c') (hs : SpP 2 zs y E) :
    E = 0 ∧ y.xs = mrg true false false x.xs [c] ∧ y.ys = mrg true false false x.ys [c] ∧ y.zs = mrg true true true x.zs [c] := by
  have hl : ∀ c', atL 2 zs c' = if c' = c then 0 else lvl x.xs x.ys x.zs c' := fun c' => by rw [ha, hB.lv]
  have hn : nameB 2 zs = true := by
    unfold nameB
    rw [decide_eq_true_eq]
    refine ⟨rfl, List.eq_nil_iff_forall_not_mem.2 fun c' hc => ?_⟩
    have e := (stars_at hz.1 (by omega) c').1 hc
    rw [hl] at e
    split at e
    · omega
    · rcases lvl_cases x.xs x.ys x.zs c' with k | k | k | k <;> omega
  obtain ⟨rfl, h1, h2, h3⟩ := hs.ok hn
  refine ⟨rfl, ?_, ?_, ?_⟩
  · rw [h1]
    refine srt_unique (stars_srt _ hz.1) (mrg_srt _ _ _ _ _ hm.1.1 (srt_one c)) fun c' => ?_
    rw [stars_at hz.1 (by omega), hl, less_mem hm.1.1 (srt_one c), List.mem_singleton, ← lvl_four hm]
    split <;> rename_i hc <;> simp [hc]
  · rw [h2]
    refine srt_unique (stars_srt _ hz.1) (mrg_srt _ _ _ _ _ hm.1.2.1 (srt_one c)) fun c' => ?_
    rw [stars_at hz.1 (by omega), hl, less_mem hm.1.2.1 (srt_one c), List.mem_singleton, ← lvl_one hm]
    split <;> rename_i hc <;> simp [hc]
  · rw [h3]
    refine srt_unique (stars_srt _ hz.1) (mrg_srt _ _ _ _ _ hm.1.2.2 (srt_one c)) fun c' => ?_
    rw [stars_at hz.1 (by omega), hl, or_mem hm.1.2.2 (srt_one c), List.mem_singleton, ← lvl_zero (A := x.xs) (B := x.ys)]
    split <;> rename_i hc <;> simp [hc]
set_option maxHeartbeats 8000000 in
theorem transOwns_walk (d : Int) (hd : 0 ≤ d ∧ d < 256) (a : Option Addr) (n cap : Nat) (xs : List (Int × Int)) (c : Int) (hc : 0 ≤ c ∧ c < 65536) (w : World) (hr : RowG PE w a n cap xs) :
    Calls Try.prog 7 #[.agg #[.int .u8 d, .slice a n cap], .int .u16 c] w fun e w' => e = .returned (.bool true) ∧ Below w.heap.size w w' := by
  have HC : Hid _ := one_lab w d a n cap
  go_enter Try.func7, Try.ntmps7
  go_wp2_with fail
  refine (begun11_true _).mono ?_
  rintro e w1 ⟨rfl, hb1⟩
  obtain ⟨⟨k0, k1⟩, bw⟩ := HC.out _ hb1
  go_wp2_with fail
  obtain ⟨mq0, hq0⟩ : ∃ q, mayB d xs = q := ⟨_, rfl⟩
  have HQ0 : Hid (mayB d xs = mq0) := hq0
  clear hq0
  refine (mayL_is mq0 (hr.below bw) HQ0).mono ?_
  rintro e m0 ⟨rfl, hm0⟩
  replace hm0 := ext_trans hb1 hm0
  clear k0 k1 bw
  obtain ⟨⟨k0, k1⟩, bw⟩ := HC.out _ hm0
  cases mq0
  · go_wp2_with fail
    go_ret
    exact ⟨rfl, bw⟩
  have L0 := (may_lb hd.1 hr HQ0.out).1
  clear hb1
  go_wp2_with fail
  refine (split_any d a n cap xs _ (L0.below bw)).mono ?_
  rintro e v1 ⟨x, E, rfl, hx, HS1, hv1⟩
  replace hv1 := ext_trans hm0 hv1
  clear k0 k1 bw
  have HC2 := more_sv x HC hx hv1
  obtain ⟨⟨⟨k0, k1⟩, ⟨t0, t1, t2⟩, hx1⟩, bw⟩ := HC2.out _ (Below.refl _ _)
  obtain ⟨nt, hnt⟩ : ∃ t, nameB d xs = t := ⟨_, rfl⟩
  have HNT : Hid (nameB d xs = nt) := hnt
  clear hnt
  cases nt
  · obtain ⟨rfl, -⟩ := HS1.out.no HNT.out
    go_wp2_with fail
    go_ret
    exact ⟨rfl, bw⟩
  obtain ⟨rfl, -⟩ := HS1.out.ok HNT.out
  obtain ⟨hmx, hbx⟩ := HS1.out.bk HNT.out HQ0.out L0.lv
  have HMX : Hid (MayP x.xs x.ys x.zs) := hmx
  have HBX : Hid (Bk x.xs x.ys x.zs xs) := hbx
  have HD : Hid (d = 2) := (name_two HNT.out).1
  have lx := hmx.len hx1
  clear hmx hbx
  obtain rfl := HD.out
  clear HD
  have HCN : Hid (CanL 2 xs) := HBX.out.can
  have l0 : n ≤ 16 := by have := (mayB_iff.1 HQ0.out).2.1; have := hr.len; omega
  go_wp2_with fail
  clear k0 k1 t0 t1 t2 hx1 bw
  obtain ⟨V1, hV1⟩ : ∃ V, V = v1.alloc (Obj.cells #[.slice x.a1 x.n1 x.c1, .slice x.a2 x.n2 x.c2, .slice x.a3 x.n3 x.c3] 27) := ⟨_, rfl⟩
  rw [← hV1] at HC2 ⊢
  clear hV1 hx hv1 HC HS1
  have hV1 := Below.refl V1.heap.size V1
  obtain ⟨⟨⟨k0, k1⟩, ⟨t0, t1, t2⟩, hx1⟩, bw⟩ := HC2.out _ hV1
  refine (setAt_any 2 (by omega) a n cap xs c 0 hc (by omega) _ (hr.below bw) (by omega)).mono ?_
  rintro e v2 ⟨so2, k2, co2, us, rfl, ho2, hv2, hsrt, hmem⟩
  have hrow2 := ho2.row
  clear ho2 hsrt hmem
  replace hv2 := ext_trans hV1 hv2
  clear k0 k1 t0 t1 t2 hx1 bw
  obtain ⟨⟨⟨k0, k1⟩, ⟨t0, t1, t2⟩, hx1⟩, bw⟩ := HC2.out _ hv2
  go_wp2_with fail
  obtain ⟨mq2, hq2⟩ : ∃ q, mayB 2 (mkP 2 (xs ++ [(c, 0)]) us) = q := ⟨_, rfl⟩
  have HQ2 : Hid (mayB 2 (mkP 2 (xs ++ [(c, 0)]) us) = mq2) := hq2
  clear hq2
  refine (mayL_is mq2 hrow2 HQ2).mono ?_
  rintro e v3 ⟨rfl, hv3⟩
  replace hv3 := ext_trans hv2 hv3
  clear k0 k1 t0 t1 t2 hx1 bw
  obtain ⟨⟨⟨k0, k1⟩, ⟨t0, t1, t2⟩, hx1⟩, bw⟩ := HC2.out _ hv3
  cases mq2
  · go_wp2_with fail
    go_ret
    exact ⟨rfl, bw⟩
  clear hrow2 HQ2
  go_wp2_with fail
  refine (set_any 2 a n cap xs c 0 hc (by omega) _ (hr.below bw) HCN.out (by omega)).mono ?_
  rintro e v4 ⟨so4, k4, co4, zs, rfl, ho4, hv4, hcan4, hat4, hk4⟩
  have L4 : Lb v4 2 so4 k4 co4 zs := ⟨ho4.row, star_lv hcan4 L0.lv hat4, hcan4.1, by omega⟩
  have HA4 : Hid (CanL 2 zs ∧ ∀ c', atL 2 zs c' = if c' = c then 0 else atL 2 xs c') := ⟨hcan4, hat4⟩
  clear ho4 hcan4 hat4 hk4
  replace hv4 := ext_trans hv3 hv4
  clear k0 k1 t0 t1 t2 hx1 bw
  obtain ⟨⟨⟨k0, k1⟩, ⟨t0, t1, t2⟩, hx1⟩, bw⟩ := HC2.out _ hv4
  go_wp2_with fail
  refine (split_any 2 so4 k4 co4 _ _ L4).mono ?_
  rintro e v5 ⟨y, G, rfl, hy, HS2, hv5⟩
  replace hv5 := ext_trans hv4 hv5
  clear k0 k1 t0 t1 t2 hx1 bw
  have HC3 := more_sv y HC2 hy hv5
  obtain ⟨⟨⟨⟨k0, k1⟩, ⟨t0, t1, t2⟩, hx1⟩, ⟨u0, u1, u2⟩, hy1⟩, bw⟩ := HC3.out _ (Below.refl _ _)
  obtain ⟨rfl, hy2, hy3, hy4⟩ := star_split HBX.out HMX.out HA4.out.1 HA4.out.2 HS2.out
  have HY : Hid (y.xs = mrg true false false x.xs [c] ∧ y.ys = mrg true false false x.ys [c] ∧ y.zs = mrg true true true x.zs [c]) := ⟨hy2, hy3, hy4⟩
  clear hy2 hy3 hy4 HS2
  go_wp2_with fail
  clear k0 k1 t0 t1 t2 hx1 u0 u1 u2 hy1 bw
  obtain ⟨V2, hV2⟩ : ∃ V, V = v5.alloc (Obj.cells #[.slice y.a1 y.n1 y.c1, .slice y.a2 y.n2 y.c2, .slice y.a3 y.n3 y.c3] 27) := ⟨_, rfl⟩
  rw [← hV2] at HC3 ⊢
  clear hV2 hy hv5 HC2
  have hV2 := Below.refl V2.heap.size V2
  have hB0 : Below V2.heap.size V2 V2.drew := ext_drew _
  clear hV2
  refine wp_region_noPanic ?_
  refine wp_region_held_drew (S := fun W => Below V2.heap.size V2 W) (by kernel_rfl) hB0 fun hS => ?_
  refine take_to (i := 0) (v := ?_) 35 rfl rfl (by kernel_rfl) (by kernel_rfl) (by kernel_rfl) (fun _ _ _ h => h) (Or.inl ⟨by rfl, ?_⟩) hS ?_
  rotate_left
  · intro W hW
    obtain ⟨⟨⟨⟨k0, k1⟩, ⟨t0, t1, t2⟩, hx1⟩, ⟨u0, u1, u2⟩, hy1⟩, _⟩ := HC3.out W hW
    go_simp
    try with_reducible rfl
  simp only [List.setIfInBounds_toArray, List.set_cons_zero, List.set_cons_succ]
  refine take_to (i := 1) (v := ?_) 36 rfl rfl (by kernel_rfl) (by kernel_rfl) (by kernel_rfl) (fun _ _ _ h => h) (Or.inl ⟨by rfl, ?_⟩) hS ?_
  rotate_left
  · intro W hW
    obtain ⟨⟨⟨⟨k0, k1⟩, ⟨t0, t1, t2⟩, hx1⟩, ⟨u0, u1, u2⟩, hy1⟩, _⟩ := HC3.out W hW
    go_simp
    try with_reducible rfl
  simp only [List.setIfInBounds_toArray, List.set_cons_zero, List.set_cons_succ]
  refine take_to (i := 2) (v := ?_) 37 rfl rfl (by kernel_rfl) (by kernel_rfl) (by kernel_rfl) (fun _ _ _ h => h) (Or.inl ⟨by rfl, ?_⟩) hS ?_
  rotate_left
  · intro W hW
    obtain ⟨⟨⟨⟨k0, k1⟩, ⟨t0, t1, t2⟩, hx1⟩, ⟨u0, u1, u2⟩, hy1⟩, _⟩ := HC3.out W hW
    go_simp
    try with_reducible rfl
  simp only [List.setIfInBounds_toArray, List.set_cons_zero, List.set_cons_succ]
  refine take_to (i := 3) (v := ?_) 38 rfl rfl (by kernel_rfl) (by kernel_rfl) (by kernel_rfl) (fun _ _ _ h => h) (Or.inl ⟨by rfl, ?_⟩) hS ?_
  rotate_left
  · intro W hW
    obtain ⟨⟨⟨⟨k0, k1⟩, ⟨t0, t1, t2⟩, hx1⟩, ⟨u0, u1, u2⟩, hy1⟩, _⟩ := HC3.out W hW
    go_simp
    try with_reducible rfl
  simp only [List.setIfInBounds_toArray, List.set_cons_zero, List.set_cons_succ]
  refine take_to (i := 4) (v := ?_) 39 rfl rfl (by kernel_rfl) (by kernel_rfl) (by kernel_rfl) (fun _ _ _ h => h) (Or.inl ⟨by rfl, ?_⟩) hS ?_
  rotate_left
  · intro W hW
    obtain ⟨⟨⟨⟨k0, k1⟩, ⟨t0, t1, t2⟩, hx1⟩, ⟨u0, u1, u2⟩, hy1⟩, _⟩ := HC3.out W hW
    go_simp
    try with_reducible rfl
  simp only [List.setIfInBounds_toArray, List.set_cons_zero, List.set_cons_succ]
  refine take_to (i := 5) (v := ?_) 40 rfl rfl (by kernel_rfl) (by kernel_rfl) (by kernel_rfl) (fun _ _ _ h => h) (Or.inl ⟨by rfl, ?_⟩) hS ?_
  rotate_left
  · intro W hW
    obtain ⟨⟨⟨⟨k0, k1⟩, ⟨t0, t1, t2⟩, hx1⟩, ⟨u0, u1, u2⟩, hy1⟩, _⟩ := HC3.out W hW
    go_simp
    try with_reducible rfl
  simp only [List.setIfInBounds_toArray, List.set_cons_zero, List.set_cons_succ]
  refine wpAnyH_ready (rs := [6]) (by kernel_rfl) (by simp) ?_
  refine AllReadyH.cons rfl (fun K hK => ?_) AllReadyH.nil
  go_simp
  obtain ⟨⟨⟨_, _, hxx⟩, _, hyy⟩, bw⟩ := HC3.out _ hB0
  refine (addS_any x c hc _ hxx (by omega) (by omega) (by omega)).mono ?_
  rintro e g1 ⟨j, rfl, hjj, hjl, -, hg1⟩
  have HJ : Hid (y.same j = true) := (Sv.same_iff _ _).2 ⟨HY.out.1.trans hjl.1.symm, HY.out.2.1.trans hjl.2.1.symm, HY.out.2.2.trans hjl.2.2.symm⟩
  clear hjl
  replace hg1 := ext_trans hB0 hg1
  clear hxx hyy bw
  refine hK.out _ _ hg1 fun hS => ?_
  clear hK K
  refine wpAnyH_ready (rs := [7]) (by kernel_rfl) (by simp) ?_
  refine AllReadyH.cons rfl (fun K hK => ?_) AllReadyH.nil
  go_simp
  obtain ⟨⟨⟨_, _, hxx⟩, _, hyy⟩, bw⟩ := HC3.out _ hg1
  refine (refSame_is true hyy hjj HJ).mono ?_
  rintro e g2 ⟨rfl, hg2⟩
  replace hg2 := ext_trans hg1 hg2
  clear hxx hyy bw
  refine hK.out _ _ hg2 fun hS => ?_
  clear hK K
  refine take_to (i := 8) (v := ?_) 43 rfl rfl (by kernel_rfl) (by kernel_rfl) (by kernel_rfl) (fun _ _ _ h => h) (Or.inl ⟨by rfl, ?_⟩) hS ?_
  rotate_left
  · intro W hW
    obtain ⟨⟨⟨⟨k0, k1⟩, ⟨t0, t1, t2⟩, hx1⟩, ⟨u0, u1, u2⟩, hy1⟩, _⟩ := HC3.out W hW
    go_simp
    try with_reducible rfl
  simp only [List.setIfInBounds_toArray, List.set_cons_zero, List.set_cons_succ]
  refine take_to (i := 9) (v := ?_) 4 rfl rfl (by kernel_rfl) (by kernel_rfl) (by kernel_rfl) (fun _ _ _ h => h) (Or.inl ⟨by rfl, ?_⟩) hS ?_
  rotate_left
  · intro W hW
    obtain ⟨⟨⟨⟨k0, k1⟩, ⟨t0, t1, t2⟩, hx1⟩, ⟨u0, u1, u2⟩, hy1⟩, _⟩ := HC3.out W hW
    go_simp
    try with_reducible rfl
  simp only [List.setIfInBounds_toArray, List.set_cons_zero, List.set_cons_succ]
  refine wpAnyH_done (by kernel_rfl) ?_ _
  refine NoPanic.normal ?_
  go_wp2_with fail
  go_ret
  exact ⟨rfl, (HC3.out _ hg2).2⟩
end Go.Proofs.Ytdoemkncgfgkhaa
