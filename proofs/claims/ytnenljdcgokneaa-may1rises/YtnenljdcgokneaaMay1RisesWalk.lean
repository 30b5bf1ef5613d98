/- May1Rises answers true: the walk. -/
import Derived.Test.YtnenljdcgokneaaM1Laws
namespace Go.Proofs.Ytnenljdcgokneaa
open Go.RowKit

theorem sub_len {xs ys : List Int} (hn : xs.Nodup) (hs : ∀ c ∈ xs, c ∈ ys) : xs.length ≤ ys.length := by
  induction xs generalizing ys with
  | nil => exact Nat.zero_le _
  | cons x xs ih =>
    have hx : x ∈ ys := hs x (by simp)
    have hn' := List.nodup_cons.1 hn
    have := ih (ys := ys.erase x) hn'.2 fun c hc => (List.mem_erase_of_ne (show c ≠ x by rintro rfl; exact hn'.1 hc)).2 (hs c (by simp [hc]))
    rw [List.length_erase_of_mem hx] at this
    have h0 := List.length_pos_of_mem hx
    simp only [List.length_cons]
    omega
theorem sub_all {xs ys : List Int} (hn : xs.Nodup) (hs : ∀ c ∈ xs, c ∈ ys) (hl : ys.length = xs.length) : ∀ c ∈ ys, c ∈ xs := by
  intro c hc
  by_cases h : c ∈ xs
  · exact h
  · have := sub_len (ys := ys.erase c) hn fun x hx => (List.mem_erase_of_ne (show x ≠ c by rintro rfl; exact h hx)).2 (hs x hx)
    rw [List.length_erase_of_mem hc] at this
    have h0 := List.length_pos_of_mem hc
    omega
theorem stars_mem {xs : List (Int × Int)} {c : Int} : c ∈ starsL 0 xs ↔ (c, 0) ∈ xs := by
  unfold starsL
  simp only [List.mem_map, List.mem_filter, decide_eq_true_eq, Prod.exists, exists_and_right, exists_eq_right]
theorem stars_nodup {xs : List (Int × Int)} (h : UpL xs) : (starsL 0 xs).Nodup := by
  have h1 : (xs.filter fun p => decide (p.2 = 0)).Pairwise fun p q => p.1 < q.1 := List.Pairwise.filter _ h
  exact List.pairwise_map.2 (h1.imp fun h => by omega)
theorem stars_at {d : Int} {xs : List (Int × Int)} (hd : 1 ≤ d) (h : UpL xs) {c : Int} : c ∈ starsL 0 xs ↔ atL d xs c = 0 := by
  rw [stars_mem]
  constructor
  · intro hc; exact atL_mem d h hc
  · intro hc
    rcases atL_any d xs c with h1 | ⟨p, hp, h1, h2⟩
    · omega
    · have : p = (c, 0) := by rw [← h1]; exact Prod.ext rfl (by rw [← h2]; exact hc)
      exact this ▸ hp
/-- Who may rise to l, its stars kept, sees no less then. -/
theorem rise_sees {d d' d3 : Int} {xs ys vs : List (Int × Int)} (hd : 1 ≤ d) (hd' : 1 ≤ d') (hx : UpL xs) (hy : UpL ys) (ly : LvL d' ys) (hs : starB d xs (starsL 0 ys) = true) (hf : FlL d xs d' ys)
    (hl : (starsL 0 xs).length = (starsL 0 ys).length) (hv : FlL d3 vs (riseL d) (riseP d xs)) : FlL d3 vs (riseL d') (riseP d' ys) := by
  have hsub : ∀ c ∈ starsL 0 ys, c ∈ starsL 0 xs := fun c hc => (stars_at hd hx).2 (by simpa using List.all_eq_true.1 hs c hc)
  have hall := sub_all (stars_nodup hy) hsub hl
  intro c
  have h1 := hv c
  rw [rise_at d hx] at h1
  rw [rise_at d' hy]
  by_cases h0 : atL d xs c = 0
  · have h2 : atL d' ys c = 0 := (stars_at hd' hy).1 (hall c ((stars_at hd hx).2 h0))
    rw [h0] at h1
    rw [h2]
    exact h1
  · have h2 := hf c
    have h3 := (atL_lv ly c).1
    rw [riseL, if_neg h0] at h1
    unfold riseL
    split <;> omega
theorem stars_self {d : Int} {xs : List (Int × Int)} (h : UpL xs) : starB d xs (starsL 0 xs) = true :=
  List.all_eq_true.2 fun c hc => by
    rw [decide_eq_true_eq]
    exact atL_mem d h (stars_mem.1 hc)
theorem why_zero {n s q : Bool} (h : why n s q = 0) : n = true ∧ s = true ∧ q = true := by
  cases n <;> cases s <;> cases q <;> simp_all [why]

set_option maxHeartbeats 16000000 in
theorem may1Rises_walk (d : Int) (h0d : 0 ≤ d ∧ d < 256) (a1 : Option Addr) (n1 c1 : Nat) (xs : List (Int × Int)) (d' : Int) (h1d : 0 ≤ d' ∧ d' < 256) (a2 : Option Addr) (n2 c2 : Nat) (ys : List (Int × Int)) (d3 : Int) (h2d : 0 ≤ d3 ∧ d3 < 256) (a3 : Option Addr) (n3 c3 : Nat) (vs : List (Int × Int)) (w : World) (h0 : RowG PE w a1 n1 c1 xs) (h1 : RowG PE w a2 n2 c2 ys) (h2 : RowG PE w a3 n3 c3 vs) :
    Calls Try.prog 5 #[.agg #[.int .u8 d, .slice a1 n1 c1], .agg #[.int .u8 d', .slice a2 n2 c2], .agg #[.int .u8 d3, .slice a3 n3 c3]] w fun e w' => e = .returned (.bool true) ∧ Below w.heap.size w w' := by
  have HC : Hid _ := three_labs w (.int .u8 d) (.slice a1 n1 c1) (.int .u8 d') (.slice a2 n2 c2) (.int .u8 d3) (.slice a3 n3 c3)
  go_enter Try.func5, Try.ntmps5
  go_wp2_with fail
  refine (begun7_true _).mono ?_
  rintro e w1 ⟨rfl, hb1⟩
  obtain ⟨k00, k01, k10, k11, k20, k21, bw⟩ := HC.out _ hb1
  go_wp2_with fail
  refine (refMay_any d a1 n1 c1 xs _ (h0.below bw)).mono ?_
  rintro e m0 ⟨rfl, hm0⟩
  replace hm0 := ext_trans hb1 hm0
  clear bw k00 k01 k10 k11 k20 k21
  obtain ⟨k00, k01, k10, k11, k20, k21, bw⟩ := HC.out _ hm0
  cases hq0 : mayB d xs
  · go_wp2_with fail
    go_ret
    exact ⟨rfl, bw⟩
  have L0 := may_lb h0d.1 h0 hq0
  clear hq0 hb1
  go_wp2_with fail
  refine (refMay_any d' a2 n2 c2 ys _ (h1.below bw)).mono ?_
  rintro e m1 ⟨rfl, hm1⟩
  replace hm1 := ext_trans hm0 hm1
  clear bw k00 k01 k10 k11 k20 k21
  obtain ⟨k00, k01, k10, k11, k20, k21, bw⟩ := HC.out _ hm1
  cases hq1 : mayB d' ys
  · go_wp2_with fail
    go_ret
    exact ⟨rfl, bw⟩
  have L1 := may_lb h1d.1 h1 hq1
  clear hq1 hm0
  go_wp2_with fail
  refine (refMay_any d3 a3 n3 c3 vs _ (h2.below bw)).mono ?_
  rintro e m2 ⟨rfl, hm2⟩
  replace hm2 := ext_trans hm1 hm2
  clear bw k00 k01 k10 k11 k20 k21
  obtain ⟨k00, k01, k10, k11, k20, k21, bw⟩ := HC.out _ hm2
  cases hq2 : mayB d3 vs
  · go_wp2_with fail
    go_ret
    exact ⟨rfl, bw⟩
  have L2 := may_lb h2d.1 h2 hq2
  clear hq2 hm1
  obtain ⟨qm, qmh⟩ := bool_of (FlL d xs d' ys)
  have QMH : Hid (qm = true ↔ FlL d xs d' ys) := qmh
  clear qmh
  obtain ⟨qr, qrh⟩ := bool_of (FlL d' ys d' ys)
  have QRH : Hid (qr = true ↔ FlL d' ys d' ys) := qrh
  clear qrh
  obtain ⟨ql, qlh⟩ := bool_of (FlL d' ys d3 vs)
  have QLH : Hid (ql = true ↔ FlL d' ys d3 vs) := qlh
  clear qlh
  obtain ⟨qt, qth⟩ := bool_of (FlL d xs d3 vs)
  have QTH : Hid (qt = true ↔ FlL d xs d3 vs) := qth
  clear qth
  obtain ⟨qa, qah⟩ := bool_of (FlL d3 vs (riseL d) (riseP d xs))
  have QAH : Hid (qa = true ↔ FlL d3 vs (riseL d) (riseP d xs)) := qah
  clear qah
  obtain ⟨qb, qbh⟩ := bool_of (FlL d3 vs (riseL d') (riseP d' ys))
  have QBH : Hid (qb = true ↔ FlL d3 vs (riseL d') (riseP d' ys)) := qbh
  clear qbh
  obtain ⟨er, erh⟩ : ∃ x, x = why (nameB d' ys) (starB d xs (starsL 0 ys)) qm := ⟨_, rfl⟩
  have ERH : Hid (er = why (nameB d' ys) (starB d xs (starsL 0 ys)) qm) := erh
  clear erh
  have l0 := L0.1.le
  have l1 := L1.1.le
  go_wp2_with fail
  refine (rises_is qm QMH _ (L0.1.below bw) (L1.1.below bw)).mono ?_
  rintro e s1 ⟨rfl, hs1⟩
  rw [← ERH.out]
  replace hs1 := ext_trans hm2 hs1
  clear bw k00 k01 k10 k11 k20 k21
  obtain ⟨k00, k01, k10, k11, k20, k21, bw⟩ := HC.out _ hs1
  by_cases her : er = 0
  rotate_left
  · have her' : (er != 0) = true := by simpa using her
    have her2 : (er == 0) = false := by simpa using her
    go_wp2_with fail
    go_ret
    exact ⟨rfl, bw⟩
  have hw := why_zero (ERH.out.symm.trans her)
  have hfl := QMH.out.1 hw.2.2
  have hqr : qr = true := QRH.out.2 fun c => Int.le_refl _
  have HWL : Hid (why (nameB d' ys) (starB d' ys (starsL 0 ys)) qr = 0) := by
    show why _ _ _ = 0
    rw [hw.1, stars_self L1.1.up, hqr]
    rfl
  have HTL : Hid (ql = true → qt = true) := fun h => QTH.out.2 fun c => Int.le_trans (hfl c) (QLH.out.1 h c)
  have HKP : Hid ((starsL 0 xs).length = (starsL 0 ys).length → qa = true → qb = true) := fun hl h => QBH.out.2 (rise_sees L0.2 L1.2 L0.1.up L1.1.up L1.1.lv hw.2.1 hfl hl (QAH.out.1 h))
  clear hw hfl hqr ERH QMH
  subst her
  go_wp2_with fail
  obtain ⟨W1, hW1⟩ : ∃ x, x = (((w.alloc (Obj.cells #[.int .u8 d, .slice a1 n1 c1] 24)).alloc (Obj.cells #[.int .u8 d', .slice a2 n2 c2] 24)).alloc (Obj.cells #[.int .u8 d3, .slice a3 n3 c3] 24)) := ⟨_, rfl⟩
  rw [← hW1] at HC hs1
  clear hW1 bw k00 k01 k10 k11 k20 k21 hm2
  have hB0 : Below W1.heap.size W1 _ := ext_trans hs1 (ext_drew _)
  refine wp_region_noPanic ?_
  refine wp_region_held_drew (S := fun W => Below W1.heap.size W1 W) (by kernel_rfl) hB0 fun hS => ?_
  refine take_to (i := 0) (v := ?_) 29 rfl rfl (by kernel_rfl) (by kernel_rfl) (by kernel_rfl) (fun _ _ _ h => h) (Or.inl ⟨by rfl, ?_⟩) hS ?_
  rotate_left
  · intro W hW
    obtain ⟨k00, k01, k10, k11, k20, k21, _⟩ := HC.out W hW
    go_simp
    try with_reducible rfl
  simp only [List.setIfInBounds_toArray, List.set_cons_zero, List.set_cons_succ]
  refine take_to (i := 3) (v := ?_) 32 rfl rfl (by kernel_rfl) (by kernel_rfl) (by kernel_rfl) (fun _ _ _ h => h) (Or.inl ⟨by rfl, ?_⟩) hS ?_
  rotate_left
  · intro W hW
    obtain ⟨k00, k01, k10, k11, k20, k21, _⟩ := HC.out W hW
    go_simp
    try with_reducible rfl
  simp only [List.setIfInBounds_toArray, List.set_cons_zero, List.set_cons_succ]
  refine wpAnyH_ready (rs := [1]) (by kernel_rfl) (by simp) ?_
  refine AllReadyH.cons rfl (fun K hK => ?_) AllReadyH.nil
  go_simp
  obtain ⟨_, _, _, _, _, _, bw⟩ := HC.out _ hB0
  refine (levels_any d a1 n1 c1 xs 0 _ (L0.1.below bw).row (by omega)).mono ?_
  rintro e v0 ⟨so0, k, co0, rfl, hown0, hv0⟩
  clear bw
  have hkl : k ≤ 9223372036854775807 := by have := hown0.row.cap_le; omega
  have hkz : Hid ((starsL 0 xs).length = k) := hown0.1
  clear hown0
  replace hv0 := ext_trans hB0 hv0
  refine hK.out _ _ hv0 fun hS => ?_
  clear hK K
  refine take_to (i := 2) (v := ?_) 31 rfl rfl (by kernel_rfl) (by kernel_rfl) (by kernel_rfl) (fun _ _ _ h => h) (Or.inl ⟨by rfl, ?_⟩) hS ?_
  rotate_left
  · intro W hW
    obtain ⟨k00, k01, k10, k11, k20, k21, _⟩ := HC.out W hW
    go_simp
    try with_reducible rfl
  simp only [List.setIfInBounds_toArray, List.set_cons_zero, List.set_cons_succ]
  refine wpAnyH_ready (rs := [4]) (by kernel_rfl) (by simp) ?_
  refine AllReadyH.cons rfl (fun K hK => ?_) AllReadyH.nil
  go_simp
  obtain ⟨_, _, _, _, _, _, bw⟩ := HC.out _ hv0
  refine (levels_any d' a2 n2 c2 ys 0 _ (L1.1.below bw).row (by omega)).mono ?_
  rintro e v1 ⟨so1, m, co1, rfl, hown1, hv1⟩
  clear bw
  have hml : m ≤ 9223372036854775807 := by have := hown1.row.cap_le; omega
  have hmz : Hid ((starsL 0 ys).length = m) := hown1.1
  clear hown1
  replace hv1 := ext_trans hv0 hv1
  refine hK.out _ _ hv1 fun hS => ?_
  clear hK K
  refine take_to (i := 5) (v := ?_) 34 rfl rfl (by kernel_rfl) (by kernel_rfl) (by kernel_rfl) (fun _ _ _ h => h) (Or.inl ⟨by rfl, ?_⟩) hS ?_
  rotate_left
  · intro W hW
    obtain ⟨k00, k01, k10, k11, k20, k21, _⟩ := HC.out W hW
    go_simp
    try with_reducible rfl
  simp only [List.setIfInBounds_toArray, List.set_cons_zero, List.set_cons_succ]
  by_cases hkm : k = m
  · have HKE : Hid ((starsL 0 xs).length = (starsL 0 ys).length) := by
      show _ = _
      rw [hkz.out, hmz.out, hkm]
    have hkm' : ((k : Int) == (m : Int)) = true := by rw [hkm]; simp
    clear hkm
    refine take_to (i := 6) (v := ?_) 35 rfl rfl (by kernel_rfl) (by kernel_rfl) (by kernel_rfl) (fun _ _ _ h => h) (Or.inl ⟨by rfl, ?_⟩) hS ?_
    rotate_left
    · intro W hW
      obtain ⟨k00, k01, k10, k11, k20, k21, _⟩ := HC.out W hW
      go_simp
      try with_reducible rfl
    simp only [List.setIfInBounds_toArray, List.set_cons_zero, List.set_cons_succ]
    refine take_to (i := 7) (v := ?_) 7 rfl rfl (by kernel_rfl) (by kernel_rfl) (by kernel_rfl) (fun _ _ _ h => h) (Or.inl ⟨by rfl, ?_⟩) hS ?_
    rotate_left
    · intro W hW
      obtain ⟨k00, k01, k10, k11, k20, k21, _⟩ := HC.out W hW
      go_simp
      try with_reducible rfl
    simp only [List.setIfInBounds_toArray, List.set_cons_zero, List.set_cons_succ]
    refine wpAnyH_done (by kernel_rfl) ?_ _
    refine NoPanic.normal ?_
    obtain ⟨k00, k01, k10, k11, k20, k21, bw⟩ := HC.out _ hv1
    go_wp2_with fail
    refine (turns_is ql QLH _ (L1.1.below bw) (L2.1.below bw)).mono ?_
    rintro e y1 ⟨rfl, hy1⟩
    replace hy1 := ext_trans hv1 hy1
    clear bw k00 k01 k10 k11 k20 k21
    obtain ⟨k00, k01, k10, k11, k20, k21, bw⟩ := HC.out _ hy1
    cases hql : ql
    · go_wp2_with fail
      refine (sees_is qa QAH _ (L0.1.below bw) (L2.1.below bw)).mono ?_
      rintro e y3 ⟨rfl, hy3⟩
      replace hy3 := ext_trans hy1 hy3
      clear bw k00 k01 k10 k11 k20 k21
      obtain ⟨k00, k01, k10, k11, k20, k21, bw⟩ := HC.out _ hy3
      cases hqa : qa
      · go_wp2_with fail
        refine (rises_is qr QRH _ (L1.1.below bw) (L1.1.below bw)).mono ?_
        rintro e y9 ⟨rfl, hy9⟩
        rw [HWL.out]
        replace hy9 := ext_trans hy3 hy9
        clear bw k00 k01 k10 k11 k20 k21
        obtain ⟨k00, k01, k10, k11, k20, k21, bw⟩ := HC.out _ hy9
        go_wp2_with fail
        go_ret
        exact ⟨rfl, bw⟩
      · go_wp2_with fail
        have hqb : qb = true := HKP.out (Hid.out HKE) hqa
        refine (sees_is qb QBH _ (L1.1.below bw) (L2.1.below bw)).mono ?_
        rintro e y4 ⟨rfl, hy4⟩
        rw [hqb]
        replace hy4 := ext_trans hy3 hy4
        clear bw k00 k01 k10 k11 k20 k21
        obtain ⟨k00, k01, k10, k11, k20, k21, bw⟩ := HC.out _ hy4
        go_wp2_with fail
        refine (rises_is qr QRH _ (L1.1.below bw) (L1.1.below bw)).mono ?_
        rintro e y9 ⟨rfl, hy9⟩
        rw [HWL.out]
        replace hy9 := ext_trans hy4 hy9
        clear bw k00 k01 k10 k11 k20 k21
        obtain ⟨k00, k01, k10, k11, k20, k21, bw⟩ := HC.out _ hy9
        go_wp2_with fail
        go_ret
        exact ⟨rfl, bw⟩
    · have hqt : qt = true := HTL.out hql
      go_wp2_with fail
      refine (turns_is qt QTH _ (L0.1.below bw) (L2.1.below bw)).mono ?_
      rintro e y2 ⟨rfl, hy2⟩
      rw [hqt]
      replace hy2 := ext_trans hy1 hy2
      clear bw k00 k01 k10 k11 k20 k21
      obtain ⟨k00, k01, k10, k11, k20, k21, bw⟩ := HC.out _ hy2
      go_wp2_with fail
      refine (sees_is qa QAH _ (L0.1.below bw) (L2.1.below bw)).mono ?_
      rintro e y3 ⟨rfl, hy3⟩
      replace hy3 := ext_trans hy2 hy3
      clear bw k00 k01 k10 k11 k20 k21
      obtain ⟨k00, k01, k10, k11, k20, k21, bw⟩ := HC.out _ hy3
      cases hqa : qa
      · go_wp2_with fail
        refine (rises_is qr QRH _ (L1.1.below bw) (L1.1.below bw)).mono ?_
        rintro e y9 ⟨rfl, hy9⟩
        rw [HWL.out]
        replace hy9 := ext_trans hy3 hy9
        clear bw k00 k01 k10 k11 k20 k21
        obtain ⟨k00, k01, k10, k11, k20, k21, bw⟩ := HC.out _ hy9
        go_wp2_with fail
        go_ret
        exact ⟨rfl, bw⟩
      · go_wp2_with fail
        have hqb : qb = true := HKP.out (Hid.out HKE) hqa
        refine (sees_is qb QBH _ (L1.1.below bw) (L2.1.below bw)).mono ?_
        rintro e y4 ⟨rfl, hy4⟩
        rw [hqb]
        replace hy4 := ext_trans hy3 hy4
        clear bw k00 k01 k10 k11 k20 k21
        obtain ⟨k00, k01, k10, k11, k20, k21, bw⟩ := HC.out _ hy4
        go_wp2_with fail
        refine (rises_is qr QRH _ (L1.1.below bw) (L1.1.below bw)).mono ?_
        rintro e y9 ⟨rfl, hy9⟩
        rw [HWL.out]
        replace hy9 := ext_trans hy4 hy9
        clear bw k00 k01 k10 k11 k20 k21
        obtain ⟨k00, k01, k10, k11, k20, k21, bw⟩ := HC.out _ hy9
        go_wp2_with fail
        go_ret
        exact ⟨rfl, bw⟩
  · have hkm' : ((k : Int) == (m : Int)) = false := by simp; omega
    refine take_to (i := 6) (v := ?_) 35 rfl rfl (by kernel_rfl) (by kernel_rfl) (by kernel_rfl) (fun _ _ _ h => h) (Or.inl ⟨by rfl, ?_⟩) hS ?_
    rotate_left
    · intro W hW
      obtain ⟨k00, k01, k10, k11, k20, k21, _⟩ := HC.out W hW
      go_simp
      try with_reducible rfl
    simp only [List.setIfInBounds_toArray, List.set_cons_zero, List.set_cons_succ]
    refine take_to (i := 7) (v := ?_) 7 rfl rfl (by kernel_rfl) (by kernel_rfl) (by kernel_rfl) (fun _ _ _ h => h) (Or.inl ⟨by rfl, ?_⟩) hS ?_
    rotate_left
    · intro W hW
      obtain ⟨k00, k01, k10, k11, k20, k21, _⟩ := HC.out W hW
      go_simp
      try with_reducible rfl
    simp only [List.setIfInBounds_toArray, List.set_cons_zero, List.set_cons_succ]
    refine wpAnyH_done (by kernel_rfl) ?_ _
    refine NoPanic.normal ?_
    obtain ⟨k00, k01, k10, k11, k20, k21, bw⟩ := HC.out _ hv1
    go_wp2_with fail
    refine (turns_is ql QLH _ (L1.1.below bw) (L2.1.below bw)).mono ?_
    rintro e y1 ⟨rfl, hy1⟩
    replace hy1 := ext_trans hv1 hy1
    clear bw k00 k01 k10 k11 k20 k21
    obtain ⟨k00, k01, k10, k11, k20, k21, bw⟩ := HC.out _ hy1
    cases hql : ql
    · go_wp2_with fail
      refine (rises_is qr QRH _ (L1.1.below bw) (L1.1.below bw)).mono ?_
      rintro e y9 ⟨rfl, hy9⟩
      rw [HWL.out]
      replace hy9 := ext_trans hy1 hy9
      clear bw k00 k01 k10 k11 k20 k21
      obtain ⟨k00, k01, k10, k11, k20, k21, bw⟩ := HC.out _ hy9
      go_wp2_with fail
      go_ret
      exact ⟨rfl, bw⟩
    · have hqt : qt = true := HTL.out hql
      go_wp2_with fail
      refine (turns_is qt QTH _ (L0.1.below bw) (L2.1.below bw)).mono ?_
      rintro e y2 ⟨rfl, hy2⟩
      rw [hqt]
      replace hy2 := ext_trans hy1 hy2
      clear bw k00 k01 k10 k11 k20 k21
      obtain ⟨k00, k01, k10, k11, k20, k21, bw⟩ := HC.out _ hy2
      go_wp2_with fail
      refine (rises_is qr QRH _ (L1.1.below bw) (L1.1.below bw)).mono ?_
      rintro e y9 ⟨rfl, hy9⟩
      rw [HWL.out]
      replace hy9 := ext_trans hy2 hy9
      clear bw k00 k01 k10 k11 k20 k21
      obtain ⟨k00, k01, k10, k11, k20, k21, bw⟩ := HC.out _ hy9
      go_wp2_with fail
      go_ret
      exact ⟨rfl, bw⟩
end Go.Proofs.Ytnenljdcgokneaa
