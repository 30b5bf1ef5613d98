/- May1All answers true: the walk. -/
import Derived.Test.YtnenljdcgokneaaM1Laws
namespace Go.Proofs.Ytnenljdcgokneaa
open Go.RowKit

set_option maxHeartbeats 8000000 in
theorem may1All_walk (d : Int) (h0d : 0 ≤ d ∧ d < 256) (a1 : Option Addr) (n1 c1 : Nat) (xs : List (Int × Int)) (d' : Int) (h1d : 0 ≤ d' ∧ d' < 256) (a2 : Option Addr) (n2 c2 : Nat) (ys : List (Int × Int)) (w : World) (h0 : RowG PE w a1 n1 c1 xs) (h1 : RowG PE w a2 n2 c2 ys) :
    Calls Try.prog 3 #[.agg #[.int .u8 d, .slice a1 n1 c1], .agg #[.int .u8 d', .slice a2 n2 c2]] w fun e w' => e = .returned (.bool true) ∧ Below w.heap.size w w' := by
  have HC : Hid _ := two_labs w (.int .u8 d) (.slice a1 n1 c1) (.int .u8 d') (.slice a2 n2 c2)
  go_enter Try.func3, Try.ntmps3
  go_wp2_with fail
  refine (begun7_true _).mono ?_
  rintro e w1 ⟨rfl, hb1⟩
  obtain ⟨k00, k01, k10, k11, bw⟩ := HC.out _ hb1
  go_wp2_with fail
  refine (refMay_any d a1 n1 c1 xs _ (h0.below bw)).mono ?_
  rintro e m0 ⟨rfl, hm0⟩
  replace hm0 := ext_trans hb1 hm0
  clear bw k00 k01 k10 k11
  obtain ⟨k00, k01, k10, k11, bw⟩ := HC.out _ hm0
  cases hq0 : mayB d xs
  · go_wp2_with fail
    go_ret
    exact ⟨rfl, bw⟩
  have L0 := may_lb h0d.1 h0 hq0
  clear hq0 hb1
  go_wp2_with fail
  refine (refMay_any d' a2 n2 c2 ys _ (h1.below bw)).mono ?_
  rintro e m1 ⟨rfl, hm1⟩
  replace hm1 := ext_trans hm0 hm1
  clear bw k00 k01 k10 k11
  obtain ⟨k00, k01, k10, k11, bw⟩ := HC.out _ hm1
  cases hq1 : mayB d' ys
  · go_wp2_with fail
    go_ret
    exact ⟨rfl, bw⟩
  have L1 := may_lb h1d.1 h1 hq1
  clear hq1 hm0
  obtain ⟨nb, nbh⟩ : ∃ x, x = nameB d' ys := ⟨_, rfl⟩
  have NBH : Hid (nb = nameB d' ys) := nbh
  clear nbh
  obtain ⟨qs, qsh⟩ := bool_of (FlL d' ys (riseL d) (riseP d xs))
  have QSH : Hid (qs = true ↔ FlL d' ys (riseL d) (riseP d xs)) := qsh
  clear qsh
  obtain ⟨qt, qth⟩ := bool_of (FlL d xs d' ys)
  have QTH : Hid (qt = true ↔ FlL d xs d' ys) := qth
  clear qth
  obtain ⟨er, erh⟩ : ∃ x, x = why (nameB d' ys) (starB d xs (starsL 0 ys)) qt := ⟨_, rfl⟩
  have ERH : Hid (er = why (nameB d' ys) (starB d xs (starsL 0 ys)) qt) := erh
  clear erh
  obtain ⟨em, emh⟩ : ∃ x, x = why (nameB d' ys) (decide (starsL 0 ys = [])) qt := ⟨_, rfl⟩
  have EMH : Hid (em = why (nameB d' ys) (decide (starsL 0 ys = [])) qt) := emh
  clear emh
  have l1 := L1.1.le
  have e1 : (nb == nb) = true := by simp
  have e2 : (qs == qs) = true := by simp
  have e3 : (qt == qt) = true := by simp
  have e4 : (er == er) = true := by simp
  have e5 : (em == em) = true := by simp
  go_wp2_with fail
  obtain ⟨W1, hW1⟩ : ∃ x, x = (w.alloc (Obj.cells #[.int .u8 d, .slice a1 n1 c1] 24)).alloc (Obj.cells #[.int .u8 d', .slice a2 n2 c2] 24) := ⟨_, rfl⟩
  rw [← hW1] at HC hm1
  clear hW1 bw k00 k01 k10 k11
  have hB0 : Below W1.heap.size W1 _ := ext_trans hm1 (ext_drew _)
  refine wp_region_noPanic ?_
  refine wp_region_held_drew (S := fun W => Below W1.heap.size W1 W) (by kernel_rfl) hB0 fun hS => ?_
  refine take_to (i := 0) (v := ?_) 15 rfl rfl (by kernel_rfl) (by kernel_rfl) (by kernel_rfl) (fun _ _ _ h => h) (Or.inl ⟨by rfl, ?_⟩) hS ?_
  rotate_left
  · intro W hW
    obtain ⟨k00, k01, k10, k11, _⟩ := HC.out W hW
    go_simp
    try with_reducible rfl
  simp only [List.setIfInBounds_toArray, List.set_cons_zero, List.set_cons_succ]
  refine take_to (i := 2) (v := ?_) 17 rfl rfl (by kernel_rfl) (by kernel_rfl) (by kernel_rfl) (fun _ _ _ h => h) (Or.inl ⟨by rfl, ?_⟩) hS ?_
  rotate_left
  · intro W hW
    obtain ⟨k00, k01, k10, k11, _⟩ := HC.out W hW
    go_simp
    try with_reducible rfl
  simp only [List.setIfInBounds_toArray, List.set_cons_zero, List.set_cons_succ]
  refine wpAnyH_ready (rs := [1]) (by kernel_rfl) (by simp) ?_
  refine AllReadyH.cons rfl (fun K hK => ?_) AllReadyH.nil
  go_simp
  obtain ⟨_, _, _, _, bw⟩ := HC.out _ hB0
  refine (names_any d' a2 n2 c2 ys _ (L1.1.below bw).row).mono ?_
  rintro e v0 ⟨rfl, hv0⟩
  clear bw
  rw [← NBH.out]
  replace hv0 := ext_trans hB0 hv0
  refine hK.out _ _ hv0 fun hS => ?_
  clear hK K
  refine wpAnyH_ready (rs := [3]) (by kernel_rfl) (by simp) ?_
  refine AllReadyH.cons rfl (fun K hK => ?_) AllReadyH.nil
  go_simp
  obtain ⟨_, _, _, _, bw⟩ := HC.out _ hv0
  refine (refNames_any d' a2 n2 c2 ys _ (L1.1.below bw).row (by omega)).mono ?_
  rintro e v1 ⟨rfl, hv1⟩
  clear bw
  rw [← NBH.out]
  replace hv1 := ext_trans hv0 hv1
  refine hK.out _ _ hv1 fun hS => ?_
  clear hK K
  refine take_to (i := 4) (v := ?_) 19 rfl rfl (by kernel_rfl) (by kernel_rfl) (by kernel_rfl) (fun _ _ _ h => h) (Or.inl ⟨by rfl, ?_⟩) hS ?_
  rotate_left
  · intro W hW
    obtain ⟨k00, k01, k10, k11, _⟩ := HC.out W hW
    go_simp
    try with_reducible rfl
  simp only [List.setIfInBounds_toArray, List.set_cons_zero, List.set_cons_succ]
  refine take_to (i := 5) (v := ?_) 20 rfl rfl (by kernel_rfl) (by kernel_rfl) (by kernel_rfl) (fun _ _ _ h => h) (Or.inl ⟨by rfl, ?_⟩) hS ?_
  rotate_left
  · intro W hW
    obtain ⟨k00, k01, k10, k11, _⟩ := HC.out W hW
    go_simp
    try with_reducible rfl
  simp only [List.setIfInBounds_toArray, List.set_cons_zero, List.set_cons_succ]
  refine take_to (i := 6) (v := ?_) 21 rfl rfl (by kernel_rfl) (by kernel_rfl) (by kernel_rfl) (fun _ _ _ h => h) (Or.inl ⟨by rfl, ?_⟩) hS ?_
  rotate_left
  · intro W hW
    obtain ⟨k00, k01, k10, k11, _⟩ := HC.out W hW
    go_simp
    try with_reducible rfl
  simp only [List.setIfInBounds_toArray, List.set_cons_zero, List.set_cons_succ]
  refine take_to (i := 7) (v := ?_) 22 rfl rfl (by kernel_rfl) (by kernel_rfl) (by kernel_rfl) (fun _ _ _ h => h) (Or.inl ⟨by rfl, ?_⟩) hS ?_
  rotate_left
  · intro W hW
    obtain ⟨k00, k01, k10, k11, _⟩ := HC.out W hW
    go_simp
    try with_reducible rfl
  simp only [List.setIfInBounds_toArray, List.set_cons_zero, List.set_cons_succ]
  refine take_to (i := 9) (v := ?_) 24 rfl rfl (by kernel_rfl) (by kernel_rfl) (by kernel_rfl) (fun _ _ _ h => h) (Or.inl ⟨by rfl, ?_⟩) hS ?_
  rotate_left
  · intro W hW
    obtain ⟨k00, k01, k10, k11, _⟩ := HC.out W hW
    go_simp
    try with_reducible rfl
  simp only [List.setIfInBounds_toArray, List.set_cons_zero, List.set_cons_succ]
  refine take_to (i := 10) (v := ?_) 25 rfl rfl (by kernel_rfl) (by kernel_rfl) (by kernel_rfl) (fun _ _ _ h => h) (Or.inl ⟨by rfl, ?_⟩) hS ?_
  rotate_left
  · intro W hW
    obtain ⟨k00, k01, k10, k11, _⟩ := HC.out W hW
    go_simp
    try with_reducible rfl
  simp only [List.setIfInBounds_toArray, List.set_cons_zero, List.set_cons_succ]
  refine wpAnyH_ready (rs := [8]) (by kernel_rfl) (by simp) ?_
  refine AllReadyH.cons rfl (fun K hK => ?_) AllReadyH.nil
  go_simp
  obtain ⟨_, _, _, _, bw⟩ := HC.out _ hv1
  refine (sees_is qs QSH _ (L0.1.below bw) (L1.1.below bw)).mono ?_
  rintro e v2 ⟨rfl, hv2⟩
  clear bw
  replace hv2 := ext_trans hv1 hv2
  refine hK.out _ _ hv2 fun hS => ?_
  clear hK K
  refine wpAnyH_ready (rs := [11]) (by kernel_rfl) (by simp) ?_
  refine AllReadyH.cons rfl (fun K hK => ?_) AllReadyH.nil
  go_simp
  obtain ⟨_, _, _, _, bw⟩ := HC.out _ hv2
  refine (refSees_is qs QSH _ (L0.1.below bw) (L1.1.below bw)).mono ?_
  rintro e v3 ⟨rfl, hv3⟩
  clear bw
  replace hv3 := ext_trans hv2 hv3
  refine hK.out _ _ hv3 fun hS => ?_
  clear hK K
  refine take_to (i := 12) (v := ?_) 27 rfl rfl (by kernel_rfl) (by kernel_rfl) (by kernel_rfl) (fun _ _ _ h => h) (Or.inl ⟨by rfl, ?_⟩) hS ?_
  rotate_left
  · intro W hW
    obtain ⟨k00, k01, k10, k11, _⟩ := HC.out W hW
    go_simp
    try with_reducible rfl
  simp only [List.setIfInBounds_toArray, List.set_cons_zero, List.set_cons_succ]
  refine take_to (i := 13) (v := ?_) 28 rfl rfl (by kernel_rfl) (by kernel_rfl) (by kernel_rfl) (fun _ _ _ h => h) (Or.inl ⟨by rfl, ?_⟩) hS ?_
  rotate_left
  · intro W hW
    obtain ⟨k00, k01, k10, k11, _⟩ := HC.out W hW
    go_simp
    try with_reducible rfl
  simp only [List.setIfInBounds_toArray, List.set_cons_zero, List.set_cons_succ]
  refine take_to (i := 14) (v := ?_) 29 rfl rfl (by kernel_rfl) (by kernel_rfl) (by kernel_rfl) (fun _ _ _ h => h) (Or.inl ⟨by rfl, ?_⟩) hS ?_
  rotate_left
  · intro W hW
    obtain ⟨k00, k01, k10, k11, _⟩ := HC.out W hW
    go_simp
    try with_reducible rfl
  simp only [List.setIfInBounds_toArray, List.set_cons_zero, List.set_cons_succ]
  refine take_to (i := 15) (v := ?_) 30 rfl rfl (by kernel_rfl) (by kernel_rfl) (by kernel_rfl) (fun _ _ _ h => h) (Or.inl ⟨by rfl, ?_⟩) hS ?_
  rotate_left
  · intro W hW
    obtain ⟨k00, k01, k10, k11, _⟩ := HC.out W hW
    go_simp
    try with_reducible rfl
  simp only [List.setIfInBounds_toArray, List.set_cons_zero, List.set_cons_succ]
  refine take_to (i := 16) (v := ?_) 31 rfl rfl (by kernel_rfl) (by kernel_rfl) (by kernel_rfl) (fun _ _ _ h => h) (Or.inl ⟨by rfl, ?_⟩) hS ?_
  rotate_left
  · intro W hW
    obtain ⟨k00, k01, k10, k11, _⟩ := HC.out W hW
    go_simp
    try with_reducible rfl
  simp only [List.setIfInBounds_toArray, List.set_cons_zero, List.set_cons_succ]
  refine take_to (i := 18) (v := ?_) 33 rfl rfl (by kernel_rfl) (by kernel_rfl) (by kernel_rfl) (fun _ _ _ h => h) (Or.inl ⟨by rfl, ?_⟩) hS ?_
  rotate_left
  · intro W hW
    obtain ⟨k00, k01, k10, k11, _⟩ := HC.out W hW
    go_simp
    try with_reducible rfl
  simp only [List.setIfInBounds_toArray, List.set_cons_zero, List.set_cons_succ]
  refine take_to (i := 19) (v := ?_) 34 rfl rfl (by kernel_rfl) (by kernel_rfl) (by kernel_rfl) (fun _ _ _ h => h) (Or.inl ⟨by rfl, ?_⟩) hS ?_
  rotate_left
  · intro W hW
    obtain ⟨k00, k01, k10, k11, _⟩ := HC.out W hW
    go_simp
    try with_reducible rfl
  simp only [List.setIfInBounds_toArray, List.set_cons_zero, List.set_cons_succ]
  refine wpAnyH_ready (rs := [17]) (by kernel_rfl) (by simp) ?_
  refine AllReadyH.cons rfl (fun K hK => ?_) AllReadyH.nil
  go_simp
  obtain ⟨_, _, _, _, bw⟩ := HC.out _ hv3
  refine (turns_is qt QTH _ (L0.1.below bw) (L1.1.below bw)).mono ?_
  rintro e v4 ⟨rfl, hv4⟩
  clear bw
  replace hv4 := ext_trans hv3 hv4
  refine hK.out _ _ hv4 fun hS => ?_
  clear hK K
  refine wpAnyH_ready (rs := [20]) (by kernel_rfl) (by simp) ?_
  refine AllReadyH.cons rfl (fun K hK => ?_) AllReadyH.nil
  go_simp
  obtain ⟨_, _, _, _, bw⟩ := HC.out _ hv4
  refine (refTurns_is qt QTH _ (L0.1.below bw) (L1.1.below bw)).mono ?_
  rintro e v5 ⟨rfl, hv5⟩
  clear bw
  replace hv5 := ext_trans hv4 hv5
  refine hK.out _ _ hv5 fun hS => ?_
  clear hK K
  refine take_to (i := 21) (v := ?_) 36 rfl rfl (by kernel_rfl) (by kernel_rfl) (by kernel_rfl) (fun _ _ _ h => h) (Or.inl ⟨by rfl, ?_⟩) hS ?_
  rotate_left
  · intro W hW
    obtain ⟨k00, k01, k10, k11, _⟩ := HC.out W hW
    go_simp
    try with_reducible rfl
  simp only [List.setIfInBounds_toArray, List.set_cons_zero, List.set_cons_succ]
  refine take_to (i := 22) (v := ?_) 37 rfl rfl (by kernel_rfl) (by kernel_rfl) (by kernel_rfl) (fun _ _ _ h => h) (Or.inl ⟨by rfl, ?_⟩) hS ?_
  rotate_left
  · intro W hW
    obtain ⟨k00, k01, k10, k11, _⟩ := HC.out W hW
    go_simp
    try with_reducible rfl
  simp only [List.setIfInBounds_toArray, List.set_cons_zero, List.set_cons_succ]
  refine take_to (i := 23) (v := ?_) 38 rfl rfl (by kernel_rfl) (by kernel_rfl) (by kernel_rfl) (fun _ _ _ h => h) (Or.inl ⟨by rfl, ?_⟩) hS ?_
  rotate_left
  · intro W hW
    obtain ⟨k00, k01, k10, k11, _⟩ := HC.out W hW
    go_simp
    try with_reducible rfl
  simp only [List.setIfInBounds_toArray, List.set_cons_zero, List.set_cons_succ]
  refine take_to (i := 24) (v := ?_) 39 rfl rfl (by kernel_rfl) (by kernel_rfl) (by kernel_rfl) (fun _ _ _ h => h) (Or.inl ⟨by rfl, ?_⟩) hS ?_
  rotate_left
  · intro W hW
    obtain ⟨k00, k01, k10, k11, _⟩ := HC.out W hW
    go_simp
    try with_reducible rfl
  simp only [List.setIfInBounds_toArray, List.set_cons_zero, List.set_cons_succ]
  refine take_to (i := 25) (v := ?_) 40 rfl rfl (by kernel_rfl) (by kernel_rfl) (by kernel_rfl) (fun _ _ _ h => h) (Or.inl ⟨by rfl, ?_⟩) hS ?_
  rotate_left
  · intro W hW
    obtain ⟨k00, k01, k10, k11, _⟩ := HC.out W hW
    go_simp
    try with_reducible rfl
  simp only [List.setIfInBounds_toArray, List.set_cons_zero, List.set_cons_succ]
  refine take_to (i := 27) (v := ?_) 42 rfl rfl (by kernel_rfl) (by kernel_rfl) (by kernel_rfl) (fun _ _ _ h => h) (Or.inl ⟨by rfl, ?_⟩) hS ?_
  rotate_left
  · intro W hW
    obtain ⟨k00, k01, k10, k11, _⟩ := HC.out W hW
    go_simp
    try with_reducible rfl
  simp only [List.setIfInBounds_toArray, List.set_cons_zero, List.set_cons_succ]
  refine take_to (i := 28) (v := ?_) 43 rfl rfl (by kernel_rfl) (by kernel_rfl) (by kernel_rfl) (fun _ _ _ h => h) (Or.inl ⟨by rfl, ?_⟩) hS ?_
  rotate_left
  · intro W hW
    obtain ⟨k00, k01, k10, k11, _⟩ := HC.out W hW
    go_simp
    try with_reducible rfl
  simp only [List.setIfInBounds_toArray, List.set_cons_zero, List.set_cons_succ]
  refine wpAnyH_ready (rs := [26]) (by kernel_rfl) (by simp) ?_
  refine AllReadyH.cons rfl (fun K hK => ?_) AllReadyH.nil
  go_simp
  obtain ⟨_, _, _, _, bw⟩ := HC.out _ hv5
  refine (rises_is qt QTH _ (L0.1.below bw) (L1.1.below bw)).mono ?_
  rintro e v6 ⟨rfl, hv6⟩
  clear bw
  rw [← ERH.out]
  replace hv6 := ext_trans hv5 hv6
  refine hK.out _ _ hv6 fun hS => ?_
  clear hK K
  refine wpAnyH_ready (rs := [29]) (by kernel_rfl) (by simp) ?_
  refine AllReadyH.cons rfl (fun K hK => ?_) AllReadyH.nil
  go_simp
  obtain ⟨_, _, _, _, bw⟩ := HC.out _ hv6
  refine (refRises_is qt QTH _ (L0.1.below bw) (L1.1.below bw)).mono ?_
  rintro e v7 ⟨rfl, hv7⟩
  clear bw
  rw [← ERH.out]
  replace hv7 := ext_trans hv6 hv7
  refine hK.out _ _ hv7 fun hS => ?_
  clear hK K
  refine take_to (i := 30) (v := ?_) 45 rfl rfl (by kernel_rfl) (by kernel_rfl) (by kernel_rfl) (fun _ _ _ h => h) (Or.inl ⟨by rfl, ?_⟩) hS ?_
  rotate_left
  · intro W hW
    obtain ⟨k00, k01, k10, k11, _⟩ := HC.out W hW
    go_simp
    try with_reducible rfl
  simp only [List.setIfInBounds_toArray, List.set_cons_zero, List.set_cons_succ]
  refine take_to (i := 31) (v := ?_) 46 rfl rfl (by kernel_rfl) (by kernel_rfl) (by kernel_rfl) (fun _ _ _ h => h) (Or.inl ⟨by rfl, ?_⟩) hS ?_
  rotate_left
  · intro W hW
    obtain ⟨k00, k01, k10, k11, _⟩ := HC.out W hW
    go_simp
    try with_reducible rfl
  simp only [List.setIfInBounds_toArray, List.set_cons_zero, List.set_cons_succ]
  refine take_to (i := 32) (v := ?_) 47 rfl rfl (by kernel_rfl) (by kernel_rfl) (by kernel_rfl) (fun _ _ _ h => h) (Or.inl ⟨by rfl, ?_⟩) hS ?_
  rotate_left
  · intro W hW
    obtain ⟨k00, k01, k10, k11, _⟩ := HC.out W hW
    go_simp
    try with_reducible rfl
  simp only [List.setIfInBounds_toArray, List.set_cons_zero, List.set_cons_succ]
  refine take_to (i := 33) (v := ?_) 48 rfl rfl (by kernel_rfl) (by kernel_rfl) (by kernel_rfl) (fun _ _ _ h => h) (Or.inl ⟨by rfl, ?_⟩) hS ?_
  rotate_left
  · intro W hW
    obtain ⟨k00, k01, k10, k11, _⟩ := HC.out W hW
    go_simp
    try with_reducible rfl
  simp only [List.setIfInBounds_toArray, List.set_cons_zero, List.set_cons_succ]
  refine take_to (i := 34) (v := ?_) 49 rfl rfl (by kernel_rfl) (by kernel_rfl) (by kernel_rfl) (fun _ _ _ h => h) (Or.inl ⟨by rfl, ?_⟩) hS ?_
  rotate_left
  · intro W hW
    obtain ⟨k00, k01, k10, k11, _⟩ := HC.out W hW
    go_simp
    try with_reducible rfl
  simp only [List.setIfInBounds_toArray, List.set_cons_zero, List.set_cons_succ]
  refine take_to (i := 36) (v := ?_) 51 rfl rfl (by kernel_rfl) (by kernel_rfl) (by kernel_rfl) (fun _ _ _ h => h) (Or.inl ⟨by rfl, ?_⟩) hS ?_
  rotate_left
  · intro W hW
    obtain ⟨k00, k01, k10, k11, _⟩ := HC.out W hW
    go_simp
    try with_reducible rfl
  simp only [List.setIfInBounds_toArray, List.set_cons_zero, List.set_cons_succ]
  refine take_to (i := 37) (v := ?_) 52 rfl rfl (by kernel_rfl) (by kernel_rfl) (by kernel_rfl) (fun _ _ _ h => h) (Or.inl ⟨by rfl, ?_⟩) hS ?_
  rotate_left
  · intro W hW
    obtain ⟨k00, k01, k10, k11, _⟩ := HC.out W hW
    go_simp
    try with_reducible rfl
  simp only [List.setIfInBounds_toArray, List.set_cons_zero, List.set_cons_succ]
  refine wpAnyH_ready (rs := [35]) (by kernel_rfl) (by simp) ?_
  refine AllReadyH.cons rfl (fun K hK => ?_) AllReadyH.nil
  go_simp
  obtain ⟨_, _, _, _, bw⟩ := HC.out _ hv7
  refine (makes_is qt QTH _ (L0.1.below bw) (L1.1.below bw)).mono ?_
  rintro e v8 ⟨rfl, hv8⟩
  clear bw
  rw [← EMH.out]
  replace hv8 := ext_trans hv7 hv8
  refine hK.out _ _ hv8 fun hS => ?_
  clear hK K
  refine wpAnyH_ready (rs := [38]) (by kernel_rfl) (by simp) ?_
  refine AllReadyH.cons rfl (fun K hK => ?_) AllReadyH.nil
  go_simp
  obtain ⟨_, _, _, _, bw⟩ := HC.out _ hv8
  refine (refMakes_is qt QTH _ (L0.1.below bw) (L1.1.below bw)).mono ?_
  rintro e v9 ⟨rfl, hv9⟩
  clear bw
  rw [← EMH.out]
  replace hv9 := ext_trans hv8 hv9
  refine hK.out _ _ hv9 fun hS => ?_
  clear hK K
  refine take_to (i := 39) (v := ?_) 54 rfl rfl (by kernel_rfl) (by kernel_rfl) (by kernel_rfl) (fun _ _ _ h => h) (Or.inl ⟨by rfl, ?_⟩) hS ?_
  rotate_left
  · intro W hW
    obtain ⟨k00, k01, k10, k11, _⟩ := HC.out W hW
    go_simp
    try with_reducible rfl
  simp only [List.setIfInBounds_toArray, List.set_cons_zero, List.set_cons_succ]
  refine take_to (i := 40) (v := ?_) 55 rfl rfl (by kernel_rfl) (by kernel_rfl) (by kernel_rfl) (fun _ _ _ h => h) (Or.inl ⟨by rfl, ?_⟩) hS ?_
  rotate_left
  · intro W hW
    obtain ⟨k00, k01, k10, k11, _⟩ := HC.out W hW
    go_simp
    try with_reducible rfl
  simp only [List.setIfInBounds_toArray, List.set_cons_zero, List.set_cons_succ]
  refine take_to (i := 41) (v := ?_) 4 rfl rfl (by kernel_rfl) (by kernel_rfl) (by kernel_rfl) (fun _ _ _ h => h) (Or.inl ⟨by rfl, ?_⟩) hS ?_
  rotate_left
  · intro W hW
    obtain ⟨k00, k01, k10, k11, _⟩ := HC.out W hW
    go_simp
    try with_reducible rfl
  simp only [List.setIfInBounds_toArray, List.set_cons_zero, List.set_cons_succ]
  refine wpAnyH_done (by kernel_rfl) ?_ _
  refine NoPanic.normal ?_
  go_wp2_with fail
  go_ret
  obtain ⟨_, _, _, _, bw⟩ := HC.out _ hv9
  exact ⟨rfl, bw⟩
end Go.Proofs.Ytnenljdcgokneaa
