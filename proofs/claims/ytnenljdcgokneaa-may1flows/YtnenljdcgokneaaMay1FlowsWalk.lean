/- May1Flows answers true: the walk. -/
import Derived.Test.YtnenljdcgokneaaM1Laws
namespace Go.Proofs.Ytnenljdcgokneaa
open Go.RowKit

set_option maxHeartbeats 8000000 in
theorem may1Flows_walk (d : Int) (h0d : 0 ≤ d ∧ d < 256) (a1 : Option Addr) (n1 c1 : Nat) (xs : List (Int × Int)) (d' : Int) (h1d : 0 ≤ d' ∧ d' < 256) (a2 : Option Addr) (n2 c2 : Nat) (ys : List (Int × Int)) (d3 : Int) (h2d : 0 ≤ d3 ∧ d3 < 256) (a3 : Option Addr) (n3 c3 : Nat) (vs : List (Int × Int)) (c : Int) (w : World) (h0 : RowG PE w a1 n1 c1 xs) (h1 : RowG PE w a2 n2 c2 ys) (h2 : RowG PE w a3 n3 c3 vs) :
    Calls Try.prog 4 #[.agg #[.int .u8 d, .slice a1 n1 c1], .agg #[.int .u8 d', .slice a2 n2 c2], .agg #[.int .u8 d3, .slice a3 n3 c3], .int .u16 c] w fun e w' => e = .returned (.bool true) ∧ Below w.heap.size w w' := by
  have HC : Hid _ := three_labs w (.int .u8 d) (.slice a1 n1 c1) (.int .u8 d') (.slice a2 n2 c2) (.int .u8 d3) (.slice a3 n3 c3)
  go_enter Try.func4, Try.ntmps4
  go_wp2_with fail
  refine (begun7_true _).mono ?_
  rintro e w1 ⟨rfl, hb1⟩
  obtain ⟨k00, k01, k10, k11, k20, k21, bw⟩ := HC.out _ hb1
  go_wp2_with fail
  refine (refMay_any d a1 n1 c1 xs _ (h0.below bw)).mono ?_
  rintro e m0 ⟨rfl, hm0⟩
  replace hm0 := ext_trans hb1 hm0
  clear bw k00 k01 k10 k11 k20 k21
  obtain ⟨k00, k01, k10, k11, k20, k21, bw⟩ := HC.out _ hm0
  cases hq0 : mayB d xs
  · go_wp2_with fail
    go_ret
    exact ⟨rfl, bw⟩
  have L0 := may_lb h0d.1 h0 hq0
  clear hq0 hb1
  go_wp2_with fail
  refine (refMay_any d' a2 n2 c2 ys _ (h1.below bw)).mono ?_
  rintro e m1 ⟨rfl, hm1⟩
  replace hm1 := ext_trans hm0 hm1
  clear bw k00 k01 k10 k11 k20 k21
  obtain ⟨k00, k01, k10, k11, k20, k21, bw⟩ := HC.out _ hm1
  cases hq1 : mayB d' ys
  · go_wp2_with fail
    go_ret
    exact ⟨rfl, bw⟩
  have L1 := may_lb h1d.1 h1 hq1
  clear hq1 hm0
  go_wp2_with fail
  refine (refMay_any d3 a3 n3 c3 vs _ (h2.below bw)).mono ?_
  rintro e m2 ⟨rfl, hm2⟩
  replace hm2 := ext_trans hm1 hm2
  clear bw k00 k01 k10 k11 k20 k21
  obtain ⟨k00, k01, k10, k11, k20, k21, bw⟩ := HC.out _ hm2
  cases hq2 : mayB d3 vs
  · go_wp2_with fail
    go_ret
    exact ⟨rfl, bw⟩
  have L2 := may_lb h2d.1 h2 hq2
  clear hq2 hm1
  obtain ⟨qs, qsh⟩ := bool_of (FlL d' ys (riseL d) (riseP d xs))
  have QSH : Hid (qs = true ↔ FlL d' ys (riseL d) (riseP d xs)) := qsh
  clear qsh
  obtain ⟨qt, qth⟩ := bool_of (FlL d xs d3 vs)
  have QTH : Hid (qt = true ↔ FlL d xs d3 vs) := qth
  clear qth
  obtain ⟨xa, xah⟩ : ∃ x, x = atL d xs c := ⟨_, rfl⟩
  have XAH : Hid (xa = atL d xs c) := xah
  clear xah
  obtain ⟨ya, yah⟩ : ∃ x, x = atL d' ys c := ⟨_, rfl⟩
  have YAH : Hid (ya = atL d' ys c) := yah
  clear yah
  obtain ⟨va, vah⟩ : ∃ x, x = atL d3 vs c := ⟨_, rfl⟩
  have VAH : Hid (va = atL d3 vs c) := vah
  clear vah
  go_wp2_with fail
  refine (sees_is qs QSH _ (L0.1.below bw) (L1.1.below bw)).mono ?_
  rintro e s1 ⟨rfl, hs1⟩
  replace hs1 := ext_trans hm2 hs1
  clear bw k00 k01 k10 k11 k20 k21
  obtain ⟨k00, k01, k10, k11, k20, k21, bw⟩ := HC.out _ hs1
  cases qs
  · go_wp2_with fail
    go_ret
    exact ⟨rfl, bw⟩
  go_wp2_with fail
  refine (turns_is qt QTH _ (L0.1.below bw) (L2.1.below bw)).mono ?_
  rintro e s2 ⟨rfl, hs2⟩
  replace hs2 := ext_trans hs1 hs2
  clear bw k00 k01 k10 k11 k20 k21
  obtain ⟨k00, k01, k10, k11, k20, k21, bw⟩ := HC.out _ hs2
  cases qt
  · go_wp2_with fail
    go_ret
    exact ⟨rfl, bw⟩
  go_wp2_with fail
  refine (refAt_any d a1 n1 c1 xs c _ (L0.1.below bw).row).mono ?_
  rintro e s3 ⟨rfl, hs3⟩
  rw [← XAH.out]
  replace hs3 := ext_trans hs2 hs3
  clear bw k00 k01 k10 k11 k20 k21
  obtain ⟨k00, k01, k10, k11, k20, k21, bw⟩ := HC.out _ hs3
  by_cases hx0 : xa = 0
  · subst hx0
    go_wp2_with fail
    go_ret
    exact ⟨rfl, bw⟩
  have hx1 : (xa == 0) = false := by simpa using hx0
  have e1 : ya ≤ xa := by
    have := QSH.out.1 (by trivial) c
    rw [rise_at d L0.1.up, ← YAH.out, ← XAH.out, riseL, if_neg hx0] at this
    exact this
  have e2 : xa ≤ va := by
    have := QTH.out.1 (by trivial) c
    rw [← VAH.out, ← XAH.out] at this
    exact this
  go_wp2_with fail
  obtain ⟨W1, hW1⟩ : ∃ x, x = (((w.alloc (Obj.cells #[.int .u8 d, .slice a1 n1 c1] 24)).alloc (Obj.cells #[.int .u8 d', .slice a2 n2 c2] 24)).alloc (Obj.cells #[.int .u8 d3, .slice a3 n3 c3] 24)) := ⟨_, rfl⟩
  rw [← hW1] at HC hs3
  clear hW1 bw k00 k01 k10 k11 k20 k21 hs1 hs2 hm2
  have hB0 : Below W1.heap.size W1 _ := ext_trans hs3 (ext_drew _)
  refine wp_region_noPanic ?_
  refine wp_region_held_drew (S := fun W => Below W1.heap.size W1 W) (by kernel_rfl) hB0 fun hS => ?_
  refine take_to (i := 0) (v := ?_) 40 rfl rfl (by kernel_rfl) (by kernel_rfl) (by kernel_rfl) (fun _ _ _ h => h) (Or.inl ⟨by rfl, ?_⟩) hS ?_
  rotate_left
  · intro W hW
    obtain ⟨k00, k01, k10, k11, k20, k21, _⟩ := HC.out W hW
    go_simp
    try with_reducible rfl
  simp only [List.setIfInBounds_toArray, List.set_cons_zero, List.set_cons_succ]
  refine take_to (i := 1) (v := ?_) 41 rfl rfl (by kernel_rfl) (by kernel_rfl) (by kernel_rfl) (fun _ _ _ h => h) (Or.inl ⟨by rfl, ?_⟩) hS ?_
  rotate_left
  · intro W hW
    obtain ⟨k00, k01, k10, k11, k20, k21, _⟩ := HC.out W hW
    go_simp
    try with_reducible rfl
  simp only [List.setIfInBounds_toArray, List.set_cons_zero, List.set_cons_succ]
  refine take_to (i := 3) (v := ?_) 43 rfl rfl (by kernel_rfl) (by kernel_rfl) (by kernel_rfl) (fun _ _ _ h => h) (Or.inl ⟨by rfl, ?_⟩) hS ?_
  rotate_left
  · intro W hW
    obtain ⟨k00, k01, k10, k11, k20, k21, _⟩ := HC.out W hW
    go_simp
    try with_reducible rfl
  simp only [List.setIfInBounds_toArray, List.set_cons_zero, List.set_cons_succ]
  refine take_to (i := 4) (v := ?_) 44 rfl rfl (by kernel_rfl) (by kernel_rfl) (by kernel_rfl) (fun _ _ _ h => h) (Or.inl ⟨by rfl, ?_⟩) hS ?_
  rotate_left
  · intro W hW
    obtain ⟨k00, k01, k10, k11, k20, k21, _⟩ := HC.out W hW
    go_simp
    try with_reducible rfl
  simp only [List.setIfInBounds_toArray, List.set_cons_zero, List.set_cons_succ]
  refine wpAnyH_ready (rs := [2]) (by kernel_rfl) (by simp) ?_
  refine AllReadyH.cons rfl (fun K hK => ?_) AllReadyH.nil
  go_simp
  obtain ⟨_, _, _, _, _, _, bw⟩ := HC.out _ hB0
  refine (refAt_any d' a2 n2 c2 ys c _ (L1.1.below bw).row).mono ?_
  rintro e v0 ⟨rfl, hv0⟩
  clear bw
  rw [← YAH.out]
  replace hv0 := ext_trans hB0 hv0
  refine hK.out _ _ hv0 fun hS => ?_
  clear hK K
  refine wpAnyH_ready (rs := [5]) (by kernel_rfl) (by simp) ?_
  refine AllReadyH.cons rfl (fun K hK => ?_) AllReadyH.nil
  go_simp
  obtain ⟨_, _, _, _, _, _, bw⟩ := HC.out _ hv0
  refine (refAt_any d a1 n1 c1 xs c _ (L0.1.below bw).row).mono ?_
  rintro e v1 ⟨rfl, hv1⟩
  clear bw
  rw [← XAH.out]
  replace hv1 := ext_trans hv0 hv1
  refine hK.out _ _ hv1 fun hS => ?_
  clear hK K
  refine take_to (i := 6) (v := ?_) 46 rfl rfl (by kernel_rfl) (by kernel_rfl) (by kernel_rfl) (fun _ _ _ h => h) (Or.inl ⟨by rfl, ?_⟩) hS ?_
  rotate_left
  · intro W hW
    obtain ⟨k00, k01, k10, k11, k20, k21, _⟩ := HC.out W hW
    go_simp
    try with_reducible rfl
  simp only [List.setIfInBounds_toArray, List.set_cons_zero, List.set_cons_succ]
  refine take_to (i := 7) (v := ?_) 47 rfl rfl (by kernel_rfl) (by kernel_rfl) (by kernel_rfl) (fun _ _ _ h => h) (Or.inl ⟨by rfl, ?_⟩) hS ?_
  rotate_left
  · intro W hW
    obtain ⟨k00, k01, k10, k11, k20, k21, _⟩ := HC.out W hW
    go_simp
    try with_reducible rfl
  simp only [List.setIfInBounds_toArray, List.set_cons_zero, List.set_cons_succ]
  refine take_to (i := 8) (v := ?_) 48 rfl rfl (by kernel_rfl) (by kernel_rfl) (by kernel_rfl) (fun _ _ _ h => h) (Or.inl ⟨by rfl, ?_⟩) hS ?_
  rotate_left
  · intro W hW
    obtain ⟨k00, k01, k10, k11, k20, k21, _⟩ := HC.out W hW
    go_simp
    try with_reducible rfl
  simp only [List.setIfInBounds_toArray, List.set_cons_zero, List.set_cons_succ]
  refine take_to (i := 9) (v := ?_) 49 rfl rfl (by kernel_rfl) (by kernel_rfl) (by kernel_rfl) (fun _ _ _ h => h) (Or.inl ⟨by rfl, ?_⟩) hS ?_
  rotate_left
  · intro W hW
    obtain ⟨k00, k01, k10, k11, k20, k21, _⟩ := HC.out W hW
    go_simp
    try with_reducible rfl
  simp only [List.setIfInBounds_toArray, List.set_cons_zero, List.set_cons_succ]
  refine take_to (i := 11) (v := ?_) 51 rfl rfl (by kernel_rfl) (by kernel_rfl) (by kernel_rfl) (fun _ _ _ h => h) (Or.inl ⟨by rfl, ?_⟩) hS ?_
  rotate_left
  · intro W hW
    obtain ⟨k00, k01, k10, k11, k20, k21, _⟩ := HC.out W hW
    go_simp
    try with_reducible rfl
  simp only [List.setIfInBounds_toArray, List.set_cons_zero, List.set_cons_succ]
  refine take_to (i := 12) (v := ?_) 52 rfl rfl (by kernel_rfl) (by kernel_rfl) (by kernel_rfl) (fun _ _ _ h => h) (Or.inl ⟨by rfl, ?_⟩) hS ?_
  rotate_left
  · intro W hW
    obtain ⟨k00, k01, k10, k11, k20, k21, _⟩ := HC.out W hW
    go_simp
    try with_reducible rfl
  simp only [List.setIfInBounds_toArray, List.set_cons_zero, List.set_cons_succ]
  refine wpAnyH_ready (rs := [10]) (by kernel_rfl) (by simp) ?_
  refine AllReadyH.cons rfl (fun K hK => ?_) AllReadyH.nil
  go_simp
  obtain ⟨_, _, _, _, _, _, bw⟩ := HC.out _ hv1
  refine (refAt_any d a1 n1 c1 xs c _ (L0.1.below bw).row).mono ?_
  rintro e v2 ⟨rfl, hv2⟩
  clear bw
  rw [← XAH.out]
  replace hv2 := ext_trans hv1 hv2
  refine hK.out _ _ hv2 fun hS => ?_
  clear hK K
  refine wpAnyH_ready (rs := [13]) (by kernel_rfl) (by simp) ?_
  refine AllReadyH.cons rfl (fun K hK => ?_) AllReadyH.nil
  go_simp
  obtain ⟨_, _, _, _, _, _, bw⟩ := HC.out _ hv2
  refine (refAt_any d3 a3 n3 c3 vs c _ (L2.1.below bw).row).mono ?_
  rintro e v3 ⟨rfl, hv3⟩
  clear bw
  rw [← VAH.out]
  replace hv3 := ext_trans hv2 hv3
  refine hK.out _ _ hv3 fun hS => ?_
  clear hK K
  refine take_to (i := 14) (v := ?_) 54 rfl rfl (by kernel_rfl) (by kernel_rfl) (by kernel_rfl) (fun _ _ _ h => h) (Or.inl ⟨by rfl, ?_⟩) hS ?_
  rotate_left
  · intro W hW
    obtain ⟨k00, k01, k10, k11, k20, k21, _⟩ := HC.out W hW
    go_simp
    try with_reducible rfl
  simp only [List.setIfInBounds_toArray, List.set_cons_zero, List.set_cons_succ]
  refine take_to (i := 15) (v := ?_) 55 rfl rfl (by kernel_rfl) (by kernel_rfl) (by kernel_rfl) (fun _ _ _ h => h) (Or.inl ⟨by rfl, ?_⟩) hS ?_
  rotate_left
  · intro W hW
    obtain ⟨k00, k01, k10, k11, k20, k21, _⟩ := HC.out W hW
    go_simp
    try with_reducible rfl
  simp only [List.setIfInBounds_toArray, List.set_cons_zero, List.set_cons_succ]
  refine take_to (i := 16) (v := ?_) 8 rfl rfl (by kernel_rfl) (by kernel_rfl) (by kernel_rfl) (fun _ _ _ h => h) (Or.inl ⟨by rfl, ?_⟩) hS ?_
  rotate_left
  · intro W hW
    obtain ⟨k00, k01, k10, k11, k20, k21, _⟩ := HC.out W hW
    go_simp
    try with_reducible rfl
  simp only [List.setIfInBounds_toArray, List.set_cons_zero, List.set_cons_succ]
  refine wpAnyH_done (by kernel_rfl) ?_ _
  refine NoPanic.normal ?_
  go_wp2_with fail
  go_ret
  obtain ⟨_, _, _, _, _, _, bw⟩ := HC.out _ hv3
  exact ⟨rfl, bw⟩
end Go.Proofs.Ytnenljdcgokneaa
