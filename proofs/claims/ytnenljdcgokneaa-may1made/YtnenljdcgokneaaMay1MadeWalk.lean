/- May1Made answers true: the walk. -/
import Derived.Test.YtnenljdcgokneaaM1Laws
namespace Go.Proofs.Ytnenljdcgokneaa
open Go.RowKit

theorem why_made {n s s0 q : Bool} (hs : s0 = true → s = true) : (why n s0 q = 0 → q = true ∧ why n s q = 0) ∧ (s0 = true → why n s0 q = why n s q) := by
  cases n <;> cases s <;> cases s0 <;> cases q <;> simp_all [why]

set_option maxHeartbeats 8000000 in
theorem may1Made_walk (d : Int) (h0d : 0 ≤ d ∧ d < 256) (a1 : Option Addr) (n1 c1 : Nat) (xs : List (Int × Int)) (d' : Int) (h1d : 0 ≤ d' ∧ d' < 256) (a2 : Option Addr) (n2 c2 : Nat) (ys : List (Int × Int)) (w : World) (h0 : RowG PE w a1 n1 c1 xs) (h1 : RowG PE w a2 n2 c2 ys) :
    Calls Try.prog 7 #[.agg #[.int .u8 d, .slice a1 n1 c1], .agg #[.int .u8 d', .slice a2 n2 c2]] w fun e w' => e = .returned (.bool true) ∧ Below w.heap.size w w' := by
  have HC : Hid _ := two_labs w (.int .u8 d) (.slice a1 n1 c1) (.int .u8 d') (.slice a2 n2 c2)
  go_enter Try.func7, Try.ntmps7
  go_wp2_with fail
  refine (begun7_true _).mono ?_
  rintro e w1 ⟨rfl, hb1⟩
  obtain ⟨k00, k01, k10, k11, bw⟩ := HC.out _ hb1
  go_wp2_with fail
  refine (refMay_any d a1 n1 c1 xs _ (h0.below bw)).mono ?_
  rintro e m0 ⟨rfl, hm0⟩
  replace hm0 := ext_trans hb1 hm0
  clear bw k00 k01 k10 k11
  obtain ⟨k00, k01, k10, k11, bw⟩ := HC.out _ hm0
  cases hq0 : mayB d xs
  · go_wp2_with fail
    go_ret
    exact ⟨rfl, bw⟩
  have L0 := may_lb h0d.1 h0 hq0
  clear hq0 hb1
  go_wp2_with fail
  refine (refMay_any d' a2 n2 c2 ys _ (h1.below bw)).mono ?_
  rintro e m1 ⟨rfl, hm1⟩
  replace hm1 := ext_trans hm0 hm1
  clear bw k00 k01 k10 k11
  obtain ⟨k00, k01, k10, k11, bw⟩ := HC.out _ hm1
  cases hq1 : mayB d' ys
  · go_wp2_with fail
    go_ret
    exact ⟨rfl, bw⟩
  have L1 := may_lb h1d.1 h1 hq1
  clear hq1 hm0
  obtain ⟨qt, qth⟩ := bool_of (FlL d xs d' ys)
  have QTH : Hid (qt = true ↔ FlL d xs d' ys) := qth
  clear qth
  obtain ⟨er, erh⟩ : ∃ x, x = why (nameB d' ys) (starB d xs (starsL 0 ys)) qt := ⟨_, rfl⟩
  have ERH : Hid (er = why (nameB d' ys) (starB d xs (starsL 0 ys)) qt) := erh
  clear erh
  obtain ⟨em, emh⟩ : ∃ x, x = why (nameB d' ys) (decide (starsL 0 ys = [])) qt := ⟨_, rfl⟩
  have EMH : Hid (em = why (nameB d' ys) (decide (starsL 0 ys = [])) qt) := emh
  clear emh
  have HW : Hid ((em = 0 → qt = true ∧ er = 0) ∧ (decide (starsL 0 ys = []) = true → em = er)) := by
    rw [ERH.out, EMH.out]
    exact why_made (fun h => by rw [of_decide_eq_true h]; rfl)
  have l1 := L1.1.le
  go_wp2_with fail
  obtain ⟨W1, hW1⟩ : ∃ x, x = (w.alloc (Obj.cells #[.int .u8 d, .slice a1 n1 c1] 24)).alloc (Obj.cells #[.int .u8 d', .slice a2 n2 c2] 24) := ⟨_, rfl⟩
  rw [← hW1] at HC hm1
  clear hW1 bw k00 k01 k10 k11
  have hB0 : Below W1.heap.size W1 _ := ext_trans hm1 (ext_drew _)
  refine wp_region_noPanic ?_
  refine wp_region_held_drew (S := fun W => Below W1.heap.size W1 W) (by kernel_rfl) hB0 fun hS => ?_
  refine take_to (i := 0) (v := ?_) 17 rfl rfl (by kernel_rfl) (by kernel_rfl) (by kernel_rfl) (fun _ _ _ h => h) (Or.inl ⟨by rfl, ?_⟩) hS ?_
  rotate_left
  · intro W hW
    obtain ⟨k00, k01, k10, k11, _⟩ := HC.out W hW
    go_simp
    try with_reducible rfl
  simp only [List.setIfInBounds_toArray, List.set_cons_zero, List.set_cons_succ]
  refine take_to (i := 1) (v := ?_) 18 rfl rfl (by kernel_rfl) (by kernel_rfl) (by kernel_rfl) (fun _ _ _ h => h) (Or.inl ⟨by rfl, ?_⟩) hS ?_
  rotate_left
  · intro W hW
    obtain ⟨k00, k01, k10, k11, _⟩ := HC.out W hW
    go_simp
    try with_reducible rfl
  simp only [List.setIfInBounds_toArray, List.set_cons_zero, List.set_cons_succ]
  refine take_to (i := 3) (v := ?_) 20 rfl rfl (by kernel_rfl) (by kernel_rfl) (by kernel_rfl) (fun _ _ _ h => h) (Or.inl ⟨by rfl, ?_⟩) hS ?_
  rotate_left
  · intro W hW
    obtain ⟨k00, k01, k10, k11, _⟩ := HC.out W hW
    go_simp
    try with_reducible rfl
  simp only [List.setIfInBounds_toArray, List.set_cons_zero, List.set_cons_succ]
  refine take_to (i := 4) (v := ?_) 21 rfl rfl (by kernel_rfl) (by kernel_rfl) (by kernel_rfl) (fun _ _ _ h => h) (Or.inl ⟨by rfl, ?_⟩) hS ?_
  rotate_left
  · intro W hW
    obtain ⟨k00, k01, k10, k11, _⟩ := HC.out W hW
    go_simp
    try with_reducible rfl
  simp only [List.setIfInBounds_toArray, List.set_cons_zero, List.set_cons_succ]
  refine wpAnyH_ready (rs := [2]) (by kernel_rfl) (by simp) ?_
  refine AllReadyH.cons rfl (fun K hK => ?_) AllReadyH.nil
  go_simp
  obtain ⟨_, _, _, _, bw⟩ := HC.out _ hB0
  refine (makes_is qt QTH _ (L0.1.below bw) (L1.1.below bw)).mono ?_
  rintro e v0 ⟨rfl, hv0⟩
  clear bw
  rw [← EMH.out]
  replace hv0 := ext_trans hB0 hv0
  refine hK.out _ _ hv0 fun hS => ?_
  clear hK K
  refine wpAnyH_ready (rs := [5]) (by kernel_rfl) (by simp) ?_
  refine AllReadyH.cons rfl (fun K hK => ?_) AllReadyH.nil
  go_simp
  obtain ⟨_, _, _, _, bw⟩ := HC.out _ hv0
  refine (rises_is qt QTH _ (L0.1.below bw) (L1.1.below bw)).mono ?_
  rintro e v1 ⟨rfl, hv1⟩
  clear bw
  rw [← ERH.out]
  replace hv1 := ext_trans hv0 hv1
  refine hK.out _ _ hv1 fun hS => ?_
  clear hK K
  refine take_to (i := 6) (v := ?_) 5 rfl rfl (by kernel_rfl) (by kernel_rfl) (by kernel_rfl) (fun _ _ _ h => h) (Or.inl ⟨by rfl, ?_⟩) hS ?_
  rotate_left
  · intro W hW
    obtain ⟨k00, k01, k10, k11, _⟩ := HC.out W hW
    go_simp
    try with_reducible rfl
  simp only [List.setIfInBounds_toArray, List.set_cons_zero, List.set_cons_succ]
  refine take_to (i := 7) (v := ?_) 6 rfl rfl (by kernel_rfl) (by kernel_rfl) (by kernel_rfl) (fun _ _ _ h => h) (Or.inl ⟨by rfl, ?_⟩) hS ?_
  rotate_left
  · intro W hW
    obtain ⟨k00, k01, k10, k11, _⟩ := HC.out W hW
    go_simp
    try with_reducible rfl
  simp only [List.setIfInBounds_toArray, List.set_cons_zero, List.set_cons_succ]
  refine wpAnyH_done (by kernel_rfl) ?_ _
  refine NoPanic.normal ?_
  obtain ⟨k00, k01, k10, k11, bw⟩ := HC.out _ hv1
  by_cases hem : em = 0
  · obtain ⟨hqt, her⟩ := HW.out.1 hem
    subst hem her
    go_wp2_with fail
    refine (turns_is qt QTH _ (L0.1.below bw) (L1.1.below bw)).mono ?_
    rintro e v8 ⟨rfl, hv8⟩
    rw [hqt]
    replace hv8 := ext_trans hv1 hv8
    clear bw k00 k01 k10 k11
    obtain ⟨k00, k01, k10, k11, bw⟩ := HC.out _ hv8
    go_wp2_with fail
    refine (levels_any d' a2 n2 c2 ys 0 _ (L1.1.below bw).row (by omega)).mono ?_
    rintro e v9 ⟨so, k, co, rfl, hown, hv9⟩
    replace hv9 := ext_trans hv8 hv9
    obtain ⟨_, _, _, _, bw9⟩ := HC.out _ hv9
    have hkl : k ≤ 9223372036854775807 := by have := hown.row.cap_le; omega
    clear hown
    by_cases hk : 0 < k
    · have hk' : (0 : Int) < (k : Int) := by omega
      go_wp2_with fail
      go_ret
      exact ⟨rfl, bw9⟩
    · obtain rfl : k = 0 := by omega
      go_wp2_with fail
      go_ret
      exact ⟨rfl, bw9⟩
  · have hem' : (em == 0) = false := by simpa using hem
    go_wp2_with fail
    refine (levels_any d' a2 n2 c2 ys 0 _ (L1.1.below bw).row (by omega)).mono ?_
    rintro e v9 ⟨so, k, co, rfl, hown, hv9⟩
    replace hv9 := ext_trans hv1 hv9
    obtain ⟨_, _, _, _, bw9⟩ := HC.out _ hv9
    have hkl : k ≤ 9223372036854775807 := by have := hown.row.cap_le; omega
    have hkz : Hid ((starsL 0 ys).length = k) := hown.1
    clear hown
    by_cases hk : 0 < k
    · have hk' : (0 : Int) < (k : Int) := by omega
      go_wp2_with fail
      go_ret
      exact ⟨rfl, bw9⟩
    · obtain rfl : k = 0 := by omega
      have hee : em = er := HW.out.2 (decide_eq_true (List.eq_nil_of_length_eq_zero hkz.out))
      subst hee
      go_wp2_with fail
      go_ret
      exact ⟨by simp, bw9⟩
end Go.Proofs.Ytnenljdcgokneaa
