/- LabelAll answers true: the walk. -/
import Derived.Test.YtgpndbfefbdibaaLabelRisesWalk
import Derived.Test.YtgpndbfefbdibaaLabRiseAll
import Derived.Test.YtgpndbfefbdibaaLabRefFlows
namespace Go.Proofs.Ytgpndbfefbdibaa
open Go.RowKit

set_option maxHeartbeats 8000000 in
theorem labelAll_walk (d1 : Int) (hd1 : 0 ≤ d1 ∧ d1 < 256) (a1 : Option Addr) (n1 c1 : Nat) (xs : List (Int × Int)) (d2 : Int) (hd2 : 0 ≤ d2 ∧ d2 < 256) (a2 : Option Addr) (n2 c2 : Nat) (ys : List (Int × Int)) (w : World) (hr : RowG PE w a1 n1 c1 xs) (hs : RowG PE w a2 n2 c2 ys) :
    Calls Try.prog 4 #[.agg #[.int .u8 d1, .slice a1 n1 c1], .agg #[.int .u8 d2, .slice a2 n2 c2]] w fun e w' => e = .returned (.bool true) ∧ Below w.heap.size w w' := by
  have hl1 := hr.len
  have hl2 := hs.len
  have h0 := two_allocs w (.cells #[.int .u8 d1, .slice a1 n1 c1] 24) (.cells #[.int .u8 d2, .slice a2 n2 c2] 24)
  have HK : Hid (∀ W, Below ((w.alloc (.cells #[.int .u8 d1, .slice a1 n1 c1] 24)).alloc (.cells #[.int .u8 d2, .slice a2 n2 c2] 24)).heap.size ((w.alloc (.cells #[.int .u8 d1, .slice a1 n1 c1] 24)).alloc (.cells #[.int .u8 d2, .slice a2 n2 c2] 24)) W → W.cell? ⟨w.heap.size, 0, none⟩ = some (.int .u8 d1) ∧ W.cell? ⟨w.heap.size, 1, none⟩ = some (.slice a1 n1 c1) ∧ W.cell? ⟨w.heap.size + 1, 0, none⟩ = some (.int .u8 d2) ∧ W.cell? ⟨w.heap.size + 1, 1, none⟩ = some (.slice a2 n2 c2) ∧ RowG PE W a1 n1 c1 xs ∧ RowG PE W a2 n2 c2 ys ∧ Below w.heap.size w W) := fun W h =>
    ⟨by rw [h.cell (by simp <;> omega)]; simp, by rw [h.cell (by simp <;> omega)]; simp, by rw [h.cell (by simp)]; simp, by rw [h.cell (by simp)]; simp, hr.below (ext_trans h0 h), hs.below (ext_trans h0 h), ext_trans h0 h⟩
  go_enter Try.func4, Try.ntmps4
  go_wp2_with fail
  refine (begun_true _).mono ?_
  rintro e w1 ⟨rfl, hb1⟩
  obtain ⟨e0, e1, e2, e3, rx1, ry1, _⟩ := HK.out _ hb1
  go_wp2_with fail
  refine (light_any d1 a1 n1 c1 xs _ rx1).mono ?_
  rintro e w2 ⟨rfl, hb2⟩
  replace hb2 := ext_trans hb1 hb2
  obtain ⟨f0, f1, f2, f3, rx2, ry2, hbw2⟩ := HK.out _ hb2
  clear e0 e1 e2 e3 rx1 ry1 hb1 h0
  cases hlb : lightB d1 xs
  · go_wp2_with fail
    go_ret
    exact ⟨rfl, hbw2⟩
  · obtain ⟨hn1, hlx, hcx⟩ := light_true hd1.1 (fun p hp => (hr.ok p hp).2.1) hlb
    clear hlb
    go_wp2_with fail
    refine (light_any d2 a2 n2 c2 ys _ ry2).mono ?_
    rintro e W1 ⟨rfl, hb3⟩
    replace hb3 := ext_trans hb2 hb3
    obtain ⟨g0, g1, g2, g3, rx3, ry3, hbW1⟩ := HK.out _ hb3
    clear f0 f1 f2 f3 rx2 ry2 hb2 hbw2
    cases hlb : lightB d2 ys
    · go_wp2_with fail
      go_ret
      exact ⟨rfl, hbW1⟩
    · obtain ⟨hn2, hly, hcy⟩ := light_true hd2.1 (fun p hp => (hs.ok p hp).2.1) hlb
      clear hlb
      have hux := hcx.1
      have huy := hcy.1
      have hn1' : n1 ≤ 24 := by omega
      have hn2' : n2 ≤ 24 := by omega
      have HC : Hid (∀ W, Below W1.heap.size W1 W → W.cell? ⟨w.heap.size, 0, none⟩ = some (.int .u8 d1) ∧ W.cell? ⟨w.heap.size, 1, none⟩ = some (.slice a1 n1 c1) ∧ W.cell? ⟨w.heap.size + 1, 0, none⟩ = some (.int .u8 d2) ∧ W.cell? ⟨w.heap.size + 1, 1, none⟩ = some (.slice a2 n2 c2) ∧ RowG PE W a1 n1 c1 xs ∧ RowG PE W a2 n2 c2 ys) := fun W h =>
        ⟨by rw [h.cell (lt_of_cell g0)]; exact g0, by rw [h.cell (lt_of_cell g1)]; exact g1, by rw [h.cell (lt_of_cell g2)]; exact g2, by rw [h.cell (lt_of_cell g3)]; exact g3, rx3.below h, ry3.below h⟩
      have hB0 : Below W1.heap.size W1 W1.drew := ext_drew _
      clear g0 g1 g2 g3 rx3 ry3 hb3 hn1 hn2 hl1 hl2 HK
      go_wp2_with fail
      refine wp_region_noPanic ?_
      refine wp_region_held_drew (S := fun W => Below W1.heap.size W1 W) (by kernel_rfl) hB0 fun hS => ?_
      refine take_to (i := 0) (v := ?_) 16 rfl rfl (by kernel_rfl) (by kernel_rfl) (by kernel_rfl) (fun _ _ _ h => h) (Or.inl ⟨by rfl, ?_⟩) hS ?_
      rotate_left
      · intro W hW
        obtain ⟨s0, s1, s2, s3, _⟩ := HC.out W hW
        go_simp
        try with_reducible rfl
      simp only [List.setIfInBounds_toArray, List.set_cons_zero, List.set_cons_succ]
      refine take_to (i := 1) (v := ?_) 17 rfl rfl (by kernel_rfl) (by kernel_rfl) (by kernel_rfl) (fun _ _ _ h => h) (Or.inl ⟨by rfl, ?_⟩) hS ?_
      rotate_left
      · intro W hW
        obtain ⟨s0, s1, s2, s3, _⟩ := HC.out W hW
        go_simp
        try with_reducible rfl
      simp only [List.setIfInBounds_toArray, List.set_cons_zero, List.set_cons_succ]
      refine take_to (i := 3) (v := ?_) 19 rfl rfl (by kernel_rfl) (by kernel_rfl) (by kernel_rfl) (fun _ _ _ h => h) (Or.inl ⟨by rfl, ?_⟩) hS ?_
      rotate_left
      · intro W hW
        obtain ⟨s0, s1, s2, s3, _⟩ := HC.out W hW
        go_simp
        try with_reducible rfl
      simp only [List.setIfInBounds_toArray, List.set_cons_zero, List.set_cons_succ]
      refine take_to (i := 4) (v := ?_) 20 rfl rfl (by kernel_rfl) (by kernel_rfl) (by kernel_rfl) (fun _ _ _ h => h) (Or.inl ⟨by rfl, ?_⟩) hS ?_
      rotate_left
      · intro W hW
        obtain ⟨s0, s1, s2, s3, _⟩ := HC.out W hW
        go_simp
        try with_reducible rfl
      simp only [List.setIfInBounds_toArray, List.set_cons_zero, List.set_cons_succ]
      refine wpAnyH_ready (rs := [2]) (by kernel_rfl) (by simp) ?_
      refine AllReadyH.cons rfl (fun K hK => ?_) AllReadyH.nil
      go_simp
      obtain ⟨_, _, _, _, rx, ry⟩ := HC.out _ hB0
      refine (flowsL_any d1 d2 a1 a2 n1 c1 n2 c2 xs ys _ rx ry hlx hly hux huy (by omega)).mono ?_
      rintro e w10 ⟨q1, rfl, hq1, hb10⟩
      replace hb10 := ext_trans hB0 hb10
      refine hK.out _ _ hb10 fun hS => ?_
      clear hK K
      refine wpAnyH_ready (rs := [5]) (by kernel_rfl) (by simp) ?_
      refine AllReadyH.cons rfl (fun K hK => ?_) AllReadyH.nil
      go_simp
      obtain ⟨_, _, _, _, rx, ry⟩ := HC.out _ hb10
      refine (refFlows_any d1 d2 a1 a2 n1 c1 n2 c2 xs ys _ rx ry (by omega)).mono ?_
      rintro e w11 ⟨q2, rfl, hq2, hb11⟩
      replace hb11 := ext_trans hb10 hb11
      obtain rfl : q1 = q2 := Bool.eq_iff_iff.2 (hq1.trans hq2.symm)
      clear hq1 hq2
      refine hK.out _ _ hb11 fun hS => ?_
      clear hK K
      refine take_to (i := 6) (v := ?_) 22 rfl rfl (by kernel_rfl) (by kernel_rfl) (by kernel_rfl) (fun _ _ _ h => h) (Or.inl ⟨by rfl, ?_⟩) hS ?_
      rotate_left
      · intro W hW
        obtain ⟨s0, s1, s2, s3, _⟩ := HC.out W hW
        go_simp
        try with_reducible rfl
      simp only [List.setIfInBounds_toArray, List.set_cons_zero, List.set_cons_succ]
      refine take_to (i := 7) (v := ?_) 23 rfl rfl (by kernel_rfl) (by kernel_rfl) (by kernel_rfl) (fun _ _ _ h => h) (Or.inl ⟨by rfl, ?_⟩) hS ?_
      rotate_left
      · intro W hW
        obtain ⟨s0, s1, s2, s3, _⟩ := HC.out W hW
        go_simp
        try with_reducible rfl
      simp only [List.setIfInBounds_toArray, List.set_cons_zero, List.set_cons_succ]
      refine take_to (i := 8) (v := ?_) 24 rfl rfl (by kernel_rfl) (by kernel_rfl) (by kernel_rfl) (fun _ _ _ h => h) (Or.inl ⟨by rfl, ?_⟩) hS ?_
      rotate_left
      · intro W hW
        obtain ⟨s0, s1, s2, s3, _⟩ := HC.out W hW
        go_simp
        try with_reducible rfl
      simp only [List.setIfInBounds_toArray, List.set_cons_zero, List.set_cons_succ]
      refine take_to (i := 9) (v := ?_) 25 rfl rfl (by kernel_rfl) (by kernel_rfl) (by kernel_rfl) (fun _ _ _ h => h) (Or.inl ⟨by rfl, ?_⟩) hS ?_
      rotate_left
      · intro W hW
        obtain ⟨s0, s1, s2, s3, _⟩ := HC.out W hW
        go_simp
        try with_reducible rfl
      simp only [List.setIfInBounds_toArray, List.set_cons_zero, List.set_cons_succ]
      refine take_to (i := 10) (v := ?_) 26 rfl rfl (by kernel_rfl) (by kernel_rfl) (by kernel_rfl) (fun _ _ _ h => h) (Or.inl ⟨by rfl, ?_⟩) hS ?_
      rotate_left
      · intro W hW
        obtain ⟨s0, s1, s2, s3, _⟩ := HC.out W hW
        go_simp
        try with_reducible rfl
      simp only [List.setIfInBounds_toArray, List.set_cons_zero, List.set_cons_succ]
      refine take_to (i := 12) (v := ?_) 28 rfl rfl (by kernel_rfl) (by kernel_rfl) (by kernel_rfl) (fun _ _ _ h => h) (Or.inl ⟨by rfl, ?_⟩) hS ?_
      rotate_left
      · intro W hW
        obtain ⟨s0, s1, s2, s3, _⟩ := HC.out W hW
        go_simp
        try with_reducible rfl
      simp only [List.setIfInBounds_toArray, List.set_cons_zero, List.set_cons_succ]
      refine take_to (i := 13) (v := ?_) 29 rfl rfl (by kernel_rfl) (by kernel_rfl) (by kernel_rfl) (fun _ _ _ h => h) (Or.inl ⟨by rfl, ?_⟩) hS ?_
      rotate_left
      · intro W hW
        obtain ⟨s0, s1, s2, s3, _⟩ := HC.out W hW
        go_simp
        try with_reducible rfl
      simp only [List.setIfInBounds_toArray, List.set_cons_zero, List.set_cons_succ]
      refine wpAnyH_ready (rs := [11]) (by kernel_rfl) (by simp) ?_
      refine AllReadyH.cons rfl (fun K hK => ?_) AllReadyH.nil
      go_simp
      obtain ⟨_, _, _, _, rx, ry⟩ := HC.out _ hb11
      refine (joinL_any d1 d2 a1 a2 n1 c1 n2 c2 xs ys _ rx ry hlx hly (by omega)).mono ?_
      rintro e w12 ⟨so11, k11, co11, rfl, ho11, hb12⟩
      replace hb12 := ext_trans hb11 hb12
      have rr11 := ho11.row
      clear ho11
      refine hK.out _ _ hb12 fun hS => ?_
      clear hK K
      refine wpAnyH_ready (rs := [14]) (by kernel_rfl) (by simp) ?_
      refine AllReadyH.cons rfl (fun K hK => ?_) AllReadyH.nil
      go_simp
      obtain ⟨_, _, _, _, rx, ry⟩ := HC.out _ hb12
      refine (refJoin_any d1 d2 a1 a2 n1 c1 n2 c2 xs ys _ rx ry hlx hly hux huy (by omega)).mono ?_
      rintro e w13 ⟨so14, k14, co14, rfl, ho14, hb13⟩
      have rr11' := rr11.below hb13
      clear rr11
      replace hb13 := ext_trans hb12 hb13
      have rr14 := ho14.row
      clear ho14
      refine hK.out _ _ hb13 fun hS => ?_
      clear hK K
      refine wpAnyH_ready (rs := [15]) (by kernel_rfl) (by simp) ?_
      refine AllReadyH.cons rfl (fun K hK => ?_) AllReadyH.nil
      go_simp
      obtain ⟨_, _, _, _, rx, ry⟩ := HC.out _ hb13
      refine (refSame_any _ so11 k11 co11 _ _ so14 k14 co14 _ _ rr11' rr14).mono ?_
      rintro e w14 ⟨rfl, hb14⟩
      replace hb14 := ext_trans hb13 hb14
      rw [decide_eq_true (And.intro rfl rfl)]
      clear rr11' rr14
      refine hK.out _ _ hb14 fun hS => ?_
      clear hK K
      refine take_to (i := 16) (v := ?_) 32 rfl rfl (by kernel_rfl) (by kernel_rfl) (by kernel_rfl) (fun _ _ _ h => h) (Or.inl ⟨by rfl, ?_⟩) hS ?_
      rotate_left
      · intro W hW
        obtain ⟨s0, s1, s2, s3, _⟩ := HC.out W hW
        go_simp
        try with_reducible rfl
      simp only [List.setIfInBounds_toArray, List.set_cons_zero, List.set_cons_succ]
      refine take_to (i := 17) (v := ?_) 33 rfl rfl (by kernel_rfl) (by kernel_rfl) (by kernel_rfl) (fun _ _ _ h => h) (Or.inl ⟨by rfl, ?_⟩) hS ?_
      rotate_left
      · intro W hW
        obtain ⟨s0, s1, s2, s3, _⟩ := HC.out W hW
        go_simp
        try with_reducible rfl
      simp only [List.setIfInBounds_toArray, List.set_cons_zero, List.set_cons_succ]
      refine take_to (i := 18) (v := ?_) 34 rfl rfl (by kernel_rfl) (by kernel_rfl) (by kernel_rfl) (fun _ _ _ h => h) (Or.inl ⟨by rfl, ?_⟩) hS ?_
      rotate_left
      · intro W hW
        obtain ⟨s0, s1, s2, s3, _⟩ := HC.out W hW
        go_simp
        try with_reducible rfl
      simp only [List.setIfInBounds_toArray, List.set_cons_zero, List.set_cons_succ]
      refine take_to (i := 19) (v := ?_) 35 rfl rfl (by kernel_rfl) (by kernel_rfl) (by kernel_rfl) (fun _ _ _ h => h) (Or.inl ⟨by rfl, ?_⟩) hS ?_
      rotate_left
      · intro W hW
        obtain ⟨s0, s1, s2, s3, _⟩ := HC.out W hW
        go_simp
        try with_reducible rfl
      simp only [List.setIfInBounds_toArray, List.set_cons_zero, List.set_cons_succ]
      refine take_to (i := 20) (v := ?_) 36 rfl rfl (by kernel_rfl) (by kernel_rfl) (by kernel_rfl) (fun _ _ _ h => h) (Or.inl ⟨by rfl, ?_⟩) hS ?_
      rotate_left
      · intro W hW
        obtain ⟨s0, s1, s2, s3, _⟩ := HC.out W hW
        go_simp
        try with_reducible rfl
      simp only [List.setIfInBounds_toArray, List.set_cons_zero, List.set_cons_succ]
      refine take_to (i := 22) (v := ?_) 38 rfl rfl (by kernel_rfl) (by kernel_rfl) (by kernel_rfl) (fun _ _ _ h => h) (Or.inl ⟨by rfl, ?_⟩) hS ?_
      rotate_left
      · intro W hW
        obtain ⟨s0, s1, s2, s3, _⟩ := HC.out W hW
        go_simp
        try with_reducible rfl
      simp only [List.setIfInBounds_toArray, List.set_cons_zero, List.set_cons_succ]
      refine take_to (i := 23) (v := ?_) 39 rfl rfl (by kernel_rfl) (by kernel_rfl) (by kernel_rfl) (fun _ _ _ h => h) (Or.inl ⟨by rfl, ?_⟩) hS ?_
      rotate_left
      · intro W hW
        obtain ⟨s0, s1, s2, s3, _⟩ := HC.out W hW
        go_simp
        try with_reducible rfl
      simp only [List.setIfInBounds_toArray, List.set_cons_zero, List.set_cons_succ]
      refine wpAnyH_ready (rs := [21]) (by kernel_rfl) (by simp) ?_
      refine AllReadyH.cons rfl (fun K hK => ?_) AllReadyH.nil
      go_simp
      obtain ⟨_, _, _, _, rx, ry⟩ := HC.out _ hb14
      refine (meetL_any d1 d2 a1 a2 n1 c1 n2 c2 xs ys _ rx ry hlx hly (by omega)).mono ?_
      rintro e w15 ⟨so21, k21, co21, rfl, ho21, hb15⟩
      replace hb15 := ext_trans hb14 hb15
      have rr21 := ho21.row
      clear ho21
      refine hK.out _ _ hb15 fun hS => ?_
      clear hK K
      refine wpAnyH_ready (rs := [24]) (by kernel_rfl) (by simp) ?_
      refine AllReadyH.cons rfl (fun K hK => ?_) AllReadyH.nil
      go_simp
      obtain ⟨_, _, _, _, rx, ry⟩ := HC.out _ hb15
      refine (refMeet_any d1 d2 a1 a2 n1 c1 n2 c2 xs ys _ rx ry hlx hly hux huy (by omega)).mono ?_
      rintro e w16 ⟨so24, k24, co24, rfl, ho24, hb16⟩
      have rr21' := rr21.below hb16
      clear rr21
      replace hb16 := ext_trans hb15 hb16
      have rr24 := ho24.row
      clear ho24
      refine hK.out _ _ hb16 fun hS => ?_
      clear hK K
      refine wpAnyH_ready (rs := [25]) (by kernel_rfl) (by simp) ?_
      refine AllReadyH.cons rfl (fun K hK => ?_) AllReadyH.nil
      go_simp
      obtain ⟨_, _, _, _, rx, ry⟩ := HC.out _ hb16
      refine (refSame_any _ so21 k21 co21 _ _ so24 k24 co24 _ _ rr21' rr24).mono ?_
      rintro e w17 ⟨rfl, hb17⟩
      replace hb17 := ext_trans hb16 hb17
      rw [decide_eq_true (And.intro rfl rfl)]
      clear rr21' rr24
      refine hK.out _ _ hb17 fun hS => ?_
      clear hK K
      refine take_to (i := 26) (v := ?_) 42 rfl rfl (by kernel_rfl) (by kernel_rfl) (by kernel_rfl) (fun _ _ _ h => h) (Or.inl ⟨by rfl, ?_⟩) hS ?_
      rotate_left
      · intro W hW
        obtain ⟨s0, s1, s2, s3, _⟩ := HC.out W hW
        go_simp
        try with_reducible rfl
      simp only [List.setIfInBounds_toArray, List.set_cons_zero, List.set_cons_succ]
      refine take_to (i := 27) (v := ?_) 43 rfl rfl (by kernel_rfl) (by kernel_rfl) (by kernel_rfl) (fun _ _ _ h => h) (Or.inl ⟨by rfl, ?_⟩) hS ?_
      rotate_left
      · intro W hW
        obtain ⟨s0, s1, s2, s3, _⟩ := HC.out W hW
        go_simp
        try with_reducible rfl
      simp only [List.setIfInBounds_toArray, List.set_cons_zero, List.set_cons_succ]
      refine take_to (i := 28) (v := ?_) 44 rfl rfl (by kernel_rfl) (by kernel_rfl) (by kernel_rfl) (fun _ _ _ h => h) (Or.inl ⟨by rfl, ?_⟩) hS ?_
      rotate_left
      · intro W hW
        obtain ⟨s0, s1, s2, s3, _⟩ := HC.out W hW
        go_simp
        try with_reducible rfl
      simp only [List.setIfInBounds_toArray, List.set_cons_zero, List.set_cons_succ]
      refine take_to (i := 29) (v := ?_) 45 rfl rfl (by kernel_rfl) (by kernel_rfl) (by kernel_rfl) (fun _ _ _ h => h) (Or.inl ⟨by rfl, ?_⟩) hS ?_
      rotate_left
      · intro W hW
        obtain ⟨s0, s1, s2, s3, _⟩ := HC.out W hW
        go_simp
        try with_reducible rfl
      simp only [List.setIfInBounds_toArray, List.set_cons_zero, List.set_cons_succ]
      refine take_to (i := 31) (v := ?_) 47 rfl rfl (by kernel_rfl) (by kernel_rfl) (by kernel_rfl) (fun _ _ _ h => h) (Or.inl ⟨by rfl, ?_⟩) hS ?_
      rotate_left
      · intro W hW
        obtain ⟨s0, s1, s2, s3, _⟩ := HC.out W hW
        go_simp
        try with_reducible rfl
      simp only [List.setIfInBounds_toArray, List.set_cons_zero, List.set_cons_succ]
      refine wpAnyH_ready (rs := [30]) (by kernel_rfl) (by simp) ?_
      refine AllReadyH.cons rfl (fun K hK => ?_) AllReadyH.nil
      go_simp
      obtain ⟨_, _, _, _, rx, ry⟩ := HC.out _ hb17
      refine (riseLab_any d1 a1 n1 c1 xs _ rx hlx (by omega)).mono ?_
      rintro e w18 ⟨so30, k30, co30, rfl, ho30, hb18⟩
      replace hb18 := ext_trans hb17 hb18
      have rr30 := ho30.row
      clear ho30
      refine hK.out _ _ hb18 fun hS => ?_
      clear hK K
      refine wpAnyH_ready (rs := [32]) (by kernel_rfl) (by simp) ?_
      refine AllReadyH.cons rfl (fun K hK => ?_) AllReadyH.nil
      go_simp
      obtain ⟨_, _, _, _, rx, ry⟩ := HC.out _ hb18
      refine (riseAll_any d1 a1 n1 c1 xs _ rx hlx hux (by omega)).mono ?_
      rintro e w19 ⟨so32, k32, co32, rfl, ho32, hb19⟩
      have rr30' := rr30.below hb19
      clear rr30
      replace hb19 := ext_trans hb18 hb19
      have rr32 := ho32.row
      clear ho32
      refine hK.out _ _ hb19 fun hS => ?_
      clear hK K
      refine wpAnyH_ready (rs := [33]) (by kernel_rfl) (by simp) ?_
      refine AllReadyH.cons rfl (fun K hK => ?_) AllReadyH.nil
      go_simp
      obtain ⟨_, _, _, _, rx, ry⟩ := HC.out _ hb19
      refine (refSame_any _ so30 k30 co30 _ _ so32 k32 co32 _ _ rr30' rr32).mono ?_
      rintro e w20 ⟨rfl, hb20⟩
      replace hb20 := ext_trans hb19 hb20
      rw [decide_eq_true (And.intro rfl rfl)]
      clear rr30' rr32
      refine hK.out _ _ hb20 fun hS => ?_
      clear hK K
      refine take_to (i := 34) (v := ?_) 50 rfl rfl (by kernel_rfl) (by kernel_rfl) (by kernel_rfl) (fun _ _ _ h => h) (Or.inl ⟨by rfl, ?_⟩) hS ?_
      rotate_left
      · intro W hW
        obtain ⟨s0, s1, s2, s3, _⟩ := HC.out W hW
        go_simp
        try with_reducible rfl
      simp only [List.setIfInBounds_toArray, List.set_cons_zero, List.set_cons_succ]
      refine take_to (i := 35) (v := ?_) 51 rfl rfl (by kernel_rfl) (by kernel_rfl) (by kernel_rfl) (fun _ _ _ h => h) (Or.inl ⟨by rfl, ?_⟩) hS ?_
      rotate_left
      · intro W hW
        obtain ⟨s0, s1, s2, s3, _⟩ := HC.out W hW
        go_simp
        try with_reducible rfl
      simp only [List.setIfInBounds_toArray, List.set_cons_zero, List.set_cons_succ]
      refine take_to (i := 36) (v := ?_) 52 rfl rfl (by kernel_rfl) (by kernel_rfl) (by kernel_rfl) (fun _ _ _ h => h) (Or.inl ⟨by rfl, ?_⟩) hS ?_
      rotate_left
      · intro W hW
        obtain ⟨s0, s1, s2, s3, _⟩ := HC.out W hW
        go_simp
        try with_reducible rfl
      simp only [List.setIfInBounds_toArray, List.set_cons_zero, List.set_cons_succ]
      refine take_to (i := 38) (v := ?_) 54 rfl rfl (by kernel_rfl) (by kernel_rfl) (by kernel_rfl) (fun _ _ _ h => h) (Or.inl ⟨by rfl, ?_⟩) hS ?_
      rotate_left
      · intro W hW
        obtain ⟨s0, s1, s2, s3, _⟩ := HC.out W hW
        go_simp
        try with_reducible rfl
      simp only [List.setIfInBounds_toArray, List.set_cons_zero, List.set_cons_succ]
      refine wpAnyH_ready (rs := [37]) (by kernel_rfl) (by simp) ?_
      refine AllReadyH.cons rfl (fun K hK => ?_) AllReadyH.nil
      go_simp
      obtain ⟨_, _, _, _, rx, ry⟩ := HC.out _ hb20
      refine (stars_any d1 a1 n1 c1 xs _ rx (by omega)).mono ?_
      rintro e w21 ⟨so37, k37, co37, rfl, ho37, hb21⟩
      replace hb21 := ext_trans hb20 hb21
      have rr37 := ho37.row
      clear ho37
      refine hK.out _ _ hb21 fun hS => ?_
      clear hK K
      refine wpAnyH_ready (rs := [39]) (by kernel_rfl) (by simp) ?_
      refine AllReadyH.cons rfl (fun K hK => ?_) AllReadyH.nil
      go_simp
      obtain ⟨_, _, _, _, rx, ry⟩ := HC.out _ hb21
      refine (levels_any d1 a1 n1 c1 xs 0 _ rx (by omega)).mono ?_
      rintro e w22 ⟨so39, k39, co39, rfl, ho39, hb22⟩
      have rr37' := rr37.below hb22
      clear rr37
      replace hb22 := ext_trans hb21 hb22
      have rr39 := ho39.row
      clear ho39
      refine hK.out _ _ hb22 fun hS => ?_
      clear hK K
      refine wpAnyH_ready (rs := [40]) (by kernel_rfl) (by simp) ?_
      refine AllReadyH.cons rfl (fun K hK => ?_) AllReadyH.nil
      go_simp
      obtain ⟨_, _, _, _, rx, ry⟩ := HC.out _ hb22
      refine (same_any so37 k37 co37 _ so39 k39 co39 _ _ rr37' rr39).mono ?_
      rintro e w23 ⟨rfl, hb23⟩
      replace hb23 := ext_trans hb22 hb23
      rw [decide_eq_true rfl]
      clear rr37' rr39
      refine hK.out _ _ hb23 fun hS => ?_
      clear hK K
      refine take_to (i := 41) (v := ?_) 57 rfl rfl (by kernel_rfl) (by kernel_rfl) (by kernel_rfl) (fun _ _ _ h => h) (Or.inl ⟨by rfl, ?_⟩) hS ?_
      rotate_left
      · intro W hW
        obtain ⟨s0, s1, s2, s3, _⟩ := HC.out W hW
        go_simp
        try with_reducible rfl
      simp only [List.setIfInBounds_toArray, List.set_cons_zero, List.set_cons_succ]
      refine take_to (i := 42) (v := ?_) 58 rfl rfl (by kernel_rfl) (by kernel_rfl) (by kernel_rfl) (fun _ _ _ h => h) (Or.inl ⟨by rfl, ?_⟩) hS ?_
      rotate_left
      · intro W hW
        obtain ⟨s0, s1, s2, s3, _⟩ := HC.out W hW
        go_simp
        try with_reducible rfl
      simp only [List.setIfInBounds_toArray, List.set_cons_zero, List.set_cons_succ]
      refine take_to (i := 43) (v := ?_) 59 rfl rfl (by kernel_rfl) (by kernel_rfl) (by kernel_rfl) (fun _ _ _ h => h) (Or.inl ⟨by rfl, ?_⟩) hS ?_
      rotate_left
      · intro W hW
        obtain ⟨s0, s1, s2, s3, _⟩ := HC.out W hW
        go_simp
        try with_reducible rfl
      simp only [List.setIfInBounds_toArray, List.set_cons_zero, List.set_cons_succ]
      refine take_to (i := 44) (v := ?_) 60 rfl rfl (by kernel_rfl) (by kernel_rfl) (by kernel_rfl) (fun _ _ _ h => h) (Or.inl ⟨by rfl, ?_⟩) hS ?_
      rotate_left
      · intro W hW
        obtain ⟨s0, s1, s2, s3, _⟩ := HC.out W hW
        go_simp
        try with_reducible rfl
      simp only [List.setIfInBounds_toArray, List.set_cons_zero, List.set_cons_succ]
      refine take_to (i := 46) (v := ?_) 62 rfl rfl (by kernel_rfl) (by kernel_rfl) (by kernel_rfl) (fun _ _ _ h => h) (Or.inl ⟨by rfl, ?_⟩) hS ?_
      rotate_left
      · intro W hW
        obtain ⟨s0, s1, s2, s3, _⟩ := HC.out W hW
        go_simp
        try with_reducible rfl
      simp only [List.setIfInBounds_toArray, List.set_cons_zero, List.set_cons_succ]
      refine take_to (i := 47) (v := ?_) 63 rfl rfl (by kernel_rfl) (by kernel_rfl) (by kernel_rfl) (fun _ _ _ h => h) (Or.inl ⟨by rfl, ?_⟩) hS ?_
      rotate_left
      · intro W hW
        obtain ⟨s0, s1, s2, s3, _⟩ := HC.out W hW
        go_simp
        try with_reducible rfl
      simp only [List.setIfInBounds_toArray, List.set_cons_zero, List.set_cons_succ]
      refine take_to (i := 48) (v := ?_) 64 rfl rfl (by kernel_rfl) (by kernel_rfl) (by kernel_rfl) (fun _ _ _ h => h) (Or.inl ⟨by rfl, ?_⟩) hS ?_
      rotate_left
      · intro W hW
        obtain ⟨s0, s1, s2, s3, _⟩ := HC.out W hW
        go_simp
        try with_reducible rfl
      simp only [List.setIfInBounds_toArray, List.set_cons_zero, List.set_cons_succ]
      refine wpAnyH_ready (rs := [45]) (by kernel_rfl) (by simp) ?_
      refine AllReadyH.cons rfl (fun K hK => ?_) AllReadyH.nil
      go_simp
      obtain ⟨_, _, _, _, rx, ry⟩ := HC.out _ hb23
      refine (same_lab d1 a1 n1 c1 xs d2 a2 n2 c2 ys _ rx ry).mono ?_
      rintro e w24 ⟨rfl, hb24⟩
      replace hb24 := ext_trans hb23 hb24
      generalize hqs : decide (d1 = d2 ∧ xs = ys) = qs
      have HQS : Hid (decide (d1 = d2 ∧ xs = ys) = qs) := hqs
      clear hqs
      refine hK.out _ _ hb24 fun hS => ?_
      clear hK K
      refine wpAnyH_ready (rs := [49]) (by kernel_rfl) (by simp) ?_
      refine AllReadyH.cons rfl (fun K hK => ?_) AllReadyH.nil
      go_simp
      obtain ⟨_, _, _, _, rx, ry⟩ := HC.out _ hb24
      refine (refSame_any d1 a1 n1 c1 xs d2 a2 n2 c2 ys _ rx ry).mono ?_
      rintro e w25 ⟨rfl, hb25⟩
      replace hb25 := ext_trans hb24 hb25
      rw [HQS.out]
      refine hK.out _ _ hb25 fun hS => ?_
      clear hK K
      refine take_to (i := 50) (v := ?_) 66 rfl rfl (by kernel_rfl) (by kernel_rfl) (by kernel_rfl) (fun _ _ _ h => h) (Or.inl ⟨by rfl, ?_⟩) hS ?_
      rotate_left
      · intro W hW
        obtain ⟨s0, s1, s2, s3, _⟩ := HC.out W hW
        go_simp
        try with_reducible rfl
      simp only [List.setIfInBounds_toArray, List.set_cons_zero, List.set_cons_succ]
      refine take_to (i := 51) (v := ?_) 67 rfl rfl (by kernel_rfl) (by kernel_rfl) (by kernel_rfl) (fun _ _ _ h => h) (Or.inl ⟨by rfl, ?_⟩) hS ?_
      rotate_left
      · intro W hW
        obtain ⟨s0, s1, s2, s3, _⟩ := HC.out W hW
        go_simp
        try with_reducible rfl
      simp only [List.setIfInBounds_toArray, List.set_cons_zero, List.set_cons_succ]
      refine take_to (i := 52) (v := ?_) 4 rfl rfl (by kernel_rfl) (by kernel_rfl) (by kernel_rfl) (fun _ _ _ h => h) (Or.inl ⟨by rfl, ?_⟩) hS ?_
      rotate_left
      · intro W hW
        obtain ⟨s0, s1, s2, s3, _⟩ := HC.out W hW
        go_simp
        try with_reducible rfl
      simp only [List.setIfInBounds_toArray, List.set_cons_zero, List.set_cons_succ]
      refine wpAnyH_done (by kernel_rfl) ?_ _
      refine NoPanic.normal ?_
      go_wp2_with fail
      go_ret
      exact ⟨rfl, ext_trans hbW1 hb25⟩
end Go.Proofs.Ytgpndbfefbdibaa
