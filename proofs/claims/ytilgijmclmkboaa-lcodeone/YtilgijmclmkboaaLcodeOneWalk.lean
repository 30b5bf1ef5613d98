/- LcodeOne walked: it answers true, and turns nothing that was there. -/
import Derived.Test.YtilgijmclmkboaaLcBegun
import Derived.Test.YtilgijmclmkboaaRegion
namespace Go.Proofs.Ytilgijmclmkboaa
open Go.RowKit
set_option linter.unusedVariables false

theorem bytesOf_inj : ∀ {xs ys : List Int}, Byt xs → Byt ys → Lib.bytesOf xs = Lib.bytesOf ys → xs = ys
  | [], [], _, _, _ => rfl
  | [], _ :: _, _, _, h => by simp [Lib.bytesOf] at h
  | _ :: _, [], _, _, h => by simp [Lib.bytesOf] at h
  | x :: xs, y :: ys, hx, hy, h => by
    simp only [Lib.bytesOf, List.map_cons, List.cons.injEq] at h
    have h1 := hx x (by simp)
    have h2 := hy y (by simp)
    have h3 := congrArg UInt8.toNat h.1
    rw [UInt8.toNat_ofNat', UInt8.toNat_ofNat'] at h3
    have h4 : x = y := by omega
    rw [h4, bytesOf_inj (fun z hz => hx z (by simp [hz])) (fun z hz => hy z (by simp [hz])) h.2]
theorem str_inj {xs ys : List Int} (hx : Byt xs) (hy : Byt ys) (h : (strOfNums xs).toList = (strOfNums ys).toList) : xs = ys := by
  rw [Lib.strOfNums_toList, Lib.strOfNums_toList] at h
  exact bytesOf_inj hx hy h

set_option maxHeartbeats 4000000 in
theorem lcodeOne_walk (d : Int) (a : Option Addr) (n c : Nat) (xs : List (Int × Int)) (d' : Int) (a' : Option Addr) (n' c' : Nat) (ys : List (Int × Int)) (w : World) (hr : RowG PE w a n c xs) (hs : RowG PE w a' n' c' ys) :
    Calls Try.prog 5 #[.agg #[.int .u8 d, .slice a n c], .agg #[.int .u8 d', .slice a' n' c']] w fun e w' => e = .returned (.bool true) ∧ Below w.heap.size w w' := by
  have h0 := two_allocs w (.cells #[.int .u8 d, .slice a n c] 24) (.cells #[.int .u8 d', .slice a' n' c'] 24)
  have HK : Hid (∀ W, Below ((w.alloc (.cells #[.int .u8 d, .slice a n c] 24)).alloc (.cells #[.int .u8 d', .slice a' n' c'] 24)).heap.size ((w.alloc (.cells #[.int .u8 d, .slice a n c] 24)).alloc (.cells #[.int .u8 d', .slice a' n' c'] 24)) W → W.cell? ⟨w.heap.size, 0, none⟩ = some (.int .u8 d) ∧ W.cell? ⟨w.heap.size, 1, none⟩ = some (.slice a n c) ∧ W.cell? ⟨w.heap.size + 1, 0, none⟩ = some (.int .u8 d') ∧ W.cell? ⟨w.heap.size + 1, 1, none⟩ = some (.slice a' n' c') ∧ RowG PE W a n c xs ∧ RowG PE W a' n' c' ys) := fun W h =>
    ⟨by rw [h.cell (by simp <;> omega)]; simp, by rw [h.cell (by simp <;> omega)]; simp, by rw [h.cell (by simp)]; simp, by rw [h.cell (by simp)]; simp, hr.below (ext_trans h0 h), hs.below (ext_trans h0 h)⟩
  go_enter Try.func5, Try.ntmps5
  go_wp2_with fail
  refine (begun6_true _).mono ?_
  rintro e w1 ⟨rfl, b1⟩
  obtain ⟨k0, k1, k2, k3, r1, r2⟩ := HK.out _ b1
  have hm1 := refMay_any d a n c xs _ r1
  cases hmay : mayB d xs
  · rw [hmay] at hm1
    go_wp2_with fail
    refine hm1.mono ?_
    rintro e w2 ⟨rfl, b2⟩
    go_wp2_with fail
    go_ret
    exact ⟨rfl, ext_trans h0 (ext_trans b1 b2)⟩
  rw [hmay] at hm1
  have HM : Hid (mayB d xs = true) := hmay
  clear hmay
  go_wp2_with fail
  refine hm1.mono ?_
  rintro e w2 ⟨rfl, b2⟩
  replace b2 := ext_trans b1 b2
  clear k0 k1 k2 k3 r1 r2 hm1
  obtain ⟨k0, k1, k2, k3, r1, r2⟩ := HK.out _ b2
  have hm2 := refMay_any d' a' n' c' ys _ r2
  cases hmay : mayB d' ys
  · rw [hmay] at hm2
    go_wp2_with fail
    refine hm2.mono ?_
    rintro e w3 ⟨rfl, b3⟩
    go_wp2_with fail
    go_ret
    exact ⟨rfl, ext_trans h0 (ext_trans b2 b3)⟩
  rw [hmay] at hm2
  have HM' : Hid (mayB d' ys = true) := hmay
  clear hmay
  go_wp2_with fail
  refine hm2.mono ?_
  rintro e W1 ⟨rfl, b3⟩
  replace b3 := ext_trans b2 b3
  have hbW1 := ext_trans h0 b3
  have HC : Hid (∀ W, Below W1.heap.size W1 W → W.cell? ⟨w.heap.size, 0, none⟩ = some (.int .u8 d) ∧ W.cell? ⟨w.heap.size, 1, none⟩ = some (.slice a n c) ∧ W.cell? ⟨w.heap.size + 1, 0, none⟩ = some (.int .u8 d') ∧ W.cell? ⟨w.heap.size + 1, 1, none⟩ = some (.slice a' n' c') ∧ RowG PE W a n c xs ∧ RowG PE W a' n' c' ys) := fun W h => HK.out W (ext_trans b3 h)
  have HQ : Hid (decide (d = d' ∧ xs = ys) = ((strOfNums (encL d xs)).toList == (strOfNums (encL d' ys)).toList)) := by
    have hi := encL_inj d xs d' ys hr.ok hs.ok HM.out HM'.out
    have hj : ((strOfNums (encL d xs)).toList = (strOfNums (encL d' ys)).toList) ↔ (d = d' ∧ xs = ys) := ⟨fun h => hi.1 (str_inj (encL_byt _ _) (encL_byt _ _) h), fun h => by rw [hi.2 h]⟩
    by_cases hq : d = d' ∧ xs = ys
    · rw [decide_eq_true hq, hj.2 hq]
      exact (beq_self_eq_true _).symm
    · rw [decide_eq_false hq]
      exact (beq_eq_false_iff_ne.2 fun h => hq (hj.1 h)).symm
  clear HK k0 k1 k2 k3 r1 r2 hm2 b1 b2 b3 h0
  go_wp2_with fail
  refine wp_region_noPanic ?_
  refine wp_region_held_drew (S := fun W => Below W1.heap.size W1 W) (by kernel_rfl) (ext_drew W1) fun hS => ?_
  refine take_to (i := 0) (v := ?_) 15 rfl rfl (by kernel_rfl) (by kernel_rfl) (by kernel_rfl) (fun _ _ _ h => h) (Or.inl ⟨by rfl, ?_⟩) hS ?_
  rotate_left
  · intro W hW
    obtain ⟨s0, s1, s2, s3, _, _⟩ := HC.out W hW
    go_simp
    try with_reducible rfl
  simp only [List.setIfInBounds_toArray, List.set_cons_zero, List.set_cons_succ]
  refine take_to (i := 3) (v := ?_) 18 rfl rfl (by kernel_rfl) (by kernel_rfl) (by kernel_rfl) (fun _ _ _ h => h) (Or.inl ⟨by rfl, ?_⟩) hS ?_
  rotate_left
  · intro W hW
    obtain ⟨s0, s1, s2, s3, _, _⟩ := HC.out W hW
    go_simp
    try with_reducible rfl
  simp only [List.setIfInBounds_toArray, List.set_cons_zero, List.set_cons_succ]
  refine take_to (i := 7) (v := ?_) 22 rfl rfl (by kernel_rfl) (by kernel_rfl) (by kernel_rfl) (fun _ _ _ h => h) (Or.inl ⟨by rfl, ?_⟩) hS ?_
  rotate_left
  · intro W hW
    obtain ⟨s0, s1, s2, s3, _, _⟩ := HC.out W hW
    go_simp
    try with_reducible rfl
  simp only [List.setIfInBounds_toArray, List.set_cons_zero, List.set_cons_succ]
  refine take_to (i := 8) (v := ?_) 23 rfl rfl (by kernel_rfl) (by kernel_rfl) (by kernel_rfl) (fun _ _ _ h => h) (Or.inl ⟨by rfl, ?_⟩) hS ?_
  rotate_left
  · intro W hW
    obtain ⟨s0, s1, s2, s3, _, _⟩ := HC.out W hW
    go_simp
    try with_reducible rfl
  simp only [List.setIfInBounds_toArray, List.set_cons_zero, List.set_cons_succ]
  refine wpAnyH_ready (rs := [1]) (by kernel_rfl) (by simp) ?_
  refine AllReadyH.cons rfl (fun K hK => ?_) AllReadyH.nil
  go_simp
  obtain ⟨_, _, _, _, rl, _⟩ := HC.out _ (ext_drew W1)
  refine (lput_any none 0 0 [] d a n c xs _ (Row.nil _) rl HM.out (by omega)).mono ?_
  rintro e w4 ⟨g4, c4, rfl, o4, b4⟩
  have r4 := o4.row
  rw [List.nil_append] at r4
  have hb4 := ext_trans (ext_drew W1) b4
  clear o4 rl
  generalize 0 + (2 + 3 * n) = LL at r4 ⊢
  refine hK.out _ _ hb4 fun hS => ?_
  clear hK K
  refine wpAnyH_more (S' := fun W => Below w4.heap.size w4 W) (fun _ h => ext_trans hb4 h) _ _ _ _ ?_
  have hS : Below w4.heap.size w4 w4 := Below.refl _ _
  refine take_to (i := 2) (v := ?_) 17 rfl rfl (by kernel_rfl) (by kernel_rfl) (by kernel_rfl) (fun _ _ _ h => h) (Or.inl ⟨by rfl, ?_⟩) hS ?_
  rotate_left
  · intro W hW
    have s4 := strB.out _ _ _ _ _ (r4.below hW)
    go_simp
    try with_reducible rfl
  simp only [List.setIfInBounds_toArray, List.set_cons_zero, List.set_cons_succ]
  refine wpAnyH_ready (rs := [4]) (by kernel_rfl) (by simp) ?_
  refine AllReadyH.cons rfl (fun K hK => ?_) AllReadyH.nil
  go_simp
  obtain ⟨_, _, _, _, _, rl⟩ := HC.out _ hb4
  refine (lput_any none 0 0 [] d' a' n' c' ys _ (Row.nil _) rl HM'.out (by omega)).mono ?_
  rintro e w5 ⟨g5, c5, rfl, o5, b5⟩
  have r5 := o5.row
  rw [List.nil_append] at r5
  have hb5 := ext_trans hb4 b5
  clear o5 rl
  generalize 0 + (2 + 3 * n') = LL' at r5 ⊢
  refine hK.out _ _ b5 fun hS => ?_
  clear hK K
  refine wpAnyH_more (S' := fun W => Below w5.heap.size w5 W) (fun _ h => ext_trans b5 h) _ _ _ _ ?_
  have hS : Below w5.heap.size w5 w5 := Below.refl _ _
  refine take_to (i := 5) (v := ?_) 20 rfl rfl (by kernel_rfl) (by kernel_rfl) (by kernel_rfl) (fun _ _ _ h => h) (Or.inl ⟨by rfl, ?_⟩) hS ?_
  rotate_left
  · intro W hW
    have s5 := strB.out _ _ _ _ _ (r5.below hW)
    go_simp
    try with_reducible rfl
  simp only [List.setIfInBounds_toArray, List.set_cons_zero, List.set_cons_succ]
  refine take_to (i := 6) (v := ?_) 21 rfl rfl (by kernel_rfl) (by kernel_rfl) (by kernel_rfl) (fun _ _ _ h => h) (Or.inl ⟨by rfl, ?_⟩) hS ?_
  rotate_left
  · intro W hW
    have s5 := strB.out _ _ _ _ _ (r5.below hW)
    go_simp
    try with_reducible rfl
  simp only [List.setIfInBounds_toArray, List.set_cons_zero, List.set_cons_succ]
  refine wpAnyH_ready (rs := [9]) (by kernel_rfl) (by simp) ?_
  refine AllReadyH.cons rfl (fun K hK => ?_) AllReadyH.nil
  go_simp
  obtain ⟨_, _, _, _, rl, rl'⟩ := HC.out _ hb5
  refine (refSame_any d a n c xs d' a' n' c' ys _ rl rl').mono ?_
  rintro e w6 ⟨rfl, b6⟩
  have hb6 := ext_trans hb5 b6
  rw [HQ.out]
  generalize ((strOfNums (encL d xs)).toList == (strOfNums (encL d' ys)).toList) = q
  refine hK.out _ _ b6 fun hS => ?_
  clear hK K
  refine take_to (i := 10) (v := ?_) 25 rfl rfl (by kernel_rfl) (by kernel_rfl) (by kernel_rfl) (fun _ _ _ h => h) (Or.inl ⟨by rfl, ?_⟩) hS ?_
  rotate_left
  · intro W hW
    have s5 := strB.out _ _ _ _ _ (r5.below hW)
    go_simp
    try with_reducible rfl
  simp only [List.setIfInBounds_toArray, List.set_cons_zero, List.set_cons_succ]
  refine take_to (i := 11) (v := ?_) 4 rfl rfl (by kernel_rfl) (by kernel_rfl) (by kernel_rfl) (fun _ _ _ h => h) (Or.inl ⟨by rfl, ?_⟩) hS ?_
  rotate_left
  · intro W hW
    have s5 := strB.out _ _ _ _ _ (r5.below hW)
    go_simp
    try with_reducible rfl
  simp only [List.setIfInBounds_toArray, List.set_cons_zero, List.set_cons_succ]
  refine wpAnyH_done (by kernel_rfl) ?_ _
  refine NoPanic.normal ?_
  go_wp2_with fail
  go_ret
  exact ⟨rfl, ext_trans hbW1 hb6⟩
end Go.Proofs.Ytilgijmclmkboaa
