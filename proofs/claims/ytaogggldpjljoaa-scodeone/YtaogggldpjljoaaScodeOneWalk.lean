/- ScodeOne walked: it answers true, and turns nothing that was there. -/
import Derived.Test.YtaogggldpjljoaaScBegun
namespace Go.Proofs.Ytaogggldpjljoaa
open Go.RowKit
set_option linter.unusedVariables false

set_option maxHeartbeats 4000000 in
theorem scodeOne_walk (x y : Sv) (w : World) (hx : x.In w) (hy : y.In w) :
    Calls Try.prog 5 #[.agg #[.slice x.a1 x.n1 x.c1, .slice x.a2 x.n2 x.c2, .slice x.a3 x.n3 x.c3], .agg #[.slice y.a1 y.n1 y.c1, .slice y.a2 y.n2 y.c2, .slice y.a3 y.n3 y.c3]] w fun e w' => e = .returned (.bool true) ∧ Below w.heap.size w w' := by
  have h0 := two_allocs w (Obj.cells #[.slice x.a1 x.n1 x.c1, .slice x.a2 x.n2 x.c2, .slice x.a3 x.n3 x.c3] 24) (Obj.cells #[.slice y.a1 y.n1 y.c1, .slice y.a2 y.n2 y.c2, .slice y.a3 y.n3 y.c3] 24)
  have HK : Hid (∀ W, Below ((w.alloc (Obj.cells #[.slice x.a1 x.n1 x.c1, .slice x.a2 x.n2 x.c2, .slice x.a3 x.n3 x.c3] 24)).alloc (Obj.cells #[.slice y.a1 y.n1 y.c1, .slice y.a2 y.n2 y.c2, .slice y.a3 y.n3 y.c3] 24)).heap.size ((w.alloc (Obj.cells #[.slice x.a1 x.n1 x.c1, .slice x.a2 x.n2 x.c2, .slice x.a3 x.n3 x.c3] 24)).alloc (Obj.cells #[.slice y.a1 y.n1 y.c1, .slice y.a2 y.n2 y.c2, .slice y.a3 y.n3 y.c3] 24)) W → Boxed W w.heap.size x ∧ Boxed W (w.heap.size + 1) y ∧ x.In W ∧ y.In W) := fun W h => by
    obtain ⟨u0, u1, u2, u3, u4, u5, u6⟩ := two_sv w x y W h
    exact ⟨⟨u0, u1, u2⟩, ⟨u3, u4, u5⟩, hx.below u6, hy.below u6⟩
  go_enter Try.func5, Try.ntmps5
  go_wp2_with fail
  refine (begun9_true _).mono ?_
  rintro e w1 ⟨rfl, b1⟩
  obtain ⟨⟨k0, k1, k2⟩, ⟨k3, k4, k5⟩, r1, r2⟩ := HK.out _ b1
  have hm1 := refMaySets_any x _ r1
  cases hmay : mayB x.xs x.ys x.zs
  · rw [hmay] at hm1
    go_wp2_with fail
    refine hm1.mono ?_
    rintro e w2 ⟨rfl, b2⟩
    go_wp2_with fail
    go_ret
    exact ⟨rfl, ext_trans h0 (ext_trans b1 b2)⟩
  rw [hmay] at hm1
  have HM : Hid (mayB x.xs x.ys x.zs = true) := hmay
  clear hmay
  go_wp2_with fail
  refine hm1.mono ?_
  rintro e w2 ⟨rfl, b2⟩
  replace b2 := ext_trans b1 b2
  clear k0 k1 k2 k3 k4 k5 r1 r2 hm1
  obtain ⟨⟨k0, k1, k2⟩, ⟨k3, k4, k5⟩, r1, r2⟩ := HK.out _ b2
  have hm2 := refMaySets_any y _ r2
  cases hmay : mayB y.xs y.ys y.zs
  · rw [hmay] at hm2
    go_wp2_with fail
    refine hm2.mono ?_
    rintro e w3 ⟨rfl, b3⟩
    go_wp2_with fail
    go_ret
    exact ⟨rfl, ext_trans h0 (ext_trans b2 b3)⟩
  rw [hmay] at hm2
  have HM' : Hid (mayB y.xs y.ys y.zs = true) := hmay
  clear hmay
  go_wp2_with fail
  refine hm2.mono ?_
  rintro e W1 ⟨rfl, b3⟩
  replace b3 := ext_trans b2 b3
  have hbW1 := ext_trans h0 b3
  have HC : Hid (∀ W, Below W1.heap.size W1 W → Boxed W w.heap.size x ∧ Boxed W (w.heap.size + 1) y ∧ x.In W ∧ y.In W) := fun W h => HK.out W (ext_trans b3 h)
  have HQ : Hid (x.same y = ((strOfNums (encV x.xs x.ys x.zs)).toList == (strOfNums (encV y.xs y.ys y.zs)).toList)) := by
    have hj : ((strOfNums (encV x.xs x.ys x.zs)).toList = (strOfNums (encV y.xs y.ys y.zs)).toList) ↔ x.same y = true := by
      rw [Sv.same_iff]
      refine ⟨fun h => encV_inj hx.r1.wrd hx.r2.wrd hx.r3.wrd hy.r1.wrd hy.r2.wrd hy.r3.wrd HM.out HM'.out (str_inj (encV_byt _ _ _) (encV_byt _ _ _) h), fun h => by rw [h.1, h.2.1, h.2.2]⟩
    cases hq : x.same y
    · exact (beq_eq_false_iff_ne.2 fun h => by have := hj.1 h; rw [hq] at this; simp at this).symm
    · exact (beq_iff_eq.2 (hj.2 hq)).symm
  obtain ⟨M, hMM⟩ : ∃ M, M = 3 + 2 * (x.n1 + x.n2 + x.n3) := ⟨_, rfl⟩
  have HMM : Hid (M = 3 + 2 * (x.n1 + x.n2 + x.n3)) := hMM
  obtain ⟨M', hMM'⟩ : ∃ M, M = 3 + 2 * (y.n1 + y.n2 + y.n3) := ⟨_, rfl⟩
  have HMM' : Hid (M' = 3 + 2 * (y.n1 + y.n2 + y.n3)) := hMM'
  clear HK k0 k1 k2 k3 k4 k5 r1 r2 hm2 b1 b2 b3 h0 hMM hMM'
  go_wp2_with fail
  refine wp_region_noPanic ?_
  refine wp_region_held_drew (S := fun W => Below W1.heap.size W1 W) (by kernel_rfl) (ext_drew W1) fun hS => ?_
  refine take_to (i := 0) (v := ?_) 15 rfl rfl (by kernel_rfl) (by kernel_rfl) (by kernel_rfl) (fun _ _ _ h => h) (Or.inl ⟨by rfl, ?_⟩) hS ?_
  rotate_left
  · intro W hW
    obtain ⟨⟨s0, s1, s2⟩, ⟨s3, s4, s5⟩, _, _⟩ := HC.out W hW
    go_simp
    try with_reducible rfl
  simp only [List.setIfInBounds_toArray, List.set_cons_zero, List.set_cons_succ]
  refine take_to (i := 3) (v := ?_) 18 rfl rfl (by kernel_rfl) (by kernel_rfl) (by kernel_rfl) (fun _ _ _ h => h) (Or.inl ⟨by rfl, ?_⟩) hS ?_
  rotate_left
  · intro W hW
    obtain ⟨⟨s0, s1, s2⟩, ⟨s3, s4, s5⟩, _, _⟩ := HC.out W hW
    go_simp
    try with_reducible rfl
  simp only [List.setIfInBounds_toArray, List.set_cons_zero, List.set_cons_succ]
  refine take_to (i := 7) (v := ?_) 22 rfl rfl (by kernel_rfl) (by kernel_rfl) (by kernel_rfl) (fun _ _ _ h => h) (Or.inl ⟨by rfl, ?_⟩) hS ?_
  rotate_left
  · intro W hW
    obtain ⟨⟨s0, s1, s2⟩, ⟨s3, s4, s5⟩, _, _⟩ := HC.out W hW
    go_simp
    try with_reducible rfl
  simp only [List.setIfInBounds_toArray, List.set_cons_zero, List.set_cons_succ]
  refine take_to (i := 8) (v := ?_) 23 rfl rfl (by kernel_rfl) (by kernel_rfl) (by kernel_rfl) (fun _ _ _ h => h) (Or.inl ⟨by rfl, ?_⟩) hS ?_
  rotate_left
  · intro W hW
    obtain ⟨⟨s0, s1, s2⟩, ⟨s3, s4, s5⟩, _, _⟩ := HC.out W hW
    go_simp
    try with_reducible rfl
  simp only [List.setIfInBounds_toArray, List.set_cons_zero, List.set_cons_succ]
  refine wpAnyH_ready (rs := [1]) (by kernel_rfl) (by simp) ?_
  refine AllReadyH.cons rfl (fun K hK => ?_) AllReadyH.nil
  go_simp
  obtain ⟨_, _, rl, _⟩ := HC.out _ (ext_drew W1)
  refine (sput_any none 0 0 [] x M HMM.out _ (Row.nil _) rl HM.out (by omega)).mono ?_
  rintro e w4 ⟨g4, c4, rfl, o4, b4⟩
  have r4 := o4.row
  rw [List.nil_append] at r4
  have hb4 := ext_trans (ext_drew W1) b4
  clear o4 rl
  generalize 0 + M = LL at r4 ⊢
  refine hK.out _ _ hb4 fun hS => ?_
  clear hK K
  refine wpAnyH_more (S' := fun W => Below w4.heap.size w4 W) (fun _ h => ext_trans hb4 h) _ _ _ _ ?_
  have hS : Below w4.heap.size w4 w4 := Below.refl _ _
  refine take_to (i := 2) (v := ?_) 17 rfl rfl (by kernel_rfl) (by kernel_rfl) (by kernel_rfl) (fun _ _ _ h => h) (Or.inl ⟨by rfl, ?_⟩) hS ?_
  rotate_left
  · intro W hW
    have s4 := strB.out _ _ _ _ _ (r4.below hW)
    go_simp
    try with_reducible rfl
  simp only [List.setIfInBounds_toArray, List.set_cons_zero, List.set_cons_succ]
  refine wpAnyH_ready (rs := [4]) (by kernel_rfl) (by simp) ?_
  refine AllReadyH.cons rfl (fun K hK => ?_) AllReadyH.nil
  go_simp
  obtain ⟨_, _, _, rl⟩ := HC.out _ hb4
  refine (sput_any none 0 0 [] y M' HMM'.out _ (Row.nil _) rl HM'.out (by omega)).mono ?_
  rintro e w5 ⟨g5, c5, rfl, o5, b5⟩
  have r5 := o5.row
  rw [List.nil_append] at r5
  have hb5 := ext_trans hb4 b5
  clear o5 rl
  generalize 0 + M' = LL' at r5 ⊢
  refine hK.out _ _ b5 fun hS => ?_
  clear hK K
  refine wpAnyH_more (S' := fun W => Below w5.heap.size w5 W) (fun _ h => ext_trans b5 h) _ _ _ _ ?_
  have hS : Below w5.heap.size w5 w5 := Below.refl _ _
  refine take_to (i := 5) (v := ?_) 20 rfl rfl (by kernel_rfl) (by kernel_rfl) (by kernel_rfl) (fun _ _ _ h => h) (Or.inl ⟨by rfl, ?_⟩) hS ?_
  rotate_left
  · intro W hW
    have s5 := strB.out _ _ _ _ _ (r5.below hW)
    go_simp
    try with_reducible rfl
  simp only [List.setIfInBounds_toArray, List.set_cons_zero, List.set_cons_succ]
  refine take_to (i := 6) (v := ?_) 21 rfl rfl (by kernel_rfl) (by kernel_rfl) (by kernel_rfl) (fun _ _ _ h => h) (Or.inl ⟨by rfl, ?_⟩) hS ?_
  rotate_left
  · intro W hW
    have s5 := strB.out _ _ _ _ _ (r5.below hW)
    go_simp
    try with_reducible rfl
  simp only [List.setIfInBounds_toArray, List.set_cons_zero, List.set_cons_succ]
  refine wpAnyH_ready (rs := [9]) (by kernel_rfl) (by simp) ?_
  refine AllReadyH.cons rfl (fun K hK => ?_) AllReadyH.nil
  go_simp
  obtain ⟨_, _, rl, rl'⟩ := HC.out _ hb5
  refine (refSame_any x y _ rl rl').mono ?_
  rintro e w6 ⟨rfl, b6⟩
  have hb6 := ext_trans hb5 b6
  rw [HQ.out]
  generalize ((strOfNums (encV x.xs x.ys x.zs)).toList == (strOfNums (encV y.xs y.ys y.zs)).toList) = q
  refine hK.out _ _ b6 fun hS => ?_
  clear hK K
  refine take_to (i := 10) (v := ?_) 25 rfl rfl (by kernel_rfl) (by kernel_rfl) (by kernel_rfl) (fun _ _ _ h => h) (Or.inl ⟨by rfl, ?_⟩) hS ?_
  rotate_left
  · intro W hW
    have s5 := strB.out _ _ _ _ _ (r5.below hW)
    go_simp
    try with_reducible rfl
  simp only [List.setIfInBounds_toArray, List.set_cons_zero, List.set_cons_succ]
  refine take_to (i := 11) (v := ?_) 4 rfl rfl (by kernel_rfl) (by kernel_rfl) (by kernel_rfl) (fun _ _ _ h => h) (Or.inl ⟨by rfl, ?_⟩) hS ?_
  rotate_left
  · intro W hW
    have s5 := strB.out _ _ _ _ _ (r5.below hW)
    go_simp
    try with_reducible rfl
  simp only [List.setIfInBounds_toArray, List.set_cons_zero, List.set_cons_succ]
  refine wpAnyH_done (by kernel_rfl) ?_ _
  refine NoPanic.normal ?_
  go_wp2_with fail
  go_ret
  exact ⟨rfl, ext_trans hbW1 hb6⟩
end Go.Proofs.Ytaogggldpjljoaa
