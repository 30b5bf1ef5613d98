/- ScodeAll walked: it answers true, and turns nothing that was there. -/
import Derived.Test.YtaogggldpjljoaaScBegun
import Derived.Test.YtaogggldpjljoaaScRefTake
namespace Go.Proofs.Ytaogggldpjljoaa
open Go.RowKit
set_option linter.unusedVariables false

set_option maxHeartbeats 4000000 in
theorem scodeAll_walk (x : Sv) (b : Option Addr) (m cb : Nat) (bs : List Int) (w : World) (hx : x.In w) (hs : Row w b m cb bs) :
    Calls Try.prog 3 #[.agg #[.slice x.a1 x.n1 x.c1, .slice x.a2 x.n2 x.c2, .slice x.a3 x.n3 x.c3], .slice b m cb] w fun e w' => e = .returned (.bool true) ∧ Below w.heap.size w w' := by
  have h0 := below_alloc w (Obj.cells #[.slice x.a1 x.n1 x.c1, .slice x.a2 x.n2 x.c2, .slice x.a3 x.n3 x.c3] 24)
  have HK : Hid (∀ W, Below (w.alloc (Obj.cells #[.slice x.a1 x.n1 x.c1, .slice x.a2 x.n2 x.c2, .slice x.a3 x.n3 x.c3] 24)).heap.size (w.alloc (Obj.cells #[.slice x.a1 x.n1 x.c1, .slice x.a2 x.n2 x.c2, .slice x.a3 x.n3 x.c3] 24)) W → Boxed W w.heap.size x ∧ x.In W ∧ Row W b m cb bs) := fun W h =>
    ⟨(Boxed.new w x).below h, hx.below (ext_trans h0 h), hs.below (ext_trans h0 h)⟩
  go_enter Try.func3, Try.ntmps3
  go_wp2_with fail
  refine (begun9_true _).mono ?_
  rintro e w1 ⟨rfl, b1⟩
  by_cases hm : m ≤ 120
  case neg =>
    have hm' : (120 : Int) < (m : Int) := by omega
    go_wp2_with fail
    go_ret
    exact ⟨rfl, ext_trans h0 b1⟩
  have hm' : decide ((120 : Int) < (m : Int)) = false := by simp; omega
  obtain ⟨_, _, rb1⟩ := HK.out _ b1
  go_wp2_with fail
  refine (stake_any b m cb bs _ rb1 (by omega)).mono ?_
  rintro e w2 ⟨y, rfl, iy, ly, b2⟩
  have HY : Hid (y.xs = svX bs ∧ y.ys = svY bs ∧ y.zs = svZ bs) := ly
  clear ly rb1
  have h2 := below_alloc w2 (Obj.cells #[.slice y.a1 y.n1 y.c1, .slice y.a2 y.n2 y.c2, .slice y.a3 y.n3 y.c3] 24)
  have hbA := ext_trans (ext_trans b1 b2) h2
  have by2 := Boxed.new w2 y
  have iy2 := iy.below h2
  have hT := refTakeS_any b m cb bs _ (HK.out _ hbA).2.2 (by omega)
  obtain ⟨V2, hV2⟩ : ∃ V, V = w2.alloc (Obj.cells #[.slice y.a1 y.n1 y.c1, .slice y.a2 y.n2 y.c2, .slice y.a3 y.n3 y.c3] 24) := ⟨_, rfl⟩
  rw [← hV2] at hT hbA by2 iy2 h2
  have HV2 : Hid (V2 = w2.alloc (Obj.cells #[.slice y.a1 y.n1 y.c1, .slice y.a2 y.n2 y.c2, .slice y.a3 y.n3 y.c3] 24)) := hV2
  clear hV2 iy
  go_wp2_with fail
  rw [← HV2.out]
  refine hT.mono ?_
  rintro e w3 ⟨z, rfl, iz, lz, b3⟩
  have HZ : Hid (z.xs = svX bs ∧ z.ys = svY bs ∧ z.zs = svZ bs) := lz
  clear lz hT
  have h3 := below_alloc w3 (Obj.cells #[.slice z.a1 z.n1 z.c1, .slice z.a2 z.n2 z.c2, .slice z.a3 z.n3 z.c3] 24)
  have hbB := ext_trans (ext_trans hbA b3) h3
  have bz3 := Boxed.new w3 z
  have by3 := by2.below (ext_trans b3 h3)
  have hsm := refSame_any y z _ (iy2.below (ext_trans b3 h3)) (iz.below h3)
  rw [(Sv.same_iff y z).2 ⟨by rw [HY.out.1, HZ.out.1], by rw [HY.out.2.1, HZ.out.2.1], by rw [HY.out.2.2, HZ.out.2.2]⟩] at hsm
  obtain ⟨y0, y1, y2⟩ := by3
  obtain ⟨z0, z1, z2⟩ := bz3
  generalize svN bs = TN
  generalize svE bs = TE
  clear iz iy2 by2
  go_wp2_with fail
  refine hsm.mono ?_
  rintro e W1 ⟨rfl, b4⟩
  have hbC := ext_trans hbB b4
  have hbW1 := ext_trans h0 hbC
  have HC : Hid (∀ W, Below W1.heap.size W1 W → Boxed W w.heap.size x ∧ x.In W ∧ Row W b m cb bs) := fun W h => HK.out W (ext_trans hbC h)
  clear HK hsm y0 y1 y2 z0 z1 z2 h2 h3 b1 b2 b3 b4 hbA hbB hbC h0 HV2 HY HZ
  cases hmay : mayB x.xs x.ys x.zs
  · have HM : Hid (mayB x.xs x.ys x.zs = false) := hmay
    clear hmay
    go_wp2_with fail
    refine wp_region_noPanic ?_
    refine wp_region_held_drew (S := fun W => Below W1.heap.size W1 W) (by kernel_rfl) (ext_drew W1) fun hS => ?_
    refine take_to (i := 0) (v := ?_) 42 rfl rfl (by kernel_rfl) (by kernel_rfl) (by kernel_rfl) (fun _ _ _ h => h) (Or.inl ⟨by rfl, ?_⟩) hS ?_
    rotate_left
    · intro W hW
      obtain ⟨⟨s0, s1, s2⟩, _, _⟩ := HC.out W hW
      go_simp
      try with_reducible rfl
    simp only [List.setIfInBounds_toArray, List.set_cons_zero, List.set_cons_succ]
    refine wpAnyH_ready (rs := [1]) (by kernel_rfl) (by simp) ?_
    refine AllReadyH.cons rfl (fun K hK => ?_) AllReadyH.nil
    go_simp
    obtain ⟨_, rl, _⟩ := HC.out _ (ext_drew W1)
    refine (refMaySets_any x _ rl).mono ?_
    rintro e w3 ⟨rfl, hb3⟩
    rw [HM.out]
    replace hb3 := ext_trans (ext_drew W1) hb3
    clear rl
    refine hK.out _ _ hb3 fun hS => ?_
    clear hK K
    refine take_to (i := 2) (v := ?_) 44 rfl rfl (by kernel_rfl) (by kernel_rfl) (by kernel_rfl) (fun _ _ _ h => h) (Or.inl ⟨by rfl, ?_⟩) hS ?_
    rotate_left
    · intro W hW
      obtain ⟨⟨s0, s1, s2⟩, _, _⟩ := HC.out W hW
      go_simp
      try with_reducible rfl
    simp only [List.setIfInBounds_toArray, List.set_cons_zero, List.set_cons_succ]
    refine take_to (i := 3) (v := ?_) 45 rfl rfl (by kernel_rfl) (by kernel_rfl) (by kernel_rfl) (fun _ _ _ h => h) (Or.inl ⟨by rfl, ?_⟩) hS ?_
    rotate_left
    · intro W hW
      obtain ⟨⟨s0, s1, s2⟩, _, _⟩ := HC.out W hW
      go_simp
      try with_reducible rfl
    simp only [List.setIfInBounds_toArray, List.set_cons_zero, List.set_cons_succ]
    refine take_to (i := 4) (v := undef) 46 rfl rfl (by kernel_rfl) (by kernel_rfl) (by kernel_rfl) (fun _ _ _ h => h) (Or.inr ⟨by rfl, rfl⟩) hS ?_
    simp only [List.setIfInBounds_toArray, List.set_cons_zero, List.set_cons_succ]
    refine take_to (i := 5) (v := undef) 47 rfl rfl (by kernel_rfl) (by kernel_rfl) (by kernel_rfl) (fun _ _ _ h => h) (Or.inr ⟨by rfl, rfl⟩) hS ?_
    simp only [List.setIfInBounds_toArray, List.set_cons_zero, List.set_cons_succ]
    refine take_to (i := 6) (v := undef) 48 rfl rfl (by kernel_rfl) (by kernel_rfl) (by kernel_rfl) (fun _ _ _ h => h) (Or.inr ⟨by rfl, rfl⟩) hS ?_
    simp only [List.setIfInBounds_toArray, List.set_cons_zero, List.set_cons_succ]
    refine take_to (i := 7) (v := undef) 49 rfl rfl (by kernel_rfl) (by kernel_rfl) (by kernel_rfl) (fun _ _ _ h => h) (Or.inr ⟨by rfl, rfl⟩) hS ?_
    simp only [List.setIfInBounds_toArray, List.set_cons_zero, List.set_cons_succ]
    refine take_to (i := 8) (v := undef) 50 rfl rfl (by kernel_rfl) (by kernel_rfl) (by kernel_rfl) (fun _ _ _ h => h) (Or.inr ⟨by rfl, rfl⟩) hS ?_
    simp only [List.setIfInBounds_toArray, List.set_cons_zero, List.set_cons_succ]
    refine take_to (i := 9) (v := undef) 51 rfl rfl (by kernel_rfl) (by kernel_rfl) (by kernel_rfl) (fun _ _ _ h => h) (Or.inr ⟨by rfl, rfl⟩) hS ?_
    simp only [List.setIfInBounds_toArray, List.set_cons_zero, List.set_cons_succ]
    refine take_to (i := 10) (v := undef) 52 rfl rfl (by kernel_rfl) (by kernel_rfl) (by kernel_rfl) (fun _ _ _ h => h) (Or.inr ⟨by rfl, rfl⟩) hS ?_
    simp only [List.setIfInBounds_toArray, List.set_cons_zero, List.set_cons_succ]
    refine take_to (i := 11) (v := undef) 53 rfl rfl (by kernel_rfl) (by kernel_rfl) (by kernel_rfl) (fun _ _ _ h => h) (Or.inr ⟨by rfl, rfl⟩) hS ?_
    simp only [List.setIfInBounds_toArray, List.set_cons_zero, List.set_cons_succ]
    refine take_to (i := 12) (v := undef) 54 rfl rfl (by kernel_rfl) (by kernel_rfl) (by kernel_rfl) (fun _ _ _ h => h) (Or.inr ⟨by rfl, rfl⟩) hS ?_
    simp only [List.setIfInBounds_toArray, List.set_cons_zero, List.set_cons_succ]
    refine take_to (i := 13) (v := ?_) 55 rfl rfl (by kernel_rfl) (by kernel_rfl) (by kernel_rfl) (fun _ _ _ h => h) (Or.inl ⟨by rfl, ?_⟩) hS ?_
    rotate_left
    · intro W hW
      obtain ⟨⟨s0, s1, s2⟩, _, _⟩ := HC.out W hW
      go_simp
      try with_reducible rfl
    simp only [List.setIfInBounds_toArray, List.set_cons_zero, List.set_cons_succ]
    refine take_to (i := 14) (v := ?_) 4 rfl rfl (by kernel_rfl) (by kernel_rfl) (by kernel_rfl) (fun _ _ _ h => h) (Or.inl ⟨by rfl, ?_⟩) hS ?_
    rotate_left
    · intro W hW
      obtain ⟨⟨s0, s1, s2⟩, _, _⟩ := HC.out W hW
      go_simp
      try with_reducible rfl
    simp only [List.setIfInBounds_toArray, List.set_cons_zero, List.set_cons_succ]
    refine wpAnyH_done (by kernel_rfl) ?_ _
    refine NoPanic.normal ?_
    go_wp2_with fail
    go_ret
    exact ⟨rfl, ext_trans hbW1 hb3⟩
  · have HM : Hid (mayB x.xs x.ys x.zs = true) := hmay
    obtain ⟨M, hMM⟩ : ∃ M, M = 3 + 2 * (x.n1 + x.n2 + x.n3) := ⟨_, rfl⟩
    have HMM : Hid (M = 3 + 2 * (x.n1 + x.n2 + x.n3)) := hMM
    clear hmay hMM
    go_wp2_with fail
    refine wp_region_noPanic ?_
    refine wp_region_held_drew (S := fun W => Below W1.heap.size W1 W) (by kernel_rfl) (ext_drew W1) fun hS => ?_
    refine take_to (i := 0) (v := ?_) 42 rfl rfl (by kernel_rfl) (by kernel_rfl) (by kernel_rfl) (fun _ _ _ h => h) (Or.inl ⟨by rfl, ?_⟩) hS ?_
    rotate_left
    · intro W hW
      obtain ⟨⟨s0, s1, s2⟩, _, _⟩ := HC.out W hW
      go_simp
      try with_reducible rfl
    simp only [List.setIfInBounds_toArray, List.set_cons_zero, List.set_cons_succ]
    refine wpAnyH_ready (rs := [1]) (by kernel_rfl) (by simp) ?_
    refine AllReadyH.cons rfl (fun K hK => ?_) AllReadyH.nil
    go_simp
    obtain ⟨_, rl, _⟩ := HC.out _ (ext_drew W1)
    refine (refMaySets_any x _ rl).mono ?_
    rintro e w3 ⟨rfl, hb3⟩
    rw [HM.out]
    replace hb3 := ext_trans (ext_drew W1) hb3
    clear rl
    refine hK.out _ _ hb3 fun hS => ?_
    clear hK K
    refine take_to (i := 2) (v := ?_) 44 rfl rfl (by kernel_rfl) (by kernel_rfl) (by kernel_rfl) (fun _ _ _ h => h) (Or.inl ⟨by rfl, ?_⟩) hS ?_
    rotate_left
    · intro W hW
      obtain ⟨⟨s0, s1, s2⟩, _, _⟩ := HC.out W hW
      go_simp
      try with_reducible rfl
    simp only [List.setIfInBounds_toArray, List.set_cons_zero, List.set_cons_succ]
    refine take_to (i := 3) (v := ?_) 45 rfl rfl (by kernel_rfl) (by kernel_rfl) (by kernel_rfl) (fun _ _ _ h => h) (Or.inl ⟨by rfl, ?_⟩) hS ?_
    rotate_left
    · intro W hW
      obtain ⟨⟨s0, s1, s2⟩, _, _⟩ := HC.out W hW
      go_simp
      try with_reducible rfl
    simp only [List.setIfInBounds_toArray, List.set_cons_zero, List.set_cons_succ]
    refine take_to (i := 4) (v := ?_) 46 rfl rfl (by kernel_rfl) (by kernel_rfl) (by kernel_rfl) (fun _ _ _ h => h) (Or.inl ⟨by rfl, ?_⟩) hS ?_
    rotate_left
    · intro W hW
      obtain ⟨⟨s0, s1, s2⟩, _, _⟩ := HC.out W hW
      go_simp
      try with_reducible rfl
    simp only [List.setIfInBounds_toArray, List.set_cons_zero, List.set_cons_succ]
    refine take_to (i := 5) (v := ?_) 47 rfl rfl (by kernel_rfl) (by kernel_rfl) (by kernel_rfl) (fun _ _ _ h => h) (Or.inl ⟨by rfl, ?_⟩) hS ?_
    rotate_left
    · intro W hW
      obtain ⟨⟨s0, s1, s2⟩, _, _⟩ := HC.out W hW
      go_simp
      try with_reducible rfl
    simp only [List.setIfInBounds_toArray, List.set_cons_zero, List.set_cons_succ]
    refine take_to (i := 8) (v := ?_) 50 rfl rfl (by kernel_rfl) (by kernel_rfl) (by kernel_rfl) (fun _ _ _ h => h) (Or.inl ⟨by rfl, ?_⟩) hS ?_
    rotate_left
    · intro W hW
      obtain ⟨⟨s0, s1, s2⟩, _, _⟩ := HC.out W hW
      go_simp
      try with_reducible rfl
    simp only [List.setIfInBounds_toArray, List.set_cons_zero, List.set_cons_succ]
    refine take_to (i := 9) (v := ?_) 51 rfl rfl (by kernel_rfl) (by kernel_rfl) (by kernel_rfl) (fun _ _ _ h => h) (Or.inl ⟨by rfl, ?_⟩) hS ?_
    rotate_left
    · intro W hW
      obtain ⟨⟨s0, s1, s2⟩, _, _⟩ := HC.out W hW
      go_simp
      try with_reducible rfl
    simp only [List.setIfInBounds_toArray, List.set_cons_zero, List.set_cons_succ]
    refine wpAnyH_ready (rs := [6]) (by kernel_rfl) (by simp) ?_
    refine AllReadyH.cons rfl (fun K hK => ?_) AllReadyH.nil
    go_simp
    obtain ⟨_, rl, rb⟩ := HC.out _ hb3
    refine (sput_any b m cb bs x M HMM.out _ rb rl HM.out (by omega)).mono ?_
    rintro e w4 ⟨g4, c4, rfl, o4, b4⟩
    have r4 := o4.row
    have hb4 := ext_trans hb3 b4
    clear o4 rl rb
    generalize m + M = LL at r4 ⊢
    refine hK.out _ _ hb4 fun hS => ?_
    clear hK K
    refine wpAnyH_more (S' := fun W => Below w4.heap.size w4 W) (fun _ h => ext_trans hb4 h) _ _ _ _ ?_
    have hS : Below w4.heap.size w4 w4 := Below.refl _ _
    refine take_to (i := 7) (v := ?_) 49 rfl rfl (by kernel_rfl) (by kernel_rfl) (by kernel_rfl) (fun _ _ _ h => h) (Or.inl ⟨by rfl, ?_⟩) hS ?_
    rotate_left
    · intro W hW
      have s4 := strB.out _ _ _ _ _ (r4.below hW)
      go_simp
      try with_reducible rfl
    simp only [List.setIfInBounds_toArray, List.set_cons_zero, List.set_cons_succ]
    refine wpAnyH_ready (rs := [10]) (by kernel_rfl) (by simp) ?_
    refine AllReadyH.cons rfl (fun K hK => ?_) AllReadyH.nil
    go_simp
    obtain ⟨_, rl, rb⟩ := HC.out _ hb4
    refine (refSput_any b m cb bs x M HMM.out _ rb rl HM.out (by omega)).mono ?_
    rintro e w5 ⟨g5, c5, rfl, o5, b5⟩
    have r5 := o5.row
    generalize m + M = LL' at r5 ⊢
    have hb5 := ext_trans hb4 b5
    clear o5 rl rb
    refine hK.out _ _ b5 fun hS => ?_
    clear hK K
    refine wpAnyH_more (S' := fun W => Below w5.heap.size w5 W) (fun _ h => ext_trans b5 h) _ _ _ _ ?_
    have hS : Below w5.heap.size w5 w5 := Below.refl _ _
    refine take_to (i := 11) (v := ?_) 53 rfl rfl (by kernel_rfl) (by kernel_rfl) (by kernel_rfl) (fun _ _ _ h => h) (Or.inl ⟨by rfl, ?_⟩) hS ?_
    rotate_left
    · intro W hW
      have s5 := strB.out _ _ _ _ _ (r5.below hW)
      go_simp
      try with_reducible rfl
    simp only [List.setIfInBounds_toArray, List.set_cons_zero, List.set_cons_succ]
    refine take_to (i := 12) (v := ?_) 54 rfl rfl (by kernel_rfl) (by kernel_rfl) (by kernel_rfl) (fun _ _ _ h => h) (Or.inl ⟨by rfl, ?_⟩) hS ?_
    rotate_left
    · intro W hW
      have s5 := strB.out _ _ _ _ _ (r5.below hW)
      go_simp
      try with_reducible rfl
    simp only [List.setIfInBounds_toArray, List.set_cons_zero, List.set_cons_succ]
    refine take_to (i := 13) (v := ?_) 55 rfl rfl (by kernel_rfl) (by kernel_rfl) (by kernel_rfl) (fun _ _ _ h => h) (Or.inl ⟨by rfl, ?_⟩) hS ?_
    rotate_left
    · intro W hW
      have s5 := strB.out _ _ _ _ _ (r5.below hW)
      go_simp
      try with_reducible rfl
    simp only [List.setIfInBounds_toArray, List.set_cons_zero, List.set_cons_succ]
    refine take_to (i := 14) (v := ?_) 4 rfl rfl (by kernel_rfl) (by kernel_rfl) (by kernel_rfl) (fun _ _ _ h => h) (Or.inl ⟨by rfl, ?_⟩) hS ?_
    rotate_left
    · intro W hW
      have s5 := strB.out _ _ _ _ _ (r5.below hW)
      go_simp
      try with_reducible rfl
    simp only [List.setIfInBounds_toArray, List.set_cons_zero, List.set_cons_succ]
    refine wpAnyH_done (by kernel_rfl) ?_ _
    refine NoPanic.normal ?_
    go_wp2_with fail
    go_ret
    exact ⟨rfl, ext_trans hbW1 hb5⟩
end Go.Proofs.Ytaogggldpjljoaa
