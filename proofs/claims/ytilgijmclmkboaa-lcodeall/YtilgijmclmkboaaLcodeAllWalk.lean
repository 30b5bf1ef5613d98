/- LcodeAll walked: it answers true, and turns nothing that was there. -/
import Derived.Test.YtilgijmclmkboaaLcBegun
import Derived.Test.YtilgijmclmkboaaLcRefTake
import Derived.Test.YtilgijmclmkboaaLcRefPut
namespace Go.Proofs.Ytilgijmclmkboaa
open Go.RowKit
set_option linter.unusedVariables false

set_option maxHeartbeats 4000000 in
theorem lcodeAll_walk (d : Int) (a : Option Addr) (n c : Nat) (xs : List (Int × Int)) (b : Option Addr) (m cb : Nat) (bs : List Int) (w : World) (hr : RowG PE w a n c xs) (hs : Row w b m cb bs) :
    Calls Try.prog 3 #[.agg #[.int .u8 d, .slice a n c], .slice b m cb] w fun e w' => e = .returned (.bool true) ∧ Below w.heap.size w w' := by
  have h0 := below_alloc w (.cells #[.int .u8 d, .slice a n c] 24)
  have HK : Hid (∀ W, Below (w.alloc (.cells #[.int .u8 d, .slice a n c] 24)).heap.size (w.alloc (.cells #[.int .u8 d, .slice a n c] 24)) W → W.cell? ⟨w.heap.size, 0, none⟩ = some (.int .u8 d) ∧ W.cell? ⟨w.heap.size, 1, none⟩ = some (.slice a n c) ∧ RowG PE W a n c xs ∧ Row W b m cb bs) := fun W h =>
    ⟨by rw [h.cell (by simp)]; simp, by rw [h.cell (by simp)]; simp, hr.below (ext_trans h0 h), hs.below (ext_trans h0 h)⟩
  go_enter Try.func3, Try.ntmps3
  go_wp2_with fail
  refine (begun6_true _).mono ?_
  rintro e w1 ⟨rfl, b1⟩
  by_cases hm : m ≤ 100
  case neg =>
    have hm' : (100 : Int) < (m : Int) := by omega
    go_wp2_with fail
    go_ret
    exact ⟨rfl, ext_trans h0 b1⟩
  have hm' : decide ((100 : Int) < (m : Int)) = false := by simp; omega
  obtain ⟨_, _, _, rb1⟩ := HK.out _ b1
  go_wp2_with fail
  refine (ltake_any b m cb bs _ rb1 (by omega)).mono ?_
  rintro e w2 ⟨s2, k2, c2, rfl, o2, b2⟩
  have rx := o2.row
  clear o2 rb1
  have h2 := below_alloc w2 (.cells #[.int .u8 (tlD bs), .slice s2 k2 c2] 24)
  have hbA := ext_trans (ext_trans b1 b2) h2
  have x0 : (w2.alloc (.cells #[.int .u8 (tlD bs), .slice s2 k2 c2] 24)).cell? ⟨w2.heap.size, 0, none⟩ = some (.int .u8 (tlD bs)) := by simp
  have x1 : (w2.alloc (.cells #[.int .u8 (tlD bs), .slice s2 k2 c2] 24)).cell? ⟨w2.heap.size, 1, none⟩ = some (.slice s2 k2 c2) := by simp
  replace rx := rx.below h2
  have hT := refTakeL_any b m cb bs _ (HK.out _ hbA).2.2.2 (by omega)
  go_wp2_with fail
  refine hT.mono ?_
  rintro e w3 ⟨s3, k3, c3, rfl, o3, b3⟩
  have ry := o3.row
  have y0 : w3.cell? ⟨w2.heap.size, 0, none⟩ = some (.int .u8 (tlD bs)) := by rw [b3.cell (lt_of_cell x0)]; exact x0
  have y1 : w3.cell? ⟨w2.heap.size, 1, none⟩ = some (.slice s2 k2 c2) := by rw [b3.cell (lt_of_cell x1)]; exact x1
  replace rx := rx.below b3
  have h3 := below_alloc w3 (.cells #[.int .u8 (tlD bs), .slice s3 k3 c3] 24)
  have hbB := ext_trans (ext_trans hbA b3) h3
  have z0 := cell_old (.cells #[.int .u8 (tlD bs), .slice s3 k3 c3] 24) y0
  have z1 := cell_old (.cells #[.int .u8 (tlD bs), .slice s3 k3 c3] 24) y1
  have hsm := refSame_any (tlD bs) s2 k2 c2 (tlP bs) (tlD bs) s3 k3 c3 (tlP bs) _ (rx.below h3) (ry.below h3)
  rw [decide_eq_true (And.intro rfl rfl)] at hsm
  generalize tlD bs = TD at *
  generalize tlN bs = TN
  generalize tlE bs = TE
  clear o3 hT x0 x1 rx ry y0 y1
  go_wp2_with fail
  refine hsm.mono ?_
  rintro e W1 ⟨rfl, b4⟩
  have hbC := ext_trans hbB b4
  have hbW1 := ext_trans h0 hbC
  have HC : Hid (∀ W, Below W1.heap.size W1 W → W.cell? ⟨w.heap.size, 0, none⟩ = some (.int .u8 d) ∧ W.cell? ⟨w.heap.size, 1, none⟩ = some (.slice a n c) ∧ RowG PE W a n c xs ∧ Row W b m cb bs) := fun W h => HK.out W (ext_trans hbC h)
  clear HK hsm z0 z1 h2 h3 b1 b2 b3 b4 hbA hbB hbC h0
  cases hmay : mayB d xs
  · have HM : Hid (mayB d xs = false) := hmay
    clear hmay
    go_wp2_with fail
    refine wp_region_noPanic ?_
    refine wp_region_held_drew (S := fun W => Below W1.heap.size W1 W) (by kernel_rfl) (ext_drew W1) fun hS => ?_
    refine take_to (i := 0) (v := ?_) 42 rfl rfl (by kernel_rfl) (by kernel_rfl) (by kernel_rfl) (fun _ _ _ h => h) (Or.inl ⟨by rfl, ?_⟩) hS ?_
    rotate_left
    · intro W hW
      obtain ⟨s0, s1, _, _⟩ := HC.out W hW
      go_simp
      try with_reducible rfl
    simp only [List.setIfInBounds_toArray, List.set_cons_zero, List.set_cons_succ]
    refine wpAnyH_ready (rs := [1]) (by kernel_rfl) (by simp) ?_
    refine AllReadyH.cons rfl (fun K hK => ?_) AllReadyH.nil
    go_simp
    obtain ⟨_, _, rl, _⟩ := HC.out _ (ext_drew W1)
    refine (refMay_any d a n c xs _ rl).mono ?_
    rintro e w3 ⟨rfl, hb3⟩
    rw [HM.out]
    replace hb3 := ext_trans (ext_drew W1) hb3
    clear rl
    refine hK.out _ _ hb3 fun hS => ?_
    clear hK K
    refine take_to (i := 2) (v := ?_) 44 rfl rfl (by kernel_rfl) (by kernel_rfl) (by kernel_rfl) (fun _ _ _ h => h) (Or.inl ⟨by rfl, ?_⟩) hS ?_
    rotate_left
    · intro W hW
      obtain ⟨s0, s1, _, _⟩ := HC.out W hW
      go_simp
      try with_reducible rfl
    simp only [List.setIfInBounds_toArray, List.set_cons_zero, List.set_cons_succ]
    refine take_to (i := 3) (v := ?_) 45 rfl rfl (by kernel_rfl) (by kernel_rfl) (by kernel_rfl) (fun _ _ _ h => h) (Or.inl ⟨by rfl, ?_⟩) hS ?_
    rotate_left
    · intro W hW
      obtain ⟨s0, s1, _, _⟩ := HC.out W hW
      go_simp
      try with_reducible rfl
    simp only [List.setIfInBounds_toArray, List.set_cons_zero, List.set_cons_succ]
    refine take_to (i := 4) (v := undef) 46 rfl rfl (by kernel_rfl) (by kernel_rfl) (by kernel_rfl) (fun _ _ _ h => h) (Or.inr ⟨by rfl, rfl⟩) hS ?_
    simp only [List.setIfInBounds_toArray, List.set_cons_zero, List.set_cons_succ]
    refine take_to (i := 5) (v := undef) 47 rfl rfl (by kernel_rfl) (by kernel_rfl) (by kernel_rfl) (fun _ _ _ h => h) (Or.inr ⟨by rfl, rfl⟩) hS ?_
    simp only [List.setIfInBounds_toArray, List.set_cons_zero, List.set_cons_succ]
    refine take_to (i := 6) (v := undef) 48 rfl rfl (by kernel_rfl) (by kernel_rfl) (by kernel_rfl) (fun _ _ _ h => h) (Or.inr ⟨by rfl, rfl⟩) hS ?_
    simp only [List.setIfInBounds_toArray, List.set_cons_zero, List.set_cons_succ]
    refine take_to (i := 7) (v := undef) 49 rfl rfl (by kernel_rfl) (by kernel_rfl) (by kernel_rfl) (fun _ _ _ h => h) (Or.inr ⟨by rfl, rfl⟩) hS ?_
    simp only [List.setIfInBounds_toArray, List.set_cons_zero, List.set_cons_succ]
    refine take_to (i := 8) (v := undef) 50 rfl rfl (by kernel_rfl) (by kernel_rfl) (by kernel_rfl) (fun _ _ _ h => h) (Or.inr ⟨by rfl, rfl⟩) hS ?_
    simp only [List.setIfInBounds_toArray, List.set_cons_zero, List.set_cons_succ]
    refine take_to (i := 9) (v := undef) 51 rfl rfl (by kernel_rfl) (by kernel_rfl) (by kernel_rfl) (fun _ _ _ h => h) (Or.inr ⟨by rfl, rfl⟩) hS ?_
    simp only [List.setIfInBounds_toArray, List.set_cons_zero, List.set_cons_succ]
    refine take_to (i := 10) (v := undef) 52 rfl rfl (by kernel_rfl) (by kernel_rfl) (by kernel_rfl) (fun _ _ _ h => h) (Or.inr ⟨by rfl, rfl⟩) hS ?_
    simp only [List.setIfInBounds_toArray, List.set_cons_zero, List.set_cons_succ]
    refine take_to (i := 11) (v := undef) 53 rfl rfl (by kernel_rfl) (by kernel_rfl) (by kernel_rfl) (fun _ _ _ h => h) (Or.inr ⟨by rfl, rfl⟩) hS ?_
    simp only [List.setIfInBounds_toArray, List.set_cons_zero, List.set_cons_succ]
    refine take_to (i := 12) (v := undef) 54 rfl rfl (by kernel_rfl) (by kernel_rfl) (by kernel_rfl) (fun _ _ _ h => h) (Or.inr ⟨by rfl, rfl⟩) hS ?_
    simp only [List.setIfInBounds_toArray, List.set_cons_zero, List.set_cons_succ]
    refine take_to (i := 13) (v := ?_) 55 rfl rfl (by kernel_rfl) (by kernel_rfl) (by kernel_rfl) (fun _ _ _ h => h) (Or.inl ⟨by rfl, ?_⟩) hS ?_
    rotate_left
    · intro W hW
      obtain ⟨s0, s1, _, _⟩ := HC.out W hW
      go_simp
      try with_reducible rfl
    simp only [List.setIfInBounds_toArray, List.set_cons_zero, List.set_cons_succ]
    refine take_to (i := 14) (v := ?_) 4 rfl rfl (by kernel_rfl) (by kernel_rfl) (by kernel_rfl) (fun _ _ _ h => h) (Or.inl ⟨by rfl, ?_⟩) hS ?_
    rotate_left
    · intro W hW
      obtain ⟨s0, s1, _, _⟩ := HC.out W hW
      go_simp
      try with_reducible rfl
    simp only [List.setIfInBounds_toArray, List.set_cons_zero, List.set_cons_succ]
    refine wpAnyH_done (by kernel_rfl) ?_ _
    refine NoPanic.normal ?_
    go_wp2_with fail
    go_ret
    exact ⟨rfl, ext_trans hbW1 hb3⟩
  · have HM : Hid (mayB d xs = true) := hmay
    clear hmay
    go_wp2_with fail
    refine wp_region_noPanic ?_
    refine wp_region_held_drew (S := fun W => Below W1.heap.size W1 W) (by kernel_rfl) (ext_drew W1) fun hS => ?_
    refine take_to (i := 0) (v := ?_) 42 rfl rfl (by kernel_rfl) (by kernel_rfl) (by kernel_rfl) (fun _ _ _ h => h) (Or.inl ⟨by rfl, ?_⟩) hS ?_
    rotate_left
    · intro W hW
      obtain ⟨s0, s1, _, _⟩ := HC.out W hW
      go_simp
      try with_reducible rfl
    simp only [List.setIfInBounds_toArray, List.set_cons_zero, List.set_cons_succ]
    refine wpAnyH_ready (rs := [1]) (by kernel_rfl) (by simp) ?_
    refine AllReadyH.cons rfl (fun K hK => ?_) AllReadyH.nil
    go_simp
    obtain ⟨_, _, rl, _⟩ := HC.out _ (ext_drew W1)
    refine (refMay_any d a n c xs _ rl).mono ?_
    rintro e w3 ⟨rfl, hb3⟩
    rw [HM.out]
    replace hb3 := ext_trans (ext_drew W1) hb3
    clear rl
    refine hK.out _ _ hb3 fun hS => ?_
    clear hK K
    refine take_to (i := 2) (v := ?_) 44 rfl rfl (by kernel_rfl) (by kernel_rfl) (by kernel_rfl) (fun _ _ _ h => h) (Or.inl ⟨by rfl, ?_⟩) hS ?_
    rotate_left
    · intro W hW
      obtain ⟨s0, s1, _, _⟩ := HC.out W hW
      go_simp
      try with_reducible rfl
    simp only [List.setIfInBounds_toArray, List.set_cons_zero, List.set_cons_succ]
    refine take_to (i := 3) (v := ?_) 45 rfl rfl (by kernel_rfl) (by kernel_rfl) (by kernel_rfl) (fun _ _ _ h => h) (Or.inl ⟨by rfl, ?_⟩) hS ?_
    rotate_left
    · intro W hW
      obtain ⟨s0, s1, _, _⟩ := HC.out W hW
      go_simp
      try with_reducible rfl
    simp only [List.setIfInBounds_toArray, List.set_cons_zero, List.set_cons_succ]
    refine take_to (i := 4) (v := ?_) 46 rfl rfl (by kernel_rfl) (by kernel_rfl) (by kernel_rfl) (fun _ _ _ h => h) (Or.inl ⟨by rfl, ?_⟩) hS ?_
    rotate_left
    · intro W hW
      obtain ⟨s0, s1, _, _⟩ := HC.out W hW
      go_simp
      try with_reducible rfl
    simp only [List.setIfInBounds_toArray, List.set_cons_zero, List.set_cons_succ]
    refine take_to (i := 5) (v := ?_) 47 rfl rfl (by kernel_rfl) (by kernel_rfl) (by kernel_rfl) (fun _ _ _ h => h) (Or.inl ⟨by rfl, ?_⟩) hS ?_
    rotate_left
    · intro W hW
      obtain ⟨s0, s1, _, _⟩ := HC.out W hW
      go_simp
      try with_reducible rfl
    simp only [List.setIfInBounds_toArray, List.set_cons_zero, List.set_cons_succ]
    refine take_to (i := 8) (v := ?_) 50 rfl rfl (by kernel_rfl) (by kernel_rfl) (by kernel_rfl) (fun _ _ _ h => h) (Or.inl ⟨by rfl, ?_⟩) hS ?_
    rotate_left
    · intro W hW
      obtain ⟨s0, s1, _, _⟩ := HC.out W hW
      go_simp
      try with_reducible rfl
    simp only [List.setIfInBounds_toArray, List.set_cons_zero, List.set_cons_succ]
    refine take_to (i := 9) (v := ?_) 51 rfl rfl (by kernel_rfl) (by kernel_rfl) (by kernel_rfl) (fun _ _ _ h => h) (Or.inl ⟨by rfl, ?_⟩) hS ?_
    rotate_left
    · intro W hW
      obtain ⟨s0, s1, _, _⟩ := HC.out W hW
      go_simp
      try with_reducible rfl
    simp only [List.setIfInBounds_toArray, List.set_cons_zero, List.set_cons_succ]
    refine wpAnyH_ready (rs := [6]) (by kernel_rfl) (by simp) ?_
    refine AllReadyH.cons rfl (fun K hK => ?_) AllReadyH.nil
    go_simp
    obtain ⟨_, _, rl, rb⟩ := HC.out _ hb3
    refine (lput_any b m cb bs d a n c xs _ rb rl HM.out (by omega)).mono ?_
    rintro e w4 ⟨g4, c4, rfl, o4, b4⟩
    have r4 := o4.row
    have hb4 := ext_trans hb3 b4
    clear o4 rl rb
    generalize m + (2 + 3 * n) = LL at r4 ⊢
    refine hK.out _ _ hb4 fun hS => ?_
    clear hK K
    refine wpAnyH_more (S' := fun W => Below w4.heap.size w4 W) (fun _ h => ext_trans hb4 h) _ _ _ _ ?_
    have hS : Below w4.heap.size w4 w4 := Below.refl _ _
    refine take_to (i := 7) (v := ?_) 49 rfl rfl (by kernel_rfl) (by kernel_rfl) (by kernel_rfl) (fun _ _ _ h => h) (Or.inl ⟨by rfl, ?_⟩) hS ?_
    rotate_left
    · intro W hW
      have s4 := strB.out _ _ _ _ _ (r4.below hW)
      go_simp
      try with_reducible rfl
    simp only [List.setIfInBounds_toArray, List.set_cons_zero, List.set_cons_succ]
    refine wpAnyH_ready (rs := [10]) (by kernel_rfl) (by simp) ?_
    refine AllReadyH.cons rfl (fun K hK => ?_) AllReadyH.nil
    go_simp
    obtain ⟨_, _, rl, rb⟩ := HC.out _ hb4
    refine (refPutL_any b m cb bs d a n c xs _ rb rl HM.out (by omega)).mono ?_
    rintro e w5 ⟨g5, c5, rfl, o5, b5⟩
    have r5 := o5.row
    generalize m + (2 + 3 * n) = LL' at r5 ⊢
    have hb5 := ext_trans hb4 b5
    clear o5 rl rb
    refine hK.out _ _ b5 fun hS => ?_
    clear hK K
    refine wpAnyH_more (S' := fun W => Below w5.heap.size w5 W) (fun _ h => ext_trans b5 h) _ _ _ _ ?_
    have hS : Below w5.heap.size w5 w5 := Below.refl _ _
    refine take_to (i := 11) (v := ?_) 53 rfl rfl (by kernel_rfl) (by kernel_rfl) (by kernel_rfl) (fun _ _ _ h => h) (Or.inl ⟨by rfl, ?_⟩) hS ?_
    rotate_left
    · intro W hW
      have s5 := strB.out _ _ _ _ _ (r5.below hW)
      go_simp
      try with_reducible rfl
    simp only [List.setIfInBounds_toArray, List.set_cons_zero, List.set_cons_succ]
    refine take_to (i := 12) (v := ?_) 54 rfl rfl (by kernel_rfl) (by kernel_rfl) (by kernel_rfl) (fun _ _ _ h => h) (Or.inl ⟨by rfl, ?_⟩) hS ?_
    rotate_left
    · intro W hW
      have s5 := strB.out _ _ _ _ _ (r5.below hW)
      go_simp
      try with_reducible rfl
    simp only [List.setIfInBounds_toArray, List.set_cons_zero, List.set_cons_succ]
    refine take_to (i := 13) (v := ?_) 55 rfl rfl (by kernel_rfl) (by kernel_rfl) (by kernel_rfl) (fun _ _ _ h => h) (Or.inl ⟨by rfl, ?_⟩) hS ?_
    rotate_left
    · intro W hW
      have s5 := strB.out _ _ _ _ _ (r5.below hW)
      go_simp
      try with_reducible rfl
    simp only [List.setIfInBounds_toArray, List.set_cons_zero, List.set_cons_succ]
    refine take_to (i := 14) (v := ?_) 4 rfl rfl (by kernel_rfl) (by kernel_rfl) (by kernel_rfl) (fun _ _ _ h => h) (Or.inl ⟨by rfl, ?_⟩) hS ?_
    rotate_left
    · intro W hW
      have s5 := strB.out _ _ _ _ _ (r5.below hW)
      go_simp
      try with_reducible rfl
    simp only [List.setIfInBounds_toArray, List.set_cons_zero, List.set_cons_succ]
    refine wpAnyH_done (by kernel_rfl) ?_ _
    refine NoPanic.normal ?_
    go_wp2_with fail
    go_ret
    exact ⟨rfl, ext_trans hbW1 hb5⟩
end Go.Proofs.Ytilgijmclmkboaa
