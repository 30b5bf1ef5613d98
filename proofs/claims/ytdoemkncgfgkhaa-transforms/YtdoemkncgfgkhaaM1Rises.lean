/- What Rises and Makes answer, and the document's own: contracts. -/
import Derived.Test.YtdoemkncgfgkhaaM1May
namespace Go.Proofs.Ytdoemkncgfgkhaa
open Go.RowKit
set_option maxRecDepth 100000

set_option maxHeartbeats 2000000 in
theorem rises_is (q : Bool) {d d' : Int} {a1 a2 : Option Addr} {n1 c1 n2 c2 : Nat} {xs ys : List (Int × Int)} (hq : Hid (q = true ↔ FlL d xs d' ys)) (w : World) (ht : Lb w d a1 n1 c1 xs) (ho : Lb w d' a2 n2 c2 ys) :
    Calls Try.prog 19 #[.agg #[.int .u8 d, .slice a1 n1 c1], .agg #[.int .u8 d', .slice a2 n2 c2]] w fun e w' => e = .returned (.int .i64 (why (nameB d' ys) (starB d xs (starsL 0 ys)) q)) ∧ Below w.heap.size w w' := by
  have l1 := ht.le
  have l2 := ho.le
  have HC : Hid _ := two_labs w (.int .u8 d) (.slice a1 n1 c1) (.int .u8 d') (.slice a2 n2 c2)
  go_enter Try.func19, Try.ntmps19
  go_wp2_with fail
  obtain ⟨W1, hW1⟩ : ∃ x, x = (w.alloc (Obj.cells #[.int .u8 d, .slice a1 n1 c1] 24)).alloc (Obj.cells #[.int .u8 d', .slice a2 n2 c2] 24) := ⟨_, rfl⟩
  rw [← hW1] at HC ⊢
  clear hW1
  have hB0 : Below W1.heap.size W1 W1.drew := ext_drew _
  refine wp_region_noPanic ?_
  refine wp_region_held_drew (S := fun W => Below W1.heap.size W1 W) (by kernel_rfl) hB0 fun hS => ?_
  refine take_to (i := 0) (v := ?_) 5 rfl rfl (by kernel_rfl) (by kernel_rfl) (by kernel_rfl) (fun _ _ _ h => h) (Or.inl ⟨by rfl, ?_⟩) hS ?_
  rotate_left
  · intro W hW
    obtain ⟨s0, s1, s2, s3, _⟩ := HC.out W hW
    go_simp
    try with_reducible rfl
  simp only [List.setIfInBounds_toArray, List.set_cons_zero, List.set_cons_succ]
  refine take_to (i := 1) (v := ?_) 6 rfl rfl (by kernel_rfl) (by kernel_rfl) (by kernel_rfl) (fun _ _ _ h => h) (Or.inl ⟨by rfl, ?_⟩) hS ?_
  rotate_left
  · intro W hW
    obtain ⟨s0, s1, s2, s3, _⟩ := HC.out W hW
    go_simp
    try with_reducible rfl
  simp only [List.setIfInBounds_toArray, List.set_cons_zero, List.set_cons_succ]
  refine take_to (i := 2) (v := ?_) 7 rfl rfl (by kernel_rfl) (by kernel_rfl) (by kernel_rfl) (fun _ _ _ h => h) (Or.inl ⟨by rfl, ?_⟩) hS ?_
  rotate_left
  · intro W hW
    obtain ⟨s0, s1, s2, s3, _⟩ := HC.out W hW
    go_simp
    try with_reducible rfl
  simp only [List.setIfInBounds_toArray, List.set_cons_zero, List.set_cons_succ]
  refine take_to (i := 3) (v := ?_) 8 rfl rfl (by kernel_rfl) (by kernel_rfl) (by kernel_rfl) (fun _ _ _ h => h) (Or.inl ⟨by rfl, ?_⟩) hS ?_
  rotate_left
  · intro W hW
    obtain ⟨s0, s1, s2, s3, _⟩ := HC.out W hW
    go_simp
    try with_reducible rfl
  simp only [List.setIfInBounds_toArray, List.set_cons_zero, List.set_cons_succ]
  refine wpAnyH_ready (rs := [4]) (by kernel_rfl) (by simp) ?_
  refine AllReadyH.cons rfl (fun K hK => ?_) AllReadyH.nil
  go_simp
  obtain ⟨_, _, _, _, bw⟩ := HC.out _ hB0
  refine (stars_any d' a2 n2 c2 ys _ (ho.below bw).row (by omega)).mono ?_
  rintro e w3 ⟨so, k, co, rfl, hown, hb3⟩
  have hrow := hown.row
  clear hown
  replace hb3 := ext_trans hB0 hb3
  refine hK.out _ _ hb3 fun hS => ?_
  clear hK K
  refine wpAnyH_ready (rs := [5]) (by kernel_rfl) (by simp) ?_
  refine AllReadyH.cons rfl (fun K hK => ?_) AllReadyH.nil
  go_simp
  obtain ⟨_, _, _, _, bw⟩ := HC.out _ hb3
  refine (hasStars_any d a1 n1 c1 xs so k co _ _ (ht.below bw) hrow).mono ?_
  rintro e w4 ⟨rfl, hb4⟩
  replace hb4 := ext_trans hb3 hb4
  refine hK.out _ _ hb4 fun hS => ?_
  clear hK K
  refine wpAnyH_ready (rs := [6]) (by kernel_rfl) (by simp) ?_
  refine AllReadyH.cons rfl (fun K hK => ?_) AllReadyH.nil
  go_simp
  obtain ⟨_, _, _, _, bw⟩ := HC.out _ hb4
  refine (whyNot_is q _ hq _ (ht.below bw) (ho.below bw)).mono ?_
  rintro e w5 ⟨rfl, hb5⟩
  replace hb5 := ext_trans hb4 hb5
  refine hK.out _ _ hb5 fun hS => ?_
  clear hK K
  refine take_to (i := 7) (v := ?_) 4 rfl rfl (by kernel_rfl) (by kernel_rfl) (by kernel_rfl) (fun _ _ _ h => h) (Or.inl ⟨by rfl, ?_⟩) hS ?_
  rotate_left
  · intro W hW
    obtain ⟨s0, s1, s2, s3, _⟩ := HC.out W hW
    go_simp
    try with_reducible rfl
  simp only [List.setIfInBounds_toArray, List.set_cons_zero, List.set_cons_succ]
  refine wpAnyH_done (by kernel_rfl) ?_ _
  refine NoPanic.normal ?_
  go_wp2_with fail
  go_ret
  obtain ⟨_, _, _, _, bw⟩ := HC.out _ hb5
  exact ⟨rfl, bw⟩

set_option maxHeartbeats 2000000 in
theorem makes_is (q : Bool) {d d' : Int} {a1 a2 : Option Addr} {n1 c1 n2 c2 : Nat} {xs ys : List (Int × Int)} (hq : Hid (q = true ↔ FlL d xs d' ys)) (w : World) (ht : Lb w d a1 n1 c1 xs) (ho : Lb w d' a2 n2 c2 ys) :
    Calls Try.prog 21 #[.agg #[.int .u8 d, .slice a1 n1 c1], .agg #[.int .u8 d', .slice a2 n2 c2]] w fun e w' => e = .returned (.int .i64 (why (nameB d' ys) (decide (starsL 0 ys = [])) q)) ∧ Below w.heap.size w w' := by
  have l1 := ht.le
  have l2 := ho.le
  have HC : Hid _ := two_labs w (.int .u8 d) (.slice a1 n1 c1) (.int .u8 d') (.slice a2 n2 c2)
  obtain ⟨s, hs⟩ : ∃ s, s = decide (starsL 0 ys = []) := ⟨_, rfl⟩
  have HS : Hid (s = decide (starsL 0 ys = [])) := hs
  rw [← hs]
  clear hs
  go_enter Try.func21, Try.ntmps21
  go_wp2_with fail
  obtain ⟨W1, hW1⟩ : ∃ x, x = (w.alloc (Obj.cells #[.int .u8 d, .slice a1 n1 c1] 24)).alloc (Obj.cells #[.int .u8 d', .slice a2 n2 c2] 24) := ⟨_, rfl⟩
  rw [← hW1] at HC ⊢
  clear hW1
  have hB0 : Below W1.heap.size W1 W1.drew := ext_drew _
  refine wp_region_noPanic ?_
  refine wp_region_held_drew (S := fun W => Below W1.heap.size W1 W) (by kernel_rfl) hB0 fun hS => ?_
  refine take_to (i := 0) (v := ?_) 5 rfl rfl (by kernel_rfl) (by kernel_rfl) (by kernel_rfl) (fun _ _ _ h => h) (Or.inl ⟨by rfl, ?_⟩) hS ?_
  rotate_left
  · intro W hW
    obtain ⟨s0, s1, s2, s3, _⟩ := HC.out W hW
    go_simp
    try with_reducible rfl
  simp only [List.setIfInBounds_toArray, List.set_cons_zero, List.set_cons_succ]
  refine take_to (i := 1) (v := ?_) 6 rfl rfl (by kernel_rfl) (by kernel_rfl) (by kernel_rfl) (fun _ _ _ h => h) (Or.inl ⟨by rfl, ?_⟩) hS ?_
  rotate_left
  · intro W hW
    obtain ⟨s0, s1, s2, s3, _⟩ := HC.out W hW
    go_simp
    try with_reducible rfl
  simp only [List.setIfInBounds_toArray, List.set_cons_zero, List.set_cons_succ]
  refine take_to (i := 2) (v := ?_) 7 rfl rfl (by kernel_rfl) (by kernel_rfl) (by kernel_rfl) (fun _ _ _ h => h) (Or.inl ⟨by rfl, ?_⟩) hS ?_
  rotate_left
  · intro W hW
    obtain ⟨s0, s1, s2, s3, _⟩ := HC.out W hW
    go_simp
    try with_reducible rfl
  simp only [List.setIfInBounds_toArray, List.set_cons_zero, List.set_cons_succ]
  refine wpAnyH_ready (rs := [3]) (by kernel_rfl) (by simp) ?_
  refine AllReadyH.cons rfl (fun K hK => ?_) AllReadyH.nil
  go_simp
  obtain ⟨_, _, _, _, bw⟩ := HC.out _ hB0
  refine (stars_any d' a2 n2 c2 ys _ (ho.below bw).row (by omega)).mono ?_
  rintro e w3 ⟨so, k, co, rfl, hown, hb3⟩
  have hk0 : ((k : Int) == 0) = s := by rw [HS.out]; exact len_zero hown.1
  have hkl : k ≤ 9223372036854775807 := by have := hown.row.cap_le; omega
  clear hown
  replace hb3 := ext_trans hB0 hb3
  refine hK.out _ _ hb3 fun hS => ?_
  clear hK K
  refine take_to (i := 4) (v := ?_) 9 rfl rfl (by kernel_rfl) (by kernel_rfl) (by kernel_rfl) (fun _ _ _ h => h) (Or.inl ⟨by rfl, ?_⟩) hS ?_
  rotate_left
  · intro W hW
    obtain ⟨s0, s1, s2, s3, _⟩ := HC.out W hW
    go_simp
    try with_reducible rfl
  simp only [List.setIfInBounds_toArray, List.set_cons_zero, List.set_cons_succ]
  refine take_to (i := 5) (v := ?_) 10 rfl rfl (by kernel_rfl) (by kernel_rfl) (by kernel_rfl) (fun _ _ _ h => h) (Or.inl ⟨by rfl, ?_⟩) hS ?_
  rotate_left
  · intro W hW
    obtain ⟨s0, s1, s2, s3, _⟩ := HC.out W hW
    go_simp
    try with_reducible rfl
  simp only [List.setIfInBounds_toArray, List.set_cons_zero, List.set_cons_succ]
  refine wpAnyH_ready (rs := [6]) (by kernel_rfl) (by simp) ?_
  refine AllReadyH.cons rfl (fun K hK => ?_) AllReadyH.nil
  go_simp
  obtain ⟨_, _, _, _, bw⟩ := HC.out _ hb3
  refine (whyNot_is q _ hq _ (ht.below bw) (ho.below bw)).mono ?_
  rintro e w5 ⟨rfl, hb5⟩
  replace hb5 := ext_trans hb3 hb5
  refine hK.out _ _ hb5 fun hS => ?_
  clear hK K
  refine take_to (i := 7) (v := ?_) 4 rfl rfl (by kernel_rfl) (by kernel_rfl) (by kernel_rfl) (fun _ _ _ h => h) (Or.inl ⟨by rfl, ?_⟩) hS ?_
  rotate_left
  · intro W hW
    obtain ⟨s0, s1, s2, s3, _⟩ := HC.out W hW
    go_simp
    try with_reducible rfl
  simp only [List.setIfInBounds_toArray, List.set_cons_zero, List.set_cons_succ]
  refine wpAnyH_done (by kernel_rfl) ?_ _
  refine NoPanic.normal ?_
  go_wp2_with fail
  go_ret
  obtain ⟨_, _, _, _, bw⟩ := HC.out _ hb5
  exact ⟨rfl, bw⟩

end Go.Proofs.Ytdoemkncgfgkhaa
