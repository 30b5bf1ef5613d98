/- LabelLattice answers true: the last part of the walk. -/
import Derived.Test.YtgpndbfefbdibaaLatMath
import Derived.Test.YtgpndbfefbdibaaParts
namespace Go.Proofs.Ytgpndbfefbdibaa
open Go.RowKit
set_option linter.unusedVariables false

set_option maxHeartbeats 8000000 in
set_option maxRecDepth 100000 in
theorem lat_last (d1 d2 d3 Dj Dm : Int) (a1 a2 a3 soj som : Option Addr) (n1 c1 n2 c2 n3 c3 kj coj km com gj gm : Nat) (xs ys vs zj zm : List (Int × Int)) (w W : World) (hlx : LvL d1 xs) (hly : LvL d2 ys) (hlv : LvL d3 vs) (hlj : LvL Dj zj) (hlm : LvL Dm zm) (hux : UpL xs) (huy : UpL ys) (huv : UpL vs) (huj : UpL zj) (hum : UpL zm) (hn1' : n1 ≤ 24) (hn2' : n2 ≤ 24) (hn3' : n3 ≤ 24) (hkj : kj ≤ 48) (hkm : km ≤ 48) (HL : Hid (FlL d1 xs d1 xs ∧ (FlL d1 xs d2 ys → FlL d2 ys d1 xs → d1 = d2 ∧ xs = ys) ∧ (FlL d1 xs d2 ys → FlL d2 ys d3 vs → FlL d1 xs d3 vs) ∧
    FlL d1 xs (Dj) (zj) ∧ FlL d2 ys (Dj) (zj) ∧ FlL (Dm) (zm) d1 xs ∧ FlL (Dm) (zm) d2 ys ∧
    (FlL d1 xs d3 vs → FlL d2 ys d3 vs → FlL (Dj) (zj) d3 vs) ∧ (FlL d3 vs d1 xs → FlL d3 vs d2 ys → FlL d3 vs (Dm) (zm)))) (HE : Hid ((Dj = max d2 d1 ∧ zj = comb max d2 d1 ys xs) ∧
    (max d1 (max d2 d3) = max (Dj) d3 ∧ comb max d1 (max d2 d3) xs (comb max d2 d3 ys vs) = comb max (Dj) d3 (zj) vs) ∧
    (max d1 (Dm) = d1 ∧ comb max d1 (Dm) xs (zm) = xs) ∧
    (min d1 (Dj) = d1 ∧ comb min d1 (Dj) xs (zj) = xs) ∧
    (FlL d1 xs d2 ys ↔ Dj = d2 ∧ zj = ys) ∧ LvL (max d2 d3) (comb max d2 d3 ys vs) ∧ True)) (HD : Hid (∀ V, Below W.heap.size W V → (V.cell? ⟨w.heap.size, 0, none⟩ = some (.int .u8 d1) ∧ V.cell? ⟨w.heap.size, 1, none⟩ = some (.slice a1 n1 c1) ∧ V.cell? ⟨w.heap.size + 1, 0, none⟩ = some (.int .u8 d2) ∧ V.cell? ⟨w.heap.size + 1, 1, none⟩ = some (.slice a2 n2 c2) ∧ V.cell? ⟨w.heap.size + 1 + 1, 0, none⟩ = some (.int .u8 d3) ∧ V.cell? ⟨w.heap.size + 1 + 1, 1, none⟩ = some (.slice a3 n3 c3) ∧ V.cell? ⟨gj, 0, none⟩ = some (.int .u8 Dj) ∧ V.cell? ⟨gj, 1, none⟩ = some (.slice soj kj coj) ∧ V.cell? ⟨gm, 0, none⟩ = some (.int .u8 Dm) ∧ V.cell? ⟨gm, 1, none⟩ = some (.slice som km com)) ∧ RowG PE V a1 n1 c1 xs ∧ RowG PE V a2 n2 c2 ys ∧ RowG PE V a3 n3 c3 vs ∧ RowG PE V soj kj coj zj ∧ RowG PE V som km com zm)) (HB : Hid (∀ V, Below W.heap.size W V → Below w.heap.size w V)) (W5 : World) (hbS : Below W.heap.size W W5) (s : Nat → Value) :
    Code.wp Try.prog (part Try.f6 9) (bodyPost Try.prog Try.f6 fun e w' => e = .returned (.bool true) ∧ Below w.heap.size w w') { tmps := #[s 0, s 1, s 2, .pointer (some ⟨w.heap.size, 0, none⟩), .pointer (some ⟨w.heap.size + 1, 0, none⟩), .pointer (some ⟨w.heap.size + 1 + 1, 0, none⟩), .bool false, .func (.func 13) #[] #[], .pointer (some ⟨gj, 0, none⟩), .pointer (some ⟨gm, 0, none⟩), .bool true, .bool true, s 12, s 13, s 14, s 15, s 16, s 17, s 18, s 19, s 20, s 21, s 22, s 23, s 24, s 25, s 26, s 27, s 28, s 29, s 30, s 31, s 32, s 33, s 34, s 35, s 36, s 37, s 38, s 39, s 40, s 41, s 42, s 43, s 44, s 45, s 46, s 47, s 48, s 49, s 50, s 51, s 52, s 53, s 54, s 55, s 56, s 57, s 58, s 59, s 60, s 61, s 62, s 63, s 64, s 65, s 66, s 67, s 68, s 69, s 70, s 71, s 72, s 73, s 74, s 75, s 76, s 77, s 78, s 79, s 80, s 81, s 82, s 83, s 84, s 85, s 86, s 87, s 88, s 89, s 90, s 91, s 92, s 93, s 94, s 95, s 96, s 97, s 98, s 99, s 100, s 101, s 102, s 103, s 104, s 105, s 106, s 107, s 108, s 109, s 110, s 111, s 112, s 113, s 114, s 115, s 116, s 117, s 118, s 119, s 120, s 121, s 122, s 123, s 124, s 125, s 126, s 127, s 128, s 129, s 130, s 131, s 132, s 133, s 134, s 135, s 136, s 137, s 138, s 139, s 140, s 141, s 142, s 143, s 144, s 145, s 146, s 147, s 148, s 149, s 150, s 151, s 152, s 153, s 154, s 155, s 156, s 157, s 158, s 159, s 160, s 161, s 162, s 163, s 164, s 165, s 166, s 167, s 168, s 169, s 170, s 171, s 172], defers := [] } W5 := by
  conv => arg 2; whnf
  have hB0 : Below W5.heap.size W5 W5.drew := ext_drew _
  go_wp2_with fail
  refine wp_region_noPanic ?_
  refine wp_region_held_drew (S := fun W => Below W5.heap.size W5 W) (by kernel_rfl) hB0 fun hS => ?_
  refine take_to (i := 0) (v := ?_) 123 rfl rfl (by kernel_rfl) (by kernel_rfl) (by kernel_rfl) (fun _ _ _ h => h) (Or.inl ⟨by rfl, ?_⟩) hS ?_
  rotate_left
  · intro W hW
    obtain ⟨⟨s0, s1, s2, s3, s4, s5, s6, s7, s8, s9⟩, _⟩ := HD.out W (ext_trans hbS hW)
    go_simp
    try with_reducible rfl
  simp only [List.setIfInBounds_toArray, List.set_cons_zero, List.set_cons_succ]
  refine take_to (i := 1) (v := ?_) 124 rfl rfl (by kernel_rfl) (by kernel_rfl) (by kernel_rfl) (fun _ _ _ h => h) (Or.inl ⟨by rfl, ?_⟩) hS ?_
  rotate_left
  · intro W hW
    obtain ⟨⟨s0, s1, s2, s3, s4, s5, s6, s7, s8, s9⟩, _⟩ := HD.out W (ext_trans hbS hW)
    go_simp
    try with_reducible rfl
  simp only [List.setIfInBounds_toArray, List.set_cons_zero, List.set_cons_succ]
  refine take_to (i := 2) (v := ?_) 125 rfl rfl (by kernel_rfl) (by kernel_rfl) (by kernel_rfl) (fun _ _ _ h => h) (Or.inl ⟨by rfl, ?_⟩) hS ?_
  rotate_left
  · intro W hW
    obtain ⟨⟨s0, s1, s2, s3, s4, s5, s6, s7, s8, s9⟩, _⟩ := HD.out W (ext_trans hbS hW)
    go_simp
    try with_reducible rfl
  simp only [List.setIfInBounds_toArray, List.set_cons_zero, List.set_cons_succ]
  refine take_to (i := 3) (v := ?_) 126 rfl rfl (by kernel_rfl) (by kernel_rfl) (by kernel_rfl) (fun _ _ _ h => h) (Or.inl ⟨by rfl, ?_⟩) hS ?_
  rotate_left
  · intro W hW
    obtain ⟨⟨s0, s1, s2, s3, s4, s5, s6, s7, s8, s9⟩, _⟩ := HD.out W (ext_trans hbS hW)
    go_simp
    try with_reducible rfl
  simp only [List.setIfInBounds_toArray, List.set_cons_zero, List.set_cons_succ]
  refine take_to (i := 4) (v := ?_) 127 rfl rfl (by kernel_rfl) (by kernel_rfl) (by kernel_rfl) (fun _ _ _ h => h) (Or.inl ⟨by rfl, ?_⟩) hS ?_
  rotate_left
  · intro W hW
    obtain ⟨⟨s0, s1, s2, s3, s4, s5, s6, s7, s8, s9⟩, _⟩ := HD.out W (ext_trans hbS hW)
    go_simp
    try with_reducible rfl
  simp only [List.setIfInBounds_toArray, List.set_cons_zero, List.set_cons_succ]
  refine take_to (i := 5) (v := ?_) 128 rfl rfl (by kernel_rfl) (by kernel_rfl) (by kernel_rfl) (fun _ _ _ h => h) (Or.inl ⟨by rfl, ?_⟩) hS ?_
  rotate_left
  · intro W hW
    obtain ⟨⟨s0, s1, s2, s3, s4, s5, s6, s7, s8, s9⟩, _⟩ := HD.out W (ext_trans hbS hW)
    go_simp
    try with_reducible rfl
  simp only [List.setIfInBounds_toArray, List.set_cons_zero, List.set_cons_succ]
  refine take_to (i := 6) (v := ?_) 129 rfl rfl (by kernel_rfl) (by kernel_rfl) (by kernel_rfl) (fun _ _ _ h => h) (Or.inl ⟨by rfl, ?_⟩) hS ?_
  rotate_left
  · intro W hW
    obtain ⟨⟨s0, s1, s2, s3, s4, s5, s6, s7, s8, s9⟩, _⟩ := HD.out W (ext_trans hbS hW)
    go_simp
    try with_reducible rfl
  simp only [List.setIfInBounds_toArray, List.set_cons_zero, List.set_cons_succ]
  refine take_to (i := 7) (v := ?_) 130 rfl rfl (by kernel_rfl) (by kernel_rfl) (by kernel_rfl) (fun _ _ _ h => h) (Or.inl ⟨by rfl, ?_⟩) hS ?_
  rotate_left
  · intro W hW
    obtain ⟨⟨s0, s1, s2, s3, s4, s5, s6, s7, s8, s9⟩, _⟩ := HD.out W (ext_trans hbS hW)
    go_simp
    try with_reducible rfl
  simp only [List.setIfInBounds_toArray, List.set_cons_zero, List.set_cons_succ]
  refine take_to (i := 8) (v := ?_) 131 rfl rfl (by kernel_rfl) (by kernel_rfl) (by kernel_rfl) (fun _ _ _ h => h) (Or.inl ⟨by rfl, ?_⟩) hS ?_
  rotate_left
  · intro W hW
    obtain ⟨⟨s0, s1, s2, s3, s4, s5, s6, s7, s8, s9⟩, _⟩ := HD.out W (ext_trans hbS hW)
    go_simp
    try with_reducible rfl
  simp only [List.setIfInBounds_toArray, List.set_cons_zero, List.set_cons_succ]
  refine wpAnyH_ready (rs := [9]) (by kernel_rfl) (by simp) ?_
  refine AllReadyH.cons rfl (fun K hK => ?_) AllReadyH.nil
  go_simp
  obtain ⟨⟨_, _, _, _, _, _, _, _, _, _⟩, ra, rb, rc, rj, rm⟩ := HD.out _ (ext_trans hbS hB0)
  refine (joinL_any d2 d1 a2 a1 n2 c2 n1 c1 ys xs _ rb ra hly hlx (by omega)).mono ?_
  rintro e w300 ⟨so9, k9, co9, rfl, ho9, hb300⟩
  have rr9 := ho9.row
  clear ho9
  replace hb300 := ext_trans hB0 hb300
  refine hK.out _ _ hb300 fun hS => ?_
  clear hK K
  refine wpAnyH_ready (rs := [10]) (by kernel_rfl) (by simp) ?_
  refine AllReadyH.cons rfl (fun K hK => ?_) AllReadyH.nil
  go_simp
  obtain ⟨⟨_, _, _, _, _, _, _, _, _, _⟩, ra, rb, rc, rj, rm⟩ := HD.out _ (ext_trans hbS hb300)
  refine (refSame_any Dj soj kj coj zj (max d2 d1) so9 k9 co9 (comb max d2 d1 ys xs) _ rj rr9).mono ?_
  rintro e w301 ⟨rfl, hb301⟩
  rw [decide_eq_true HE.out.1]
  clear rr9
  replace hb301 := ext_trans hb300 hb301
  refine hK.out _ _ hb301 fun hS => ?_
  clear hK K
  refine take_to (i := 11) (v := ?_) 134 rfl rfl (by kernel_rfl) (by kernel_rfl) (by kernel_rfl) (fun _ _ _ h => h) (Or.inl ⟨by rfl, ?_⟩) hS ?_
  rotate_left
  · intro W hW
    obtain ⟨⟨s0, s1, s2, s3, s4, s5, s6, s7, s8, s9⟩, _⟩ := HD.out W (ext_trans hbS hW)
    go_simp
    try with_reducible rfl
  simp only [List.setIfInBounds_toArray, List.set_cons_zero, List.set_cons_succ]
  refine take_to (i := 12) (v := ?_) 135 rfl rfl (by kernel_rfl) (by kernel_rfl) (by kernel_rfl) (fun _ _ _ h => h) (Or.inl ⟨by rfl, ?_⟩) hS ?_
  rotate_left
  · intro W hW
    obtain ⟨⟨s0, s1, s2, s3, s4, s5, s6, s7, s8, s9⟩, _⟩ := HD.out W (ext_trans hbS hW)
    go_simp
    try with_reducible rfl
  simp only [List.setIfInBounds_toArray, List.set_cons_zero, List.set_cons_succ]
  refine take_to (i := 13) (v := ?_) 136 rfl rfl (by kernel_rfl) (by kernel_rfl) (by kernel_rfl) (fun _ _ _ h => h) (Or.inl ⟨by rfl, ?_⟩) hS ?_
  rotate_left
  · intro W hW
    obtain ⟨⟨s0, s1, s2, s3, s4, s5, s6, s7, s8, s9⟩, _⟩ := HD.out W (ext_trans hbS hW)
    go_simp
    try with_reducible rfl
  simp only [List.setIfInBounds_toArray, List.set_cons_zero, List.set_cons_succ]
  refine take_to (i := 14) (v := ?_) 137 rfl rfl (by kernel_rfl) (by kernel_rfl) (by kernel_rfl) (fun _ _ _ h => h) (Or.inl ⟨by rfl, ?_⟩) hS ?_
  rotate_left
  · intro W hW
    obtain ⟨⟨s0, s1, s2, s3, s4, s5, s6, s7, s8, s9⟩, _⟩ := HD.out W (ext_trans hbS hW)
    go_simp
    try with_reducible rfl
  simp only [List.setIfInBounds_toArray, List.set_cons_zero, List.set_cons_succ]
  refine take_to (i := 15) (v := ?_) 138 rfl rfl (by kernel_rfl) (by kernel_rfl) (by kernel_rfl) (fun _ _ _ h => h) (Or.inl ⟨by rfl, ?_⟩) hS ?_
  rotate_left
  · intro W hW
    obtain ⟨⟨s0, s1, s2, s3, s4, s5, s6, s7, s8, s9⟩, _⟩ := HD.out W (ext_trans hbS hW)
    go_simp
    try with_reducible rfl
  simp only [List.setIfInBounds_toArray, List.set_cons_zero, List.set_cons_succ]
  refine take_to (i := 16) (v := ?_) 139 rfl rfl (by kernel_rfl) (by kernel_rfl) (by kernel_rfl) (fun _ _ _ h => h) (Or.inl ⟨by rfl, ?_⟩) hS ?_
  rotate_left
  · intro W hW
    obtain ⟨⟨s0, s1, s2, s3, s4, s5, s6, s7, s8, s9⟩, _⟩ := HD.out W (ext_trans hbS hW)
    go_simp
    try with_reducible rfl
  simp only [List.setIfInBounds_toArray, List.set_cons_zero, List.set_cons_succ]
  refine take_to (i := 19) (v := ?_) 142 rfl rfl (by kernel_rfl) (by kernel_rfl) (by kernel_rfl) (fun _ _ _ h => h) (Or.inl ⟨by rfl, ?_⟩) hS ?_
  rotate_left
  · intro W hW
    obtain ⟨⟨s0, s1, s2, s3, s4, s5, s6, s7, s8, s9⟩, _⟩ := HD.out W (ext_trans hbS hW)
    go_simp
    try with_reducible rfl
  simp only [List.setIfInBounds_toArray, List.set_cons_zero, List.set_cons_succ]
  refine take_to (i := 20) (v := ?_) 143 rfl rfl (by kernel_rfl) (by kernel_rfl) (by kernel_rfl) (fun _ _ _ h => h) (Or.inl ⟨by rfl, ?_⟩) hS ?_
  rotate_left
  · intro W hW
    obtain ⟨⟨s0, s1, s2, s3, s4, s5, s6, s7, s8, s9⟩, _⟩ := HD.out W (ext_trans hbS hW)
    go_simp
    try with_reducible rfl
  simp only [List.setIfInBounds_toArray, List.set_cons_zero, List.set_cons_succ]
  refine wpAnyH_ready (rs := [17]) (by kernel_rfl) (by simp) ?_
  refine AllReadyH.cons rfl (fun K hK => ?_) AllReadyH.nil
  go_simp
  obtain ⟨⟨_, _, _, _, _, _, _, _, _, _⟩, ra, rb, rc, rj, rm⟩ := HD.out _ (ext_trans hbS hb301)
  refine (joinL_any d2 d3 a2 a3 n2 c2 n3 c3 ys vs _ rb rc hly hlv (by omega)).mono ?_
  rintro e w302 ⟨so17, k17, co17, rfl, ho17, hb302⟩
  have rr17 := ho17.row
  have hk17 : k17 ≤ 48 := by have h1 := ho17.1; have h2 := comb_len max d2 d3 ys vs; have h3 := rb.len; have h4 := rc.len; omega
  clear ho17
  replace hb302 := ext_trans hb301 hb302
  refine hK.out _ _ hb302 fun hS => ?_
  clear hK K
  refine wpAnyH_ready (rs := [18]) (by kernel_rfl) (by simp) ?_
  refine AllReadyH.cons rfl (fun K hK => ?_) AllReadyH.nil
  go_simp
  obtain ⟨⟨_, _, _, _, _, _, _, _, _, _⟩, ra, rb, rc, rj, rm⟩ := HD.out _ (ext_trans hbS hb302)
  refine (joinL_any d1 (max d2 d3) a1 so17 n1 c1 k17 co17 xs (comb max d2 d3 ys vs) _ ra rr17 hlx HE.out.2.2.2.2.2.1 (by omega)).mono ?_
  rintro e w303 ⟨so18, k18, co18, rfl, ho18, hb303⟩
  have rr18 := ho18.row
  clear ho18 rr17
  replace hb303 := ext_trans hb302 hb303
  refine hK.out _ _ hb303 fun hS => ?_
  clear hK K
  refine wpAnyH_ready (rs := [21]) (by kernel_rfl) (by simp) ?_
  refine AllReadyH.cons rfl (fun K hK => ?_) AllReadyH.nil
  go_simp
  obtain ⟨⟨_, _, _, _, _, _, _, _, _, _⟩, ra, rb, rc, rj, rm⟩ := HD.out _ (ext_trans hbS hb303)
  refine (joinL_any Dj d3 soj a3 kj coj n3 c3 zj vs _ rj rc hlj hlv (by omega)).mono ?_
  rintro e w304 ⟨so21, k21, co21, rfl, ho21, hb304⟩
  have rr21 := ho21.row
  clear ho21
  have rr18' := rr18.below hb304
  clear rr18
  replace hb304 := ext_trans hb303 hb304
  refine hK.out _ _ hb304 fun hS => ?_
  clear hK K
  refine wpAnyH_ready (rs := [22]) (by kernel_rfl) (by simp) ?_
  refine AllReadyH.cons rfl (fun K hK => ?_) AllReadyH.nil
  go_simp
  obtain ⟨⟨_, _, _, _, _, _, _, _, _, _⟩, ra, rb, rc, rj, rm⟩ := HD.out _ (ext_trans hbS hb304)
  refine (refSame_any (max d1 (max d2 d3)) so18 k18 co18 _ (max Dj d3) so21 k21 co21 _ _ rr18' rr21).mono ?_
  rintro e w305 ⟨rfl, hb305⟩
  rw [decide_eq_true HE.out.2.1]
  clear rr18' rr21
  replace hb305 := ext_trans hb304 hb305
  refine hK.out _ _ hb305 fun hS => ?_
  clear hK K
  refine take_to (i := 23) (v := ?_) 146 rfl rfl (by kernel_rfl) (by kernel_rfl) (by kernel_rfl) (fun _ _ _ h => h) (Or.inl ⟨by rfl, ?_⟩) hS ?_
  rotate_left
  · intro W hW
    obtain ⟨⟨s0, s1, s2, s3, s4, s5, s6, s7, s8, s9⟩, _⟩ := HD.out W (ext_trans hbS hW)
    go_simp
    try with_reducible rfl
  simp only [List.setIfInBounds_toArray, List.set_cons_zero, List.set_cons_succ]
  refine take_to (i := 24) (v := ?_) 147 rfl rfl (by kernel_rfl) (by kernel_rfl) (by kernel_rfl) (fun _ _ _ h => h) (Or.inl ⟨by rfl, ?_⟩) hS ?_
  rotate_left
  · intro W hW
    obtain ⟨⟨s0, s1, s2, s3, s4, s5, s6, s7, s8, s9⟩, _⟩ := HD.out W (ext_trans hbS hW)
    go_simp
    try with_reducible rfl
  simp only [List.setIfInBounds_toArray, List.set_cons_zero, List.set_cons_succ]
  refine take_to (i := 25) (v := ?_) 148 rfl rfl (by kernel_rfl) (by kernel_rfl) (by kernel_rfl) (fun _ _ _ h => h) (Or.inl ⟨by rfl, ?_⟩) hS ?_
  rotate_left
  · intro W hW
    obtain ⟨⟨s0, s1, s2, s3, s4, s5, s6, s7, s8, s9⟩, _⟩ := HD.out W (ext_trans hbS hW)
    go_simp
    try with_reducible rfl
  simp only [List.setIfInBounds_toArray, List.set_cons_zero, List.set_cons_succ]
  refine take_to (i := 26) (v := ?_) 149 rfl rfl (by kernel_rfl) (by kernel_rfl) (by kernel_rfl) (fun _ _ _ h => h) (Or.inl ⟨by rfl, ?_⟩) hS ?_
  rotate_left
  · intro W hW
    obtain ⟨⟨s0, s1, s2, s3, s4, s5, s6, s7, s8, s9⟩, _⟩ := HD.out W (ext_trans hbS hW)
    go_simp
    try with_reducible rfl
  simp only [List.setIfInBounds_toArray, List.set_cons_zero, List.set_cons_succ]
  refine take_to (i := 27) (v := ?_) 150 rfl rfl (by kernel_rfl) (by kernel_rfl) (by kernel_rfl) (fun _ _ _ h => h) (Or.inl ⟨by rfl, ?_⟩) hS ?_
  rotate_left
  · intro W hW
    obtain ⟨⟨s0, s1, s2, s3, s4, s5, s6, s7, s8, s9⟩, _⟩ := HD.out W (ext_trans hbS hW)
    go_simp
    try with_reducible rfl
  simp only [List.setIfInBounds_toArray, List.set_cons_zero, List.set_cons_succ]
  refine take_to (i := 29) (v := ?_) 152 rfl rfl (by kernel_rfl) (by kernel_rfl) (by kernel_rfl) (fun _ _ _ h => h) (Or.inl ⟨by rfl, ?_⟩) hS ?_
  rotate_left
  · intro W hW
    obtain ⟨⟨s0, s1, s2, s3, s4, s5, s6, s7, s8, s9⟩, _⟩ := HD.out W (ext_trans hbS hW)
    go_simp
    try with_reducible rfl
  simp only [List.setIfInBounds_toArray, List.set_cons_zero, List.set_cons_succ]
  refine wpAnyH_ready (rs := [28]) (by kernel_rfl) (by simp) ?_
  refine AllReadyH.cons rfl (fun K hK => ?_) AllReadyH.nil
  go_simp
  obtain ⟨⟨_, _, _, _, _, _, _, _, _, _⟩, ra, rb, rc, rj, rm⟩ := HD.out _ (ext_trans hbS hb305)
  refine (joinL_any d1 Dm a1 som n1 c1 km com xs zm _ ra rm hlx hlm (by omega)).mono ?_
  rintro e w306 ⟨so28, k28, co28, rfl, ho28, hb306⟩
  have rr28 := ho28.row
  clear ho28
  replace hb306 := ext_trans hb305 hb306
  refine hK.out _ _ hb306 fun hS => ?_
  clear hK K
  refine wpAnyH_ready (rs := [30]) (by kernel_rfl) (by simp) ?_
  refine AllReadyH.cons rfl (fun K hK => ?_) AllReadyH.nil
  go_simp
  obtain ⟨⟨_, _, _, _, _, _, _, _, _, _⟩, ra, rb, rc, rj, rm⟩ := HD.out _ (ext_trans hbS hb306)
  refine (refSame_any (max d1 Dm) so28 k28 co28 _ d1 a1 n1 c1 xs _ rr28 ra).mono ?_
  rintro e w307 ⟨rfl, hb307⟩
  rw [decide_eq_true HE.out.2.2.1]
  clear rr28
  replace hb307 := ext_trans hb306 hb307
  refine hK.out _ _ hb307 fun hS => ?_
  clear hK K
  refine take_to (i := 31) (v := ?_) 154 rfl rfl (by kernel_rfl) (by kernel_rfl) (by kernel_rfl) (fun _ _ _ h => h) (Or.inl ⟨by rfl, ?_⟩) hS ?_
  rotate_left
  · intro W hW
    obtain ⟨⟨s0, s1, s2, s3, s4, s5, s6, s7, s8, s9⟩, _⟩ := HD.out W (ext_trans hbS hW)
    go_simp
    try with_reducible rfl
  simp only [List.setIfInBounds_toArray, List.set_cons_zero, List.set_cons_succ]
  refine take_to (i := 32) (v := ?_) 155 rfl rfl (by kernel_rfl) (by kernel_rfl) (by kernel_rfl) (fun _ _ _ h => h) (Or.inl ⟨by rfl, ?_⟩) hS ?_
  rotate_left
  · intro W hW
    obtain ⟨⟨s0, s1, s2, s3, s4, s5, s6, s7, s8, s9⟩, _⟩ := HD.out W (ext_trans hbS hW)
    go_simp
    try with_reducible rfl
  simp only [List.setIfInBounds_toArray, List.set_cons_zero, List.set_cons_succ]
  refine take_to (i := 33) (v := ?_) 156 rfl rfl (by kernel_rfl) (by kernel_rfl) (by kernel_rfl) (fun _ _ _ h => h) (Or.inl ⟨by rfl, ?_⟩) hS ?_
  rotate_left
  · intro W hW
    obtain ⟨⟨s0, s1, s2, s3, s4, s5, s6, s7, s8, s9⟩, _⟩ := HD.out W (ext_trans hbS hW)
    go_simp
    try with_reducible rfl
  simp only [List.setIfInBounds_toArray, List.set_cons_zero, List.set_cons_succ]
  refine take_to (i := 34) (v := ?_) 157 rfl rfl (by kernel_rfl) (by kernel_rfl) (by kernel_rfl) (fun _ _ _ h => h) (Or.inl ⟨by rfl, ?_⟩) hS ?_
  rotate_left
  · intro W hW
    obtain ⟨⟨s0, s1, s2, s3, s4, s5, s6, s7, s8, s9⟩, _⟩ := HD.out W (ext_trans hbS hW)
    go_simp
    try with_reducible rfl
  simp only [List.setIfInBounds_toArray, List.set_cons_zero, List.set_cons_succ]
  refine take_to (i := 35) (v := ?_) 158 rfl rfl (by kernel_rfl) (by kernel_rfl) (by kernel_rfl) (fun _ _ _ h => h) (Or.inl ⟨by rfl, ?_⟩) hS ?_
  rotate_left
  · intro W hW
    obtain ⟨⟨s0, s1, s2, s3, s4, s5, s6, s7, s8, s9⟩, _⟩ := HD.out W (ext_trans hbS hW)
    go_simp
    try with_reducible rfl
  simp only [List.setIfInBounds_toArray, List.set_cons_zero, List.set_cons_succ]
  refine take_to (i := 37) (v := ?_) 160 rfl rfl (by kernel_rfl) (by kernel_rfl) (by kernel_rfl) (fun _ _ _ h => h) (Or.inl ⟨by rfl, ?_⟩) hS ?_
  rotate_left
  · intro W hW
    obtain ⟨⟨s0, s1, s2, s3, s4, s5, s6, s7, s8, s9⟩, _⟩ := HD.out W (ext_trans hbS hW)
    go_simp
    try with_reducible rfl
  simp only [List.setIfInBounds_toArray, List.set_cons_zero, List.set_cons_succ]
  refine wpAnyH_ready (rs := [36]) (by kernel_rfl) (by simp) ?_
  refine AllReadyH.cons rfl (fun K hK => ?_) AllReadyH.nil
  go_simp
  obtain ⟨⟨_, _, _, _, _, _, _, _, _, _⟩, ra, rb, rc, rj, rm⟩ := HD.out _ (ext_trans hbS hb307)
  refine (meetL_any d1 Dj a1 soj n1 c1 kj coj xs zj _ ra rj hlx hlj (by omega)).mono ?_
  rintro e w308 ⟨so36, k36, co36, rfl, ho36, hb308⟩
  have rr36 := ho36.row
  clear ho36
  replace hb308 := ext_trans hb307 hb308
  refine hK.out _ _ hb308 fun hS => ?_
  clear hK K
  refine wpAnyH_ready (rs := [38]) (by kernel_rfl) (by simp) ?_
  refine AllReadyH.cons rfl (fun K hK => ?_) AllReadyH.nil
  go_simp
  obtain ⟨⟨_, _, _, _, _, _, _, _, _, _⟩, ra, rb, rc, rj, rm⟩ := HD.out _ (ext_trans hbS hb308)
  refine (refSame_any (min d1 Dj) so36 k36 co36 _ d1 a1 n1 c1 xs _ rr36 ra).mono ?_
  rintro e w309 ⟨rfl, hb309⟩
  rw [decide_eq_true HE.out.2.2.2.1]
  clear rr36
  replace hb309 := ext_trans hb308 hb309
  refine hK.out _ _ hb309 fun hS => ?_
  clear hK K
  refine take_to (i := 39) (v := ?_) 162 rfl rfl (by kernel_rfl) (by kernel_rfl) (by kernel_rfl) (fun _ _ _ h => h) (Or.inl ⟨by rfl, ?_⟩) hS ?_
  rotate_left
  · intro W hW
    obtain ⟨⟨s0, s1, s2, s3, s4, s5, s6, s7, s8, s9⟩, _⟩ := HD.out W (ext_trans hbS hW)
    go_simp
    try with_reducible rfl
  simp only [List.setIfInBounds_toArray, List.set_cons_zero, List.set_cons_succ]
  refine take_to (i := 40) (v := ?_) 163 rfl rfl (by kernel_rfl) (by kernel_rfl) (by kernel_rfl) (fun _ _ _ h => h) (Or.inl ⟨by rfl, ?_⟩) hS ?_
  rotate_left
  · intro W hW
    obtain ⟨⟨s0, s1, s2, s3, s4, s5, s6, s7, s8, s9⟩, _⟩ := HD.out W (ext_trans hbS hW)
    go_simp
    try with_reducible rfl
  simp only [List.setIfInBounds_toArray, List.set_cons_zero, List.set_cons_succ]
  refine take_to (i := 41) (v := ?_) 164 rfl rfl (by kernel_rfl) (by kernel_rfl) (by kernel_rfl) (fun _ _ _ h => h) (Or.inl ⟨by rfl, ?_⟩) hS ?_
  rotate_left
  · intro W hW
    obtain ⟨⟨s0, s1, s2, s3, s4, s5, s6, s7, s8, s9⟩, _⟩ := HD.out W (ext_trans hbS hW)
    go_simp
    try with_reducible rfl
  simp only [List.setIfInBounds_toArray, List.set_cons_zero, List.set_cons_succ]
  refine take_to (i := 42) (v := ?_) 165 rfl rfl (by kernel_rfl) (by kernel_rfl) (by kernel_rfl) (fun _ _ _ h => h) (Or.inl ⟨by rfl, ?_⟩) hS ?_
  rotate_left
  · intro W hW
    obtain ⟨⟨s0, s1, s2, s3, s4, s5, s6, s7, s8, s9⟩, _⟩ := HD.out W (ext_trans hbS hW)
    go_simp
    try with_reducible rfl
  simp only [List.setIfInBounds_toArray, List.set_cons_zero, List.set_cons_succ]
  refine take_to (i := 44) (v := ?_) 167 rfl rfl (by kernel_rfl) (by kernel_rfl) (by kernel_rfl) (fun _ _ _ h => h) (Or.inl ⟨by rfl, ?_⟩) hS ?_
  rotate_left
  · intro W hW
    obtain ⟨⟨s0, s1, s2, s3, s4, s5, s6, s7, s8, s9⟩, _⟩ := HD.out W (ext_trans hbS hW)
    go_simp
    try with_reducible rfl
  simp only [List.setIfInBounds_toArray, List.set_cons_zero, List.set_cons_succ]
  refine take_to (i := 45) (v := ?_) 168 rfl rfl (by kernel_rfl) (by kernel_rfl) (by kernel_rfl) (fun _ _ _ h => h) (Or.inl ⟨by rfl, ?_⟩) hS ?_
  rotate_left
  · intro W hW
    obtain ⟨⟨s0, s1, s2, s3, s4, s5, s6, s7, s8, s9⟩, _⟩ := HD.out W (ext_trans hbS hW)
    go_simp
    try with_reducible rfl
  simp only [List.setIfInBounds_toArray, List.set_cons_zero, List.set_cons_succ]
  refine take_to (i := 46) (v := ?_) 169 rfl rfl (by kernel_rfl) (by kernel_rfl) (by kernel_rfl) (fun _ _ _ h => h) (Or.inl ⟨by rfl, ?_⟩) hS ?_
  rotate_left
  · intro W hW
    obtain ⟨⟨s0, s1, s2, s3, s4, s5, s6, s7, s8, s9⟩, _⟩ := HD.out W (ext_trans hbS hW)
    go_simp
    try with_reducible rfl
  simp only [List.setIfInBounds_toArray, List.set_cons_zero, List.set_cons_succ]
  refine wpAnyH_ready (rs := [43]) (by kernel_rfl) (by simp) ?_
  refine AllReadyH.cons rfl (fun K hK => ?_) AllReadyH.nil
  go_simp
  obtain ⟨⟨_, _, _, _, _, _, _, _, _, _⟩, ra, rb, rc, rj, rm⟩ := HD.out _ (ext_trans hbS hb309)
  refine (flowsL_any d1 d2 a1 a2 n1 c1 n2 c2 xs ys _ ra rb hlx hly hux huy (by omega)).mono ?_
  rintro e w310 ⟨q43, rfl, hq43, hb310⟩
  have HQ : Hid (q43 = decide (Dj = d2 ∧ zj = ys)) := Bool.eq_iff_iff.2 (by rw [hq43, HE.out.2.2.2.2.1, decide_eq_true_iff])
  clear hq43
  replace hb310 := ext_trans hb309 hb310
  refine hK.out _ _ hb310 fun hS => ?_
  clear hK K
  refine wpAnyH_ready (rs := [47]) (by kernel_rfl) (by simp) ?_
  refine AllReadyH.cons rfl (fun K hK => ?_) AllReadyH.nil
  go_simp
  obtain ⟨⟨_, _, _, _, _, _, _, _, _, _⟩, ra, rb, rc, rj, rm⟩ := HD.out _ (ext_trans hbS hb310)
  refine (refSame_any Dj soj kj coj zj d2 a2 n2 c2 ys _ rj rb).mono ?_
  rintro e w311 ⟨rfl, hb311⟩
  rw [← HQ.out]
  clear HQ
  replace hb311 := ext_trans hb310 hb311
  refine hK.out _ _ hb311 fun hS => ?_
  clear hK K
  refine take_to (i := 48) (v := ?_) 171 rfl rfl (by kernel_rfl) (by kernel_rfl) (by kernel_rfl) (fun _ _ _ h => h) (Or.inl ⟨by rfl, ?_⟩) hS ?_
  rotate_left
  · intro W hW
    obtain ⟨⟨s0, s1, s2, s3, s4, s5, s6, s7, s8, s9⟩, _⟩ := HD.out W (ext_trans hbS hW)
    go_simp
    try with_reducible rfl
  simp only [List.setIfInBounds_toArray, List.set_cons_zero, List.set_cons_succ]
  refine take_to (i := 49) (v := ?_) 172 rfl rfl (by kernel_rfl) (by kernel_rfl) (by kernel_rfl) (fun _ _ _ h => h) (Or.inl ⟨by rfl, ?_⟩) hS ?_
  rotate_left
  · intro W hW
    obtain ⟨⟨s0, s1, s2, s3, s4, s5, s6, s7, s8, s9⟩, _⟩ := HD.out W (ext_trans hbS hW)
    go_simp
    try with_reducible rfl
  simp only [List.setIfInBounds_toArray, List.set_cons_zero, List.set_cons_succ]
  refine take_to (i := 50) (v := ?_) 6 rfl rfl (by kernel_rfl) (by kernel_rfl) (by kernel_rfl) (fun _ _ _ h => h) (Or.inl ⟨by rfl, ?_⟩) hS ?_
  rotate_left
  · intro W hW
    obtain ⟨⟨s0, s1, s2, s3, s4, s5, s6, s7, s8, s9⟩, _⟩ := HD.out W (ext_trans hbS hW)
    go_simp
    try with_reducible rfl
  simp only [List.setIfInBounds_toArray, List.set_cons_zero, List.set_cons_succ]
  refine wpAnyH_done (by kernel_rfl) ?_ _
  refine NoPanic.normal ?_
  go_wp2_with fail
  go_ret
  exact ⟨rfl, HB.out _ (ext_trans hbS hb311)⟩

end Go.Proofs.Ytgpndbfefbdibaa
