/- What Rises and Makes answer, and the document's own: contracts. -/
import Derived.Test.YthhpfpihgmhlbaaM1May
namespace Go.Proofs.Ythhpfpihgmhlbaa
open Go.RowKit

set_option maxHeartbeats 4000000 in
theorem refRises_is (q : Bool) {d d' : Int} {a1 a2 : Option Addr} {n1 c1 n2 c2 : Nat} {xs ys : List (Int × Int)} (hq : Hid (q = true ↔ FlL d xs d' ys)) (w : World) (ht : Lb w d a1 n1 c1 xs) (ho : Lb w d' a2 n2 c2 ys) :
    Calls Try.prog 25 #[.agg #[.int .u8 d, .slice a1 n1 c1], .agg #[.int .u8 d', .slice a2 n2 c2]] w fun e w' => e = .returned (.int .i64 (why (nameB d' ys) (starB d xs (starsL 0 ys)) q)) ∧ Below w.heap.size w w' := by
  have l1 := ht.le
  have l2 := ho.le
  have HC : Hid _ := two_labs w (.int .u8 d) (.slice a1 n1 c1) (.int .u8 d') (.slice a2 n2 c2)
  obtain ⟨cs, hcs⟩ : ∃ cs, cs = starsL 0 ys := ⟨_, rfl⟩
  rw [← hcs]
  have HCS : Hid (cs = starsL 0 ys) := hcs
  clear hcs
  go_enter Try.func25, Try.ntmps25
  go_wp2_with fail
  obtain ⟨_, _, _, _, bw⟩ := HC.out _ (Below.refl _ _)
  refine (refNames_any d' a2 n2 c2 ys _ (ho.below bw).row (by omega)).mono ?_
  rintro e w1 ⟨rfl, hb1⟩
  obtain ⟨s0, s1, s2, s3, bw1⟩ := HC.out _ hb1
  clear bw
  cases hn : nameB d' ys
  · go_wp2_with fail
    go_ret
    exact ⟨by simp [why, hn], bw1⟩
  go_wp2_with fail
  refine (levels_any d' a2 n2 c2 ys 0 _ (ho.below bw1).row (by omega)).mono ?_
  rintro e w2 ⟨so, k, co, rfl, hown, hb2⟩
  replace hb2 := ext_trans hb1 hb2
  obtain ⟨s0, s1, s2, s3, bw2⟩ := HC.out _ hb2
  clear bw1 hb1
  have hs := hown.row
  clear hown
  rw [← HCS.out] at hs
  have hl : Hid (cs.length = k) := hs.len
  have hcap := hs.cap_le
  go_wp2_with fail
  go_loopw [6] (fun i wr => ∃ j : Nat, j ≤ k ∧ i = .int .i64 j ∧ Below w2.heap.size w2 wr ∧ starB d xs (cs.take j) = true) (fun i _ => k - (intOf i).toNat)
  case atStart => exact ⟨0, by omega, rfl, Below.refl _ _, by simp [starB]⟩
  case round =>
    obtain ⟨j, hj, rfl, hbr, hst⟩ := hrel
    have HST : Hid (starB d xs (cs.take j) = true) := hst
    clear hst
    obtain ⟨r0, r1, r2, r3, hbw⟩ := HC.out _ (ext_trans hb2 hbr)
    by_cases hlt : j < k
    · have hp : (j : Int) < (k : Int) := by omega
      obtain ⟨C, zb, zoff, rfl, hC, hCb, z0⟩ := (hs.below hbr).at' j hlt
      have HX : Hid (cs[j]? = some C) := hC
      have HZ : Hid (∀ W, Below wr.heap.size wr W → W.cell? ⟨w.heap.size, 0, none⟩ = some (.int .u8 d) ∧ W.cell? ⟨w.heap.size, 1, none⟩ = some (.slice a1 n1 c1) ∧ W.cell? ⟨zb, zoff + j, none⟩ = some (.int .u16 C)) := fun W h =>
        ⟨by rw [h.cell (lt_of_cell r0)]; exact r0, by rw [h.cell (lt_of_cell r1)]; exact r1, by rw [h.cell (lt_of_cell z0)]; exact z0⟩
      clear hC z0 r0 r1 r2 r3 s0 s1 s2 s3
      go_wp2_with fail
      refine wp_region_noPanic ?_
      refine wp_region_held_drew (S := fun W => Below wr.heap.size wr W) (by kernel_rfl) (ext_drew wr) fun hS => ?_
      refine take_to (i := 0) (v := ?_) 18 rfl rfl (by kernel_rfl) (by kernel_rfl) (by kernel_rfl) (fun _ _ _ h => h) (Or.inl ⟨by rfl, ?_⟩) hS ?_
      rotate_left
      · intro W hW
        obtain ⟨s0, s1, z0⟩ := HZ.out W hW
        go_simp
        try with_reducible rfl
      simp only [List.setIfInBounds_toArray, List.set_cons_zero, List.set_cons_succ]
      refine take_to (i := 1) (v := ?_) 19 rfl rfl (by kernel_rfl) (by kernel_rfl) (by kernel_rfl) (fun _ _ _ h => h) (Or.inl ⟨by rfl, ?_⟩) hS ?_
      rotate_left
      · intro W hW
        obtain ⟨s0, s1, z0⟩ := HZ.out W hW
        go_simp
        try with_reducible rfl
      simp only [List.setIfInBounds_toArray, List.set_cons_zero, List.set_cons_succ]
      refine take_to (i := 2) (v := ?_) 20 rfl rfl (by kernel_rfl) (by kernel_rfl) (by kernel_rfl) (fun _ _ _ h => h) (Or.inl ⟨by rfl, ?_⟩) hS ?_
      rotate_left
      · intro W hW
        obtain ⟨s0, s1, z0⟩ := HZ.out W hW
        go_simp
        try with_reducible rfl
      simp only [List.setIfInBounds_toArray, List.set_cons_zero, List.set_cons_succ]
      refine take_to (i := 3) (v := ?_) 21 rfl rfl (by kernel_rfl) (by kernel_rfl) (by kernel_rfl) (fun _ _ _ h => h) (Or.inl ⟨by rfl, ?_⟩) hS ?_
      rotate_left
      · intro W hW
        obtain ⟨s0, s1, z0⟩ := HZ.out W hW
        go_simp
        try with_reducible rfl
      simp only [List.setIfInBounds_toArray, List.set_cons_zero, List.set_cons_succ]
      refine take_to (i := 4) (v := ?_) 22 rfl rfl (by kernel_rfl) (by kernel_rfl) (by kernel_rfl) (fun _ _ _ h => h) (Or.inl ⟨by rfl, ?_⟩) hS ?_
      rotate_left
      · intro W hW
        obtain ⟨s0, s1, z0⟩ := HZ.out W hW
        go_simp
        try with_reducible rfl
      simp only [List.setIfInBounds_toArray, List.set_cons_zero, List.set_cons_succ]
      refine wpAnyH_ready (rs := [5]) (by kernel_rfl) (by simp) ?_
      refine AllReadyH.cons rfl (fun K hK => ?_) AllReadyH.nil
      go_simp
      refine (refAt_any d a1 n1 c1 xs C _ ((ht.below hbw).below (ext_drew _)).row).mono ?_
      rintro e w3 ⟨rfl, hb3⟩
      have hB3 : Below wr.heap.size wr w3 := ext_trans (ext_drew _) hb3
      obtain ⟨x, hx⟩ : ∃ x, x = atL d xs C := ⟨_, rfl⟩
      rw [← hx]
      have HXC : Hid (x = atL d xs C) := hx
      clear hx
      refine hK.out _ _ hB3 fun hS => ?_
      clear hK K
      by_cases hx0 : x = 0
      · subst hx0
        refine take_to (i := 6) (v := ?_) 24 rfl rfl (by kernel_rfl) (by kernel_rfl) (by kernel_rfl) (fun _ _ _ h => h) (Or.inl ⟨by rfl, ?_⟩) hS ?_
        rotate_left
        · intro W hW
          obtain ⟨s0, s1, z0⟩ := HZ.out W hW
          go_simp
          try with_reducible rfl
        simp only [List.setIfInBounds_toArray, List.set_cons_zero, List.set_cons_succ]
        refine wpAnyH_done (by kernel_rfl) ?_ _
        refine NoPanic.normal ?_
        go_wp2_with fail
        go_roundw
        case rel =>
          refine ⟨j + 1, by omega, by go_num, ext_trans hbr hB3, ?_⟩
          rw [take_snoc HX.out, starB, List.all_append, Bool.and_eq_true]
          exact ⟨HST.out, by simp [HXC.out.symm]⟩
        case measure => simp [intOf]; omega
      · have hx1 : (x != 0) = true := by simpa using hx0
        have hx2 : (x == 0) = false := by simpa using hx0
        refine take_to (i := 6) (v := ?_) 24 rfl rfl (by kernel_rfl) (by kernel_rfl) (by kernel_rfl) (fun _ _ _ h => h) (Or.inl ⟨by rfl, ?_⟩) hS ?_
        rotate_left
        · intro W hW
          obtain ⟨s0, s1, z0⟩ := HZ.out W hW
          go_simp
          try with_reducible rfl
        simp only [List.setIfInBounds_toArray, List.set_cons_zero, List.set_cons_succ]
        refine wpAnyH_done (by kernel_rfl) ?_ _
        refine NoPanic.normal ?_
        go_wp2_with fail
        go_ret
        refine ⟨?_, ext_trans hbw hB3⟩
        have : starB d xs cs = false := by
          cases h : starB d xs cs
          · rfl
          · have h1 := List.all_eq_true.1 h C (List.mem_of_getElem? HX.out)
            rw [decide_eq_true_eq, ← HXC.out] at h1
            exact absurd h1 hx0
        rw [hn, this]; rfl
    · obtain rfl : k = j := by omega
      have h1 := HST.out
      rw [List.take_of_length_le (by rw [hl.out]; exact Nat.le_refl _)] at h1
      have H1 : Hid (starB d xs cs = true) := h1
      clear h1
      go_wp2_with fail
      refine (refFlows_is q hq _ (ht.below hbw) (ho.below hbw)).mono ?_
      rintro e w3 ⟨rfl, hb3⟩
      cases q
      · go_wp2_with fail
        go_ret
        exact ⟨by rw [hn, H1.out]; rfl, ext_trans hbw hb3⟩
      · go_wp2_with fail
        go_ret
        exact ⟨by rw [hn, H1.out]; rfl, ext_trans hbw hb3⟩

set_option maxHeartbeats 2000000 in
theorem refMakes_is (q : Bool) {d d' : Int} {a1 a2 : Option Addr} {n1 c1 n2 c2 : Nat} {xs ys : List (Int × Int)} (hq : Hid (q = true ↔ FlL d xs d' ys)) (w : World) (ht : Lb w d a1 n1 c1 xs) (ho : Lb w d' a2 n2 c2 ys) :
    Calls Try.prog 27 #[.agg #[.int .u8 d, .slice a1 n1 c1], .agg #[.int .u8 d', .slice a2 n2 c2]] w fun e w' => e = .returned (.int .i64 (why (nameB d' ys) (decide (starsL 0 ys = [])) q)) ∧ Below w.heap.size w w' := by
  have l1 := ht.le
  have l2 := ho.le
  have HC : Hid _ := two_labs w (.int .u8 d) (.slice a1 n1 c1) (.int .u8 d') (.slice a2 n2 c2)
  go_enter Try.func27, Try.ntmps27
  go_wp2_with fail
  obtain ⟨_, _, _, _, bw⟩ := HC.out _ (Below.refl _ _)
  refine (refNames_any d' a2 n2 c2 ys _ (ho.below bw).row (by omega)).mono ?_
  rintro e w1 ⟨rfl, hb1⟩
  obtain ⟨s0, s1, s2, s3, bw1⟩ := HC.out _ hb1
  clear bw
  cases hn : nameB d' ys
  · go_wp2_with fail
    go_ret
    exact ⟨by simp [why, hn], bw1⟩
  go_wp2_with fail
  refine (levels_any d' a2 n2 c2 ys 0 _ (ho.below bw1).row (by omega)).mono ?_
  rintro e w2 ⟨so, k, co, rfl, hown, hb2⟩
  replace hb2 := ext_trans hb1 hb2
  obtain ⟨s0, s1, s2, s3, bw2⟩ := HC.out _ hb2
  have hkl : k ≤ 9223372036854775807 := by have := hown.row.cap_le; omega
  have hkz := hown.1
  clear bw1 hb1 hown
  by_cases hs : starsL 0 ys = []
  · obtain rfl : k = 0 := by rw [← hkz, hs]; rfl
    have HS : Hid (decide (starsL 0 ys = []) = true) := decide_eq_true hs
    clear hs hkz
    go_wp2_with fail
    refine (refFlows_is q hq _ (ht.below bw2) (ho.below bw2)).mono ?_
    rintro e w3 ⟨rfl, hb3⟩
    cases q
    · go_wp2_with fail
      go_ret
      exact ⟨by rw [hn, HS.out]; rfl, ext_trans bw2 hb3⟩
    · go_wp2_with fail
      go_ret
      exact ⟨by rw [hn, HS.out]; rfl, ext_trans bw2 hb3⟩
  · have hk0 : (0 : Int) < (k : Int) := by
      have h2 : (starsL 0 ys).length ≠ 0 := fun e => hs (List.eq_nil_of_length_eq_zero e)
      omega
    have HS : Hid (decide (starsL 0 ys = []) = false) := decide_eq_false hs
    clear hs hkz
    go_wp2_with fail
    go_ret
    exact ⟨by rw [hn, HS.out]; rfl, bw2⟩

end Go.Proofs.Ythhpfpihgmhlbaa
