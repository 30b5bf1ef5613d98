/- LabelRises answers true: the walk. -/
import Derived.Test.YtgpndbfefbdibaaLabBegun
namespace Go.Proofs.Ytgpndbfefbdibaa
open Go.RowKit

theorem light_true {d : Int} {xs : List (Int × Int)} (hd : 0 ≤ d) (hn : ∀ p ∈ xs, 0 ≤ p.2) (h : lightB d xs = true) : xs.length ≤ 24 ∧ LvL d xs ∧ CanL d xs := by
  unfold lightB at h
  rw [Bool.and_eq_true, decide_eq_true_eq, canB_iff] at h
  exact ⟨h.1, ⟨⟨hd, h.2.1⟩, fun p hp => ⟨hn p hp, h.2.2.1 p hp⟩⟩, h.2.2.2⟩
theorem rise_pairs (d : Int) (xs : List (Int × Int)) : ∀ p ∈ riseP d xs, ∃ q ∈ xs, p = (q.1, riseL q.2) := by
  intro p hp
  obtain ⟨_, r, hr, rfl⟩ := cmb_cats _ _ _ p hp
  obtain ⟨q, hq, rfl⟩ := List.mem_map.1 hr
  exact ⟨q, hq, rfl⟩
theorem rise_lv {d : Int} {xs : List (Int × Int)} (h : LvL d xs) : LvL (riseL d) (riseP d xs) :=
  ⟨riseL_lv h.1, fun p hp => by obtain ⟨q, hq, rfl⟩ := rise_pairs d xs p hp; exact riseL_lv (h.2 q hq)⟩
theorem riseL_pos {x : Int} (h : 0 ≤ x) : 1 ≤ riseL x := by unfold riseL; split <;> omega
theorem riseL_twice {x : Int} (h : 0 ≤ x) : riseL (riseL x) = riseL x := by
  have := riseL_pos h
  rw [riseL, if_neg (by omega)]
theorem rise_facts {d : Int} {xs : List (Int × Int)} (h : LvL d xs) (hu : UpL xs) : FlL d xs (riseL d) (riseP d xs) ∧ starsL 0 (riseP d xs) = [] ∧ riseL (riseL d) = riseL d ∧ riseP (riseL d) (riseP d xs) = riseP d xs ∧ canB (riseL d) (riseP d xs) = true := by
  have hc := rise_can d hu
  have hl := rise_lv h
  refine ⟨fun c => ?_, ?_, riseL_twice h.1.1, ?_, canB_iff.2 ⟨hl.1.2, fun p hp => (hl.2 p hp).2, hc⟩⟩
  · rw [rise_at d hu]
    have := atL_lv h c
    unfold riseL
    split <;> omega
  · unfold starsL
    rw [List.filter_eq_nil_iff.2 (fun p hp => by
      obtain ⟨q, hq, rfl⟩ := rise_pairs d xs p hp
      have := riseL_pos (h.2 q hq).1
      simp only [decide_eq_true_eq]
      omega)]
    rfl
  · have h1 := rise_can (riseL d) hc.1
    rw [riseL_twice h.1.1] at h1
    refine can_ext h1 hc fun c => ?_
    have h2 := rise_at (riseL d) hc.1 c
    rw [riseL_twice h.1.1, rise_at d hu, riseL_twice (atL_lv h c).1] at h2
    rw [h2, rise_at d hu]

set_option maxHeartbeats 4000000 in
theorem labelRises_walk (d : Int) (hd : 0 ≤ d ∧ d < 256) (a : Option Addr) (n cap : Nat) (xs : List (Int × Int)) (w : World) (hr : RowG PE w a n cap xs) :
    Calls Try.prog 8 #[.agg #[.int .u8 d, .slice a n cap]] w fun e w' => e = .returned (.bool true) ∧ Below w.heap.size w w' := by
  have hl := hr.len
  have h0 := below_alloc w (.cells #[.int .u8 d, .slice a n cap] 24)
  go_enter Try.func8, Try.ntmps8
  go_wp2_with fail
  refine (begun_true _).mono ?_
  rintro e w1 ⟨rfl, hb1⟩
  have hbw1 : Below w.heap.size w w1 := ext_trans h0 hb1
  have k0 : w1.cell? ⟨w.heap.size, 0, none⟩ = some (.int .u8 d) := by rw [hb1.cell (by simp)]; simp
  have k1 : w1.cell? ⟨w.heap.size, 1, none⟩ = some (.slice a n cap) := by rw [hb1.cell (by simp)]; simp
  clear hb1 h0
  go_wp2_with fail
  refine (light_any d a n cap xs _ (hr.below hbw1)).mono ?_
  rintro e w2 ⟨rfl, hb2⟩
  have hbw2 := ext_trans hbw1 hb2
  have k0' : w2.cell? ⟨w.heap.size, 0, none⟩ = some (.int .u8 d) := by rw [hb2.cell (lt_of_cell k0)]; exact k0
  have k1' : w2.cell? ⟨w.heap.size, 1, none⟩ = some (.slice a n cap) := by rw [hb2.cell (lt_of_cell k1)]; exact k1
  clear hb2 k0 k1
  cases hlb : lightB d xs
  · go_wp2_with fail
    go_ret
    exact ⟨rfl, hbw2⟩
  · obtain ⟨hn24, hlv, hcan⟩ := light_true hd.1 (fun p hp => (hr.ok p hp).2.1) hlb
    have hup := hcan.1
    have hrf := rise_facts hlv hup
    have hlz := rise_lv hlv
    have hupz := (rise_can d hup).1
    have hzl : (riseP d xs).length ≤ n := by have := cmb_len (riseL d) (fun x _ => riseL x) (xs.map fun p => (p.1, p.2, p.2)); simp [hl] at this; exact this
    have hD0 : riseL d ≠ 0 := by have := riseL_pos hd.1; omega
    clear hlb hcan
    go_wp2_with fail
    refine (riseLab_any d a n cap xs _ (hr.below hbw2) hlv (by omega)).mono ?_
    rintro e w3 ⟨so, k, co, rfl, hown, hb3⟩
    obtain ⟨D, hDD⟩ : ∃ D, D = riseL d := ⟨_, rfl⟩
    obtain ⟨zs, hzz⟩ : ∃ zs, zs = riseP d xs := ⟨_, rfl⟩
    rw [← hDD, ← hzz] at hrf
    rw [← hDD, ← hzz] at hlz
    rw [← hzz] at hown hzl hupz
    rw [← hDD] at hD0 ⊢
    have HP : Hid (FlL d xs D zs ∧ starsL 0 zs = [] ∧ riseL D = D ∧ riseP D zs = zs ∧ canB D zs = true) := hrf
    have hkk : k ≤ n := by rw [← hown.1]; exact hzl
    have hn24' : n ≤ 24 := by omega
    have hDne : (D == 0) = false := by simpa using hD0
    have hDne2 : (D != 0) = true := by simpa using hD0
    have hDne3 : decide (D = 0) = false := by simpa using hD0
    clear hrf hDD hzz hzl hn24
    have hbw3 := ext_trans hbw2 hb3
    have k0'' : w3.cell? ⟨w.heap.size, 0, none⟩ = some (.int .u8 d) := by rw [hb3.cell (lt_of_cell k0')]; exact k0'
    have k1'' : w3.cell? ⟨w.heap.size, 1, none⟩ = some (.slice a n cap) := by rw [hb3.cell (lt_of_cell k1')]; exact k1'
    have hrow := hown.row
    clear hb3 k0' k1' hown
    go_wp2_with fail
    obtain ⟨W1, hW1⟩ : ∃ x, x = w3.alloc (.cells #[.int .u8 D, .slice so k co] 24) := ⟨_, rfl⟩
    rw [← hW1]
    have hbW1 : Below w.heap.size w W1 := hW1 ▸ ext_trans hbw3 (below_alloc _ _)
    have c0 : W1.cell? ⟨w.heap.size, 0, none⟩ = some (.int .u8 d) := hW1 ▸ cell_old _ k0''
    have c1 : W1.cell? ⟨w.heap.size, 1, none⟩ = some (.slice a n cap) := hW1 ▸ cell_old _ k1''
    have c2 : W1.cell? ⟨w3.heap.size, 0, none⟩ = some (.int .u8 D) := by rw [hW1]; simp
    have c3 : W1.cell? ⟨w3.heap.size, 1, none⟩ = some (.slice so k co) := by rw [hW1]; simp
    have hrow1 : RowG PE W1 so k co zs := hW1 ▸ hrow.below (below_alloc _ _)
    have HC : Hid (∀ W, Below W1.heap.size W1 W → W.cell? ⟨w.heap.size, 0, none⟩ = some (.int .u8 d) ∧ W.cell? ⟨w.heap.size, 1, none⟩ = some (.slice a n cap) ∧ W.cell? ⟨w3.heap.size, 0, none⟩ = some (.int .u8 D) ∧ W.cell? ⟨w3.heap.size, 1, none⟩ = some (.slice so k co) ∧ RowG PE W a n cap xs ∧ RowG PE W so k co zs) := fun W h =>
      ⟨by rw [h.cell (lt_of_cell c0)]; exact c0, by rw [h.cell (lt_of_cell c1)]; exact c1, by rw [h.cell (lt_of_cell c2)]; exact c2, by rw [h.cell (lt_of_cell c3)]; exact c3, hr.below (ext_trans hbW1 h), hrow1.below h⟩
    have hB0 : Below W1.heap.size W1 W1.drew := ext_drew _
    clear hW1 c0 c1 c2 c3 hrow1 hrow k0'' k1'' hbw3
    refine wp_region_noPanic ?_
    refine wp_region_held_drew (S := fun W => Below W1.heap.size W1 W) (by kernel_rfl) hB0 fun hS => ?_
    refine take_to (i := 0) (v := ?_) 11 rfl rfl (by kernel_rfl) (by kernel_rfl) (by kernel_rfl) (fun _ _ _ h => h) (Or.inl ⟨by rfl, ?_⟩) hS ?_
    rotate_left
    · intro W hW
      obtain ⟨s0, s1, s2, s3, _⟩ := HC.out W hW
      go_simp
      try with_reducible rfl
    simp only [List.setIfInBounds_toArray, List.set_cons_zero, List.set_cons_succ]
    refine take_to (i := 1) (v := ?_) 12 rfl rfl (by kernel_rfl) (by kernel_rfl) (by kernel_rfl) (fun _ _ _ h => h) (Or.inl ⟨by rfl, ?_⟩) hS ?_
    rotate_left
    · intro W hW
      obtain ⟨s0, s1, s2, s3, _⟩ := HC.out W hW
      go_simp
      try with_reducible rfl
    simp only [List.setIfInBounds_toArray, List.set_cons_zero, List.set_cons_succ]
    refine wpAnyH_ready (rs := [2]) (by kernel_rfl) (by simp) ?_
    refine AllReadyH.cons rfl (fun K hK => ?_) AllReadyH.nil
    go_simp
    obtain ⟨_, _, _, _, rx, ry⟩ := HC.out _ hB0
    refine (flowsL_any d D a so n cap k co xs zs _ rx ry hlv hlz hup hupz (by omega)).mono ?_
    rintro e w3 ⟨q, rfl, hq, hb3⟩
    obtain rfl : q = true := hq.2 HP.out.1
    clear hq
    replace hb3 := ext_trans hB0 hb3
    refine hK.out _ _ hb3 fun hS => ?_
    clear hK K
    refine take_to (i := 3) (v := ?_) 14 rfl rfl (by kernel_rfl) (by kernel_rfl) (by kernel_rfl) (fun _ _ _ h => h) (Or.inl ⟨by rfl, ?_⟩) hS ?_
    rotate_left
    · intro W hW
      obtain ⟨s0, s1, s2, s3, _⟩ := HC.out W hW
      go_simp
      try with_reducible rfl
    simp only [List.setIfInBounds_toArray, List.set_cons_zero, List.set_cons_succ]
    refine take_to (i := 4) (v := ?_) 15 rfl rfl (by kernel_rfl) (by kernel_rfl) (by kernel_rfl) (fun _ _ _ h => h) (Or.inl ⟨by rfl, ?_⟩) hS ?_
    rotate_left
    · intro W hW
      obtain ⟨s0, s1, s2, s3, _⟩ := HC.out W hW
      go_simp
      try with_reducible rfl
    simp only [List.setIfInBounds_toArray, List.set_cons_zero, List.set_cons_succ]
    refine wpAnyH_ready (rs := [5]) (by kernel_rfl) (by simp) ?_
    refine AllReadyH.cons rfl (fun K hK => ?_) AllReadyH.nil
    go_simp
    obtain ⟨_, _, _, _, _, ry⟩ := HC.out _ hb3
    refine (stars_any D so k co zs _ ry (by omega)).mono ?_
    rintro e w4 ⟨so4, k4, co4, rfl, hown4, hb4⟩
    obtain rfl : k4 = 0 := by rw [← hown4.1, HP.out.2.1]; rfl
    clear hown4
    replace hb4 := ext_trans hb3 hb4
    refine hK.out _ _ hb4 fun hS => ?_
    clear hK K
    refine take_to (i := 6) (v := ?_) 17 rfl rfl (by kernel_rfl) (by kernel_rfl) (by kernel_rfl) (fun _ _ _ h => h) (Or.inl ⟨by rfl, ?_⟩) hS ?_
    rotate_left
    · intro W hW
      obtain ⟨s0, s1, s2, s3, _⟩ := HC.out W hW
      go_simp
      try with_reducible rfl
    simp only [List.setIfInBounds_toArray, List.set_cons_zero, List.set_cons_succ]
    refine take_to (i := 7) (v := ?_) 18 rfl rfl (by kernel_rfl) (by kernel_rfl) (by kernel_rfl) (fun _ _ _ h => h) (Or.inl ⟨by rfl, ?_⟩) hS ?_
    rotate_left
    · intro W hW
      obtain ⟨s0, s1, s2, s3, _⟩ := HC.out W hW
      go_simp
      try with_reducible rfl
    simp only [List.setIfInBounds_toArray, List.set_cons_zero, List.set_cons_succ]
    refine take_to (i := 8) (v := ?_) 19 rfl rfl (by kernel_rfl) (by kernel_rfl) (by kernel_rfl) (fun _ _ _ h => h) (Or.inl ⟨by rfl, ?_⟩) hS ?_
    rotate_left
    · intro W hW
      obtain ⟨s0, s1, s2, s3, _⟩ := HC.out W hW
      go_simp
      try with_reducible rfl
    simp only [List.setIfInBounds_toArray, List.set_cons_zero, List.set_cons_succ]
    refine take_to (i := 9) (v := ?_) 20 rfl rfl (by kernel_rfl) (by kernel_rfl) (by kernel_rfl) (fun _ _ _ h => h) (Or.inl ⟨by rfl, ?_⟩) hS ?_
    rotate_left
    · intro W hW
      obtain ⟨s0, s1, s2, s3, _⟩ := HC.out W hW
      go_simp
      try with_reducible rfl
    simp only [List.setIfInBounds_toArray, List.set_cons_zero, List.set_cons_succ]
    refine take_to (i := 10) (v := ?_) 21 rfl rfl (by kernel_rfl) (by kernel_rfl) (by kernel_rfl) (fun _ _ _ h => h) (Or.inl ⟨by rfl, ?_⟩) hS ?_
    rotate_left
    · intro W hW
      obtain ⟨s0, s1, s2, s3, _⟩ := HC.out W hW
      go_simp
      try with_reducible rfl
    simp only [List.setIfInBounds_toArray, List.set_cons_zero, List.set_cons_succ]
    refine take_to (i := 11) (v := ?_) 22 rfl rfl (by kernel_rfl) (by kernel_rfl) (by kernel_rfl) (fun _ _ _ h => h) (Or.inl ⟨by rfl, ?_⟩) hS ?_
    rotate_left
    · intro W hW
      obtain ⟨s0, s1, s2, s3, _⟩ := HC.out W hW
      go_simp
      try with_reducible rfl
    simp only [List.setIfInBounds_toArray, List.set_cons_zero, List.set_cons_succ]
    refine take_to (i := 12) (v := ?_) 23 rfl rfl (by kernel_rfl) (by kernel_rfl) (by kernel_rfl) (fun _ _ _ h => h) (Or.inl ⟨by rfl, ?_⟩) hS ?_
    rotate_left
    · intro W hW
      obtain ⟨s0, s1, s2, s3, _⟩ := HC.out W hW
      go_simp
      try with_reducible rfl
    simp only [List.setIfInBounds_toArray, List.set_cons_zero, List.set_cons_succ]
    refine take_to (i := 13) (v := ?_) 24 rfl rfl (by kernel_rfl) (by kernel_rfl) (by kernel_rfl) (fun _ _ _ h => h) (Or.inl ⟨by rfl, ?_⟩) hS ?_
    rotate_left
    · intro W hW
      obtain ⟨s0, s1, s2, s3, _⟩ := HC.out W hW
      go_simp
      try with_reducible rfl
    simp only [List.setIfInBounds_toArray, List.set_cons_zero, List.set_cons_succ]
    refine take_to (i := 14) (v := ?_) 25 rfl rfl (by kernel_rfl) (by kernel_rfl) (by kernel_rfl) (fun _ _ _ h => h) (Or.inl ⟨by rfl, ?_⟩) hS ?_
    rotate_left
    · intro W hW
      obtain ⟨s0, s1, s2, s3, _⟩ := HC.out W hW
      go_simp
      try with_reducible rfl
    simp only [List.setIfInBounds_toArray, List.set_cons_zero, List.set_cons_succ]
    refine take_to (i := 15) (v := ?_) 26 rfl rfl (by kernel_rfl) (by kernel_rfl) (by kernel_rfl) (fun _ _ _ h => h) (Or.inl ⟨by rfl, ?_⟩) hS ?_
    rotate_left
    · intro W hW
      obtain ⟨s0, s1, s2, s3, _⟩ := HC.out W hW
      go_simp
      try with_reducible rfl
    simp only [List.setIfInBounds_toArray, List.set_cons_zero, List.set_cons_succ]
    refine take_to (i := 17) (v := ?_) 28 rfl rfl (by kernel_rfl) (by kernel_rfl) (by kernel_rfl) (fun _ _ _ h => h) (Or.inl ⟨by rfl, ?_⟩) hS ?_
    rotate_left
    · intro W hW
      obtain ⟨s0, s1, s2, s3, _⟩ := HC.out W hW
      go_simp
      try with_reducible rfl
    simp only [List.setIfInBounds_toArray, List.set_cons_zero, List.set_cons_succ]
    refine wpAnyH_ready (rs := [16]) (by kernel_rfl) (by simp) ?_
    refine AllReadyH.cons rfl (fun K hK => ?_) AllReadyH.nil
    go_simp
    obtain ⟨_, _, _, _, _, ry⟩ := HC.out _ hb4
    refine (riseLab_any D so k co zs _ ry hlz (by omega)).mono ?_
    rintro e w5 ⟨so5, k5, co5, rfl, hown5, hb5⟩
    rw [HP.out.2.2.1]
    rw [HP.out.2.2.2.1] at hown5
    have r5 := hown5.row
    clear hown5
    replace hb5 := ext_trans hb4 hb5
    refine hK.out _ _ hb5 fun hS => ?_
    clear hK K
    refine wpAnyH_ready (rs := [18]) (by kernel_rfl) (by simp) ?_
    refine AllReadyH.cons rfl (fun K hK => ?_) AllReadyH.nil
    go_simp
    obtain ⟨_, _, _, _, _, ry⟩ := HC.out _ hb5
    refine (refSame_any D so5 k5 co5 zs D so k co zs _ r5 ry).mono ?_
    rintro e w6 ⟨rfl, hb6⟩
    rw [show decide (D = D ∧ zs = zs) = true by simp]
    replace hb6 := ext_trans hb5 hb6
    refine hK.out _ _ hb6 fun hS => ?_
    clear hK K
    refine take_to (i := 19) (v := ?_) 30 rfl rfl (by kernel_rfl) (by kernel_rfl) (by kernel_rfl) (fun _ _ _ h => h) (Or.inl ⟨by rfl, ?_⟩) hS ?_
    rotate_left
    · intro W hW
      obtain ⟨s0, s1, s2, s3, _⟩ := HC.out W hW
      go_simp
      try with_reducible rfl
    simp only [List.setIfInBounds_toArray, List.set_cons_zero, List.set_cons_succ]
    refine take_to (i := 20) (v := ?_) 31 rfl rfl (by kernel_rfl) (by kernel_rfl) (by kernel_rfl) (fun _ _ _ h => h) (Or.inl ⟨by rfl, ?_⟩) hS ?_
    rotate_left
    · intro W hW
      obtain ⟨s0, s1, s2, s3, _⟩ := HC.out W hW
      go_simp
      try with_reducible rfl
    simp only [List.setIfInBounds_toArray, List.set_cons_zero, List.set_cons_succ]
    refine take_to (i := 21) (v := ?_) 32 rfl rfl (by kernel_rfl) (by kernel_rfl) (by kernel_rfl) (fun _ _ _ h => h) (Or.inl ⟨by rfl, ?_⟩) hS ?_
    rotate_left
    · intro W hW
      obtain ⟨s0, s1, s2, s3, _⟩ := HC.out W hW
      go_simp
      try with_reducible rfl
    simp only [List.setIfInBounds_toArray, List.set_cons_zero, List.set_cons_succ]
    refine wpAnyH_ready (rs := [22]) (by kernel_rfl) (by simp) ?_
    refine AllReadyH.cons rfl (fun K hK => ?_) AllReadyH.nil
    go_simp
    obtain ⟨_, _, _, _, _, ry⟩ := HC.out _ hb6
    refine (canon_any D so k co zs _ ry).mono ?_
    rintro e w7 ⟨rfl, hb7⟩
    rw [HP.out.2.2.2.2]
    replace hb7 := ext_trans hb6 hb7
    refine hK.out _ _ hb7 fun hS => ?_
    clear hK K
    refine take_to (i := 23) (v := ?_) 34 rfl rfl (by kernel_rfl) (by kernel_rfl) (by kernel_rfl) (fun _ _ _ h => h) (Or.inl ⟨by rfl, ?_⟩) hS ?_
    rotate_left
    · intro W hW
      obtain ⟨s0, s1, s2, s3, _⟩ := HC.out W hW
      go_simp
      try with_reducible rfl
    simp only [List.setIfInBounds_toArray, List.set_cons_zero, List.set_cons_succ]
    refine take_to (i := 24) (v := ?_) 2 rfl rfl (by kernel_rfl) (by kernel_rfl) (by kernel_rfl) (fun _ _ _ h => h) (Or.inl ⟨by rfl, ?_⟩) hS ?_
    rotate_left
    · intro W hW
      obtain ⟨s0, s1, s2, s3, _⟩ := HC.out W hW
      go_simp
      try with_reducible rfl
    simp only [List.setIfInBounds_toArray, List.set_cons_zero, List.set_cons_succ]
    refine wpAnyH_done (by kernel_rfl) ?_ _
    refine NoPanic.normal ?_
    go_wp2_with fail
    go_ret
    exact ⟨rfl, ext_trans hbW1 hb7⟩
end Go.Proofs.Ytgpndbfefbdibaa
