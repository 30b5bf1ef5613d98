/- LabelSets answers true: the walk. -/
import Derived.Test.YtgpndbfefbdibaaLabelRisesWalk
namespace Go.Proofs.Ytgpndbfefbdibaa
open Go.RowKit

theorem sets_facts {d c lev : Int} {xs zs : List (Int × Int)} (h : LvL d xs) (hcx : CanL d xs) (hz : CanL d zs) (hat : ∀ c', atL d zs c' = if c' = c then lev else atL d xs c') (hl5 : lev ≤ 5) :
    atL d zs c = lev ∧ (∀ {dd : Int}, c ≠ dd → atL d zs dd = atL d xs dd) ∧ (0 ≤ atL d xs c ∧ atL d xs c < 256) ∧ (∀ ys, CanL d ys → (∀ c', atL d ys c' = if c' = c then atL d xs c else atL d zs c') → ys = xs) ∧ canB d zs = true := by
  refine ⟨by rw [hat, if_pos rfl], fun hd => by rw [hat, if_neg (fun e => hd e.symm)], by have := atL_lv h c; omega, fun ys hy hay => can_ext hy hcx fun c' => ?_, canB_iff.2 ⟨h.1.2, fun p hp => ?_, hz⟩⟩
  · rw [hay]
    by_cases e : c' = c
    · rw [if_pos e, e]
    · rw [if_neg e, hat, if_neg e]
  · rw [← atL_mem d hz.1 hp, hat]
    split
    · exact hl5
    · exact (atL_lv h _).2

set_option maxHeartbeats 4000000 in
theorem labelSets_walk (d : Int) (hd : 0 ≤ d ∧ d < 256) (a : Option Addr) (n cap : Nat) (xs : List (Int × Int)) (c dd lev : Int) (hc : 0 ≤ c ∧ c < 65536) (hlev : 0 ≤ lev ∧ lev < 256) (w : World) (hr : RowG PE w a n cap xs) :
    Calls Try.prog 7 #[.agg #[.int .u8 d, .slice a n cap], .int .u16 c, .int .u16 dd, .int .u8 lev] w fun e w' => e = .returned (.bool true) ∧ Below w.heap.size w w' := by
  have hl := hr.len
  have h0 := below_alloc w (.cells #[.int .u8 d, .slice a n cap] 24)
  go_enter Try.func7, Try.ntmps7
  go_wp2_with fail
  refine (begun_true _).mono ?_
  rintro e w1 ⟨rfl, hb1⟩
  have hbw1 : Below w.heap.size w w1 := ext_trans h0 hb1
  have k0 : w1.cell? ⟨w.heap.size, 0, none⟩ = some (.int .u8 d) := by rw [hb1.cell (by simp)]; simp
  have k1 : w1.cell? ⟨w.heap.size, 1, none⟩ = some (.slice a n cap) := by rw [hb1.cell (by simp)]; simp
  clear hb1 h0
  go_wp2_with fail
  refine (light_any d a n cap xs _ (hr.below hbw1)).mono ?_
  rintro e w2 ⟨rfl, hb2⟩
  have hbw2 := ext_trans hbw1 hb2
  have k0' : w2.cell? ⟨w.heap.size, 0, none⟩ = some (.int .u8 d) := by rw [hb2.cell (lt_of_cell k0)]; exact k0
  have k1' : w2.cell? ⟨w.heap.size, 1, none⟩ = some (.slice a n cap) := by rw [hb2.cell (lt_of_cell k1)]; exact k1
  clear hb2 k0 k1
  cases hlb : lightB d xs
  · go_wp2_with fail
    go_ret
    exact ⟨rfl, hbw2⟩
  · by_cases hl5 : 5 < lev
    · go_wp2_with fail
      go_ret
      exact ⟨rfl, hbw2⟩
    · have hl5' : decide (5 < lev) = false := by simpa using hl5
      obtain ⟨hn24, hlv, hcan⟩ := light_true hd.1 (fun p hp => (hr.ok p hp).2.1) hlb
      have hup := hcan.1
      clear hlb
      go_wp2_with fail
      refine (set_any d a n cap xs c lev hc hlev _ (hr.below hbw2) hcan (by omega)).mono ?_
      rintro e w3 ⟨so, k, co, zs, rfl, hown, hb3, hcanz, hat, hkn⟩
      have hrf := sets_facts hlv hcan hcanz hat (by omega)
      have HP : Hid (_) := hrf
      have hupz := hcanz.1
      have hn24' : n ≤ 24 := by omega
      clear hrf hat hn24 hl
      have hbw3 := ext_trans hbw2 hb3
      have k0'' : w3.cell? ⟨w.heap.size, 0, none⟩ = some (.int .u8 d) := by rw [hb3.cell (lt_of_cell k0')]; exact k0'
      have k1'' : w3.cell? ⟨w.heap.size, 1, none⟩ = some (.slice a n cap) := by rw [hb3.cell (lt_of_cell k1')]; exact k1'
      have hrow := hown.row
      clear hb3 k0' k1' hown
      go_wp2_with fail
      obtain ⟨W1, hW1⟩ : ∃ x, x = w3.alloc (.cells #[.int .u8 d, .slice so k co] 24) := ⟨_, rfl⟩
      rw [← hW1]
      have hbW1 : Below w.heap.size w W1 := hW1 ▸ ext_trans hbw3 (below_alloc _ _)
      have c0 : W1.cell? ⟨w.heap.size, 0, none⟩ = some (.int .u8 d) := hW1 ▸ cell_old _ k0''
      have c1 : W1.cell? ⟨w.heap.size, 1, none⟩ = some (.slice a n cap) := hW1 ▸ cell_old _ k1''
      have c2 : W1.cell? ⟨w3.heap.size, 0, none⟩ = some (.int .u8 d) := by rw [hW1]; simp
      have c3 : W1.cell? ⟨w3.heap.size, 1, none⟩ = some (.slice so k co) := by rw [hW1]; simp
      have hrow1 : RowG PE W1 so k co zs := hW1 ▸ hrow.below (below_alloc _ _)
      have HC : Hid (∀ W, Below W1.heap.size W1 W → W.cell? ⟨w.heap.size, 0, none⟩ = some (.int .u8 d) ∧ W.cell? ⟨w.heap.size, 1, none⟩ = some (.slice a n cap) ∧ W.cell? ⟨w3.heap.size, 0, none⟩ = some (.int .u8 d) ∧ W.cell? ⟨w3.heap.size, 1, none⟩ = some (.slice so k co) ∧ RowG PE W a n cap xs ∧ RowG PE W so k co zs) := fun W h =>
        ⟨by rw [h.cell (lt_of_cell c0)]; exact c0, by rw [h.cell (lt_of_cell c1)]; exact c1, by rw [h.cell (lt_of_cell c2)]; exact c2, by rw [h.cell (lt_of_cell c3)]; exact c3, hr.below (ext_trans hbW1 h), hrow1.below h⟩
      have hB0 : Below W1.heap.size W1 W1.drew := ext_drew _
      clear hW1 c0 c1 c2 c3 hrow1 hrow k0'' k1'' hbw3
      by_cases hcd : c = dd
      · subst hcd
        refine wp_region_noPanic ?_
        refine wp_region_held_drew (S := fun W => Below W1.heap.size W1 W) (by kernel_rfl) hB0 fun hS => ?_
        refine take_to (i := 0) (v := ?_) 23 rfl rfl (by kernel_rfl) (by kernel_rfl) (by kernel_rfl) (fun _ _ _ h => h) (Or.inl ⟨by rfl, ?_⟩) hS ?_
        rotate_left
        · intro W hW
          obtain ⟨s0, s1, s2, s3, _⟩ := HC.out W hW
          go_simp
          try with_reducible rfl
        simp only [List.setIfInBounds_toArray, List.set_cons_zero, List.set_cons_succ]
        refine take_to (i := 1) (v := ?_) 24 rfl rfl (by kernel_rfl) (by kernel_rfl) (by kernel_rfl) (fun _ _ _ h => h) (Or.inl ⟨by rfl, ?_⟩) hS ?_
        rotate_left
        · intro W hW
          obtain ⟨s0, s1, s2, s3, _⟩ := HC.out W hW
          go_simp
          try with_reducible rfl
        simp only [List.setIfInBounds_toArray, List.set_cons_zero, List.set_cons_succ]
        refine take_to (i := 3) (v := ?_) 26 rfl rfl (by kernel_rfl) (by kernel_rfl) (by kernel_rfl) (fun _ _ _ h => h) (Or.inl ⟨by rfl, ?_⟩) hS ?_
        rotate_left
        · intro W hW
          obtain ⟨s0, s1, s2, s3, _⟩ := HC.out W hW
          go_simp
          try with_reducible rfl
        simp only [List.setIfInBounds_toArray, List.set_cons_zero, List.set_cons_succ]
        refine wpAnyH_ready (rs := [2]) (by kernel_rfl) (by simp) ?_
        refine AllReadyH.cons rfl (fun K hK => ?_) AllReadyH.nil
        go_simp
        obtain ⟨_, _, _, _, rx, ry⟩ := HC.out _ hB0
        refine (at_any d so k co zs c _ ry hupz (by omega)).mono ?_
        rintro e w4 ⟨rfl, hb3⟩
        rw [HP.out.1]
        replace hb3 := ext_trans hB0 hb3
        refine hK.out _ _ hb3 fun hS => ?_
        clear hK K
        refine take_to (i := 4) (v := ?_) 27 rfl rfl (by kernel_rfl) (by kernel_rfl) (by kernel_rfl) (fun _ _ _ h => h) (Or.inl ⟨by rfl, ?_⟩) hS ?_
        rotate_left
        · intro W hW
          obtain ⟨s0, s1, s2, s3, _⟩ := HC.out W hW
          go_simp
          try with_reducible rfl
        simp only [List.setIfInBounds_toArray, List.set_cons_zero, List.set_cons_succ]
        refine take_to (i := 5) (v := ?_) 28 rfl rfl (by kernel_rfl) (by kernel_rfl) (by kernel_rfl) (fun _ _ _ h => h) (Or.inl ⟨by rfl, ?_⟩) hS ?_
        rotate_left
        · intro W hW
          obtain ⟨s0, s1, s2, s3, _⟩ := HC.out W hW
          go_simp
          try with_reducible rfl
        simp only [List.setIfInBounds_toArray, List.set_cons_zero, List.set_cons_succ]
        refine take_to (i := 6) (v := ?_) 29 rfl rfl (by kernel_rfl) (by kernel_rfl) (by kernel_rfl) (fun _ _ _ h => h) (Or.inl ⟨by rfl, ?_⟩) hS ?_
        rotate_left
        · intro W hW
          obtain ⟨s0, s1, s2, s3, _⟩ := HC.out W hW
          go_simp
          try with_reducible rfl
        simp only [List.setIfInBounds_toArray, List.set_cons_zero, List.set_cons_succ]
        refine take_to (i := 7) (v := ?_) 30 rfl rfl (by kernel_rfl) (by kernel_rfl) (by kernel_rfl) (fun _ _ _ h => h) (Or.inl ⟨by rfl, ?_⟩) hS ?_
        rotate_left
        · intro W hW
          obtain ⟨s0, s1, s2, s3, _⟩ := HC.out W hW
          go_simp
          try with_reducible rfl
        simp only [List.setIfInBounds_toArray, List.set_cons_zero, List.set_cons_succ]
        refine take_to (i := 8) (v := ?_) 31 rfl rfl (by kernel_rfl) (by kernel_rfl) (by kernel_rfl) (fun _ _ _ h => h) (Or.inl ⟨by rfl, ?_⟩) hS ?_
        rotate_left
        · intro W hW
          obtain ⟨s0, s1, s2, s3, _⟩ := HC.out W hW
          go_simp
          try with_reducible rfl
        simp only [List.setIfInBounds_toArray, List.set_cons_zero, List.set_cons_succ]
        refine take_to (i := 9) (v := ?_) 32 rfl rfl (by kernel_rfl) (by kernel_rfl) (by kernel_rfl) (fun _ _ _ h => h) (Or.inl ⟨by rfl, ?_⟩) hS ?_
        rotate_left
        · intro W hW
          obtain ⟨s0, s1, s2, s3, _⟩ := HC.out W hW
          go_simp
          try with_reducible rfl
        simp only [List.setIfInBounds_toArray, List.set_cons_zero, List.set_cons_succ]
        refine take_to (i := 10) (v := undef) 33 rfl rfl (by kernel_rfl) (by kernel_rfl) (by kernel_rfl) (fun _ _ _ h => h) (Or.inr ⟨by rfl, rfl⟩) hS ?_
        simp only [List.setIfInBounds_toArray, List.set_cons_zero, List.set_cons_succ]
        refine take_to (i := 11) (v := undef) 34 rfl rfl (by kernel_rfl) (by kernel_rfl) (by kernel_rfl) (fun _ _ _ h => h) (Or.inr ⟨by rfl, rfl⟩) hS ?_
        simp only [List.setIfInBounds_toArray, List.set_cons_zero, List.set_cons_succ]
        refine take_to (i := 12) (v := undef) 35 rfl rfl (by kernel_rfl) (by kernel_rfl) (by kernel_rfl) (fun _ _ _ h => h) (Or.inr ⟨by rfl, rfl⟩) hS ?_
        simp only [List.setIfInBounds_toArray, List.set_cons_zero, List.set_cons_succ]
        refine take_to (i := 13) (v := undef) 36 rfl rfl (by kernel_rfl) (by kernel_rfl) (by kernel_rfl) (fun _ _ _ h => h) (Or.inr ⟨by rfl, rfl⟩) hS ?_
        simp only [List.setIfInBounds_toArray, List.set_cons_zero, List.set_cons_succ]
        refine take_to (i := 14) (v := undef) 37 rfl rfl (by kernel_rfl) (by kernel_rfl) (by kernel_rfl) (fun _ _ _ h => h) (Or.inr ⟨by rfl, rfl⟩) hS ?_
        simp only [List.setIfInBounds_toArray, List.set_cons_zero, List.set_cons_succ]
        refine take_to (i := 15) (v := undef) 38 rfl rfl (by kernel_rfl) (by kernel_rfl) (by kernel_rfl) (fun _ _ _ h => h) (Or.inr ⟨by rfl, rfl⟩) hS ?_
        simp only [List.setIfInBounds_toArray, List.set_cons_zero, List.set_cons_succ]
        refine take_to (i := 16) (v := undef) 39 rfl rfl (by kernel_rfl) (by kernel_rfl) (by kernel_rfl) (fun _ _ _ h => h) (Or.inr ⟨by rfl, rfl⟩) hS ?_
        simp only [List.setIfInBounds_toArray, List.set_cons_zero, List.set_cons_succ]
        refine take_to (i := 17) (v := ?_) 40 rfl rfl (by kernel_rfl) (by kernel_rfl) (by kernel_rfl) (fun _ _ _ h => h) (Or.inl ⟨by rfl, ?_⟩) hS ?_
        rotate_left
        · intro W hW
          obtain ⟨s0, s1, s2, s3, _⟩ := HC.out W hW
          go_simp
          try with_reducible rfl
        simp only [List.setIfInBounds_toArray, List.set_cons_zero, List.set_cons_succ]
        refine take_to (i := 18) (v := ?_) 41 rfl rfl (by kernel_rfl) (by kernel_rfl) (by kernel_rfl) (fun _ _ _ h => h) (Or.inl ⟨by rfl, ?_⟩) hS ?_
        rotate_left
        · intro W hW
          obtain ⟨s0, s1, s2, s3, _⟩ := HC.out W hW
          go_simp
          try with_reducible rfl
        simp only [List.setIfInBounds_toArray, List.set_cons_zero, List.set_cons_succ]
        refine take_to (i := 19) (v := ?_) 42 rfl rfl (by kernel_rfl) (by kernel_rfl) (by kernel_rfl) (fun _ _ _ h => h) (Or.inl ⟨by rfl, ?_⟩) hS ?_
        rotate_left
        · intro W hW
          obtain ⟨s0, s1, s2, s3, _⟩ := HC.out W hW
          go_simp
          try with_reducible rfl
        simp only [List.setIfInBounds_toArray, List.set_cons_zero, List.set_cons_succ]
        refine take_to (i := 20) (v := ?_) 43 rfl rfl (by kernel_rfl) (by kernel_rfl) (by kernel_rfl) (fun _ _ _ h => h) (Or.inl ⟨by rfl, ?_⟩) hS ?_
        rotate_left
        · intro W hW
          obtain ⟨s0, s1, s2, s3, _⟩ := HC.out W hW
          go_simp
          try with_reducible rfl
        simp only [List.setIfInBounds_toArray, List.set_cons_zero, List.set_cons_succ]
        refine take_to (i := 21) (v := ?_) 44 rfl rfl (by kernel_rfl) (by kernel_rfl) (by kernel_rfl) (fun _ _ _ h => h) (Or.inl ⟨by rfl, ?_⟩) hS ?_
        rotate_left
        · intro W hW
          obtain ⟨s0, s1, s2, s3, _⟩ := HC.out W hW
          go_simp
          try with_reducible rfl
        simp only [List.setIfInBounds_toArray, List.set_cons_zero, List.set_cons_succ]
        refine take_to (i := 22) (v := ?_) 45 rfl rfl (by kernel_rfl) (by kernel_rfl) (by kernel_rfl) (fun _ _ _ h => h) (Or.inl ⟨by rfl, ?_⟩) hS ?_
        rotate_left
        · intro W hW
          obtain ⟨s0, s1, s2, s3, _⟩ := HC.out W hW
          go_simp
          try with_reducible rfl
        simp only [List.setIfInBounds_toArray, List.set_cons_zero, List.set_cons_succ]
        refine take_to (i := 23) (v := ?_) 46 rfl rfl (by kernel_rfl) (by kernel_rfl) (by kernel_rfl) (fun _ _ _ h => h) (Or.inl ⟨by rfl, ?_⟩) hS ?_
        rotate_left
        · intro W hW
          obtain ⟨s0, s1, s2, s3, _⟩ := HC.out W hW
          go_simp
          try with_reducible rfl
        simp only [List.setIfInBounds_toArray, List.set_cons_zero, List.set_cons_succ]
        refine take_to (i := 26) (v := ?_) 49 rfl rfl (by kernel_rfl) (by kernel_rfl) (by kernel_rfl) (fun _ _ _ h => h) (Or.inl ⟨by rfl, ?_⟩) hS ?_
        rotate_left
        · intro W hW
          obtain ⟨s0, s1, s2, s3, _⟩ := HC.out W hW
          go_simp
          try with_reducible rfl
        simp only [List.setIfInBounds_toArray, List.set_cons_zero, List.set_cons_succ]
        refine wpAnyH_ready (rs := [24]) (by kernel_rfl) (by simp) ?_
        refine AllReadyH.cons rfl (fun K hK => ?_) AllReadyH.nil
        go_simp
        obtain ⟨_, _, _, _, rx, ry⟩ := HC.out _ hb3
        refine (at_any d a n cap xs c _ rx hup (by omega)).mono ?_
        rintro e w4 ⟨rfl, hb6⟩
        replace hb6 := ext_trans hb3 hb6
        refine hK.out _ _ hb6 fun hS => ?_
        clear hK K
        refine wpAnyH_ready (rs := [25]) (by kernel_rfl) (by simp) ?_
        refine AllReadyH.cons rfl (fun K hK => ?_) AllReadyH.nil
        go_simp
        obtain ⟨_, _, _, _, rx, ry⟩ := HC.out _ hb6
        refine (set_any d so k co zs c (atL d xs c) hc (HP.out.2.2.1) _ ry hcanz (by omega)).mono ?_
        rintro e w4 ⟨so7, k7, co7, zs7, rfl, hown7, hb7, hcan7, hat7, _⟩
        obtain rfl := HP.out.2.2.2.1 zs7 hcan7 hat7
        have r7 := hown7.row
        clear hown7 hat7 hcan7
        replace hb7 := ext_trans hb6 hb7
        refine hK.out _ _ hb7 fun hS => ?_
        clear hK K
        refine wpAnyH_ready (rs := [27]) (by kernel_rfl) (by simp) ?_
        refine AllReadyH.cons rfl (fun K hK => ?_) AllReadyH.nil
        go_simp
        obtain ⟨_, _, _, _, rx, ry⟩ := HC.out _ hb7
        refine (refSame_any d so7 k7 co7 _ d a n cap _ _ r7 rx).mono ?_
        rintro e w4 ⟨rfl, hb8⟩
        rw [decide_eq_true (And.intro rfl rfl)]
        replace hb8 := ext_trans hb7 hb8
        refine hK.out _ _ hb8 fun hS => ?_
        clear hK K
        refine take_to (i := 28) (v := ?_) 51 rfl rfl (by kernel_rfl) (by kernel_rfl) (by kernel_rfl) (fun _ _ _ h => h) (Or.inl ⟨by rfl, ?_⟩) hS ?_
        rotate_left
        · intro W hW
          obtain ⟨s0, s1, s2, s3, _⟩ := HC.out W hW
          go_simp
          try with_reducible rfl
        simp only [List.setIfInBounds_toArray, List.set_cons_zero, List.set_cons_succ]
        refine take_to (i := 29) (v := ?_) 52 rfl rfl (by kernel_rfl) (by kernel_rfl) (by kernel_rfl) (fun _ _ _ h => h) (Or.inl ⟨by rfl, ?_⟩) hS ?_
        rotate_left
        · intro W hW
          obtain ⟨s0, s1, s2, s3, _⟩ := HC.out W hW
          go_simp
          try with_reducible rfl
        simp only [List.setIfInBounds_toArray, List.set_cons_zero, List.set_cons_succ]
        refine take_to (i := 30) (v := ?_) 53 rfl rfl (by kernel_rfl) (by kernel_rfl) (by kernel_rfl) (fun _ _ _ h => h) (Or.inl ⟨by rfl, ?_⟩) hS ?_
        rotate_left
        · intro W hW
          obtain ⟨s0, s1, s2, s3, _⟩ := HC.out W hW
          go_simp
          try with_reducible rfl
        simp only [List.setIfInBounds_toArray, List.set_cons_zero, List.set_cons_succ]
        refine wpAnyH_ready (rs := [31]) (by kernel_rfl) (by simp) ?_
        refine AllReadyH.cons rfl (fun K hK => ?_) AllReadyH.nil
        go_simp
        obtain ⟨_, _, _, _, rx, ry⟩ := HC.out _ hb8
        refine (canon_any d so k co zs _ ry).mono ?_
        rintro e w4 ⟨rfl, hb9⟩
        rw [HP.out.2.2.2.2]
        replace hb9 := ext_trans hb8 hb9
        refine hK.out _ _ hb9 fun hS => ?_
        clear hK K
        refine take_to (i := 32) (v := ?_) 55 rfl rfl (by kernel_rfl) (by kernel_rfl) (by kernel_rfl) (fun _ _ _ h => h) (Or.inl ⟨by rfl, ?_⟩) hS ?_
        rotate_left
        · intro W hW
          obtain ⟨s0, s1, s2, s3, _⟩ := HC.out W hW
          go_simp
          try with_reducible rfl
        simp only [List.setIfInBounds_toArray, List.set_cons_zero, List.set_cons_succ]
        refine take_to (i := 33) (v := ?_) 8 rfl rfl (by kernel_rfl) (by kernel_rfl) (by kernel_rfl) (fun _ _ _ h => h) (Or.inl ⟨by rfl, ?_⟩) hS ?_
        rotate_left
        · intro W hW
          obtain ⟨s0, s1, s2, s3, _⟩ := HC.out W hW
          go_simp
          try with_reducible rfl
        simp only [List.setIfInBounds_toArray, List.set_cons_zero, List.set_cons_succ]
        refine wpAnyH_done (by kernel_rfl) ?_ _
        refine NoPanic.normal ?_
        go_wp2_with fail
        go_ret
        exact ⟨rfl, ext_trans hbW1 hb9⟩
      · have hcd' : (c == dd) = false := by simpa using hcd
        refine wp_region_noPanic ?_
        refine wp_region_held_drew (S := fun W => Below W1.heap.size W1 W) (by kernel_rfl) hB0 fun hS => ?_
        refine take_to (i := 0) (v := ?_) 23 rfl rfl (by kernel_rfl) (by kernel_rfl) (by kernel_rfl) (fun _ _ _ h => h) (Or.inl ⟨by rfl, ?_⟩) hS ?_
        rotate_left
        · intro W hW
          obtain ⟨s0, s1, s2, s3, _⟩ := HC.out W hW
          go_simp
          try with_reducible rfl
        simp only [List.setIfInBounds_toArray, List.set_cons_zero, List.set_cons_succ]
        refine take_to (i := 1) (v := ?_) 24 rfl rfl (by kernel_rfl) (by kernel_rfl) (by kernel_rfl) (fun _ _ _ h => h) (Or.inl ⟨by rfl, ?_⟩) hS ?_
        rotate_left
        · intro W hW
          obtain ⟨s0, s1, s2, s3, _⟩ := HC.out W hW
          go_simp
          try with_reducible rfl
        simp only [List.setIfInBounds_toArray, List.set_cons_zero, List.set_cons_succ]
        refine take_to (i := 3) (v := ?_) 26 rfl rfl (by kernel_rfl) (by kernel_rfl) (by kernel_rfl) (fun _ _ _ h => h) (Or.inl ⟨by rfl, ?_⟩) hS ?_
        rotate_left
        · intro W hW
          obtain ⟨s0, s1, s2, s3, _⟩ := HC.out W hW
          go_simp
          try with_reducible rfl
        simp only [List.setIfInBounds_toArray, List.set_cons_zero, List.set_cons_succ]
        refine wpAnyH_ready (rs := [2]) (by kernel_rfl) (by simp) ?_
        refine AllReadyH.cons rfl (fun K hK => ?_) AllReadyH.nil
        go_simp
        obtain ⟨_, _, _, _, rx, ry⟩ := HC.out _ hB0
        refine (at_any d so k co zs c _ ry hupz (by omega)).mono ?_
        rintro e w4 ⟨rfl, hb3⟩
        rw [HP.out.1]
        replace hb3 := ext_trans hB0 hb3
        refine hK.out _ _ hb3 fun hS => ?_
        clear hK K
        refine take_to (i := 4) (v := ?_) 27 rfl rfl (by kernel_rfl) (by kernel_rfl) (by kernel_rfl) (fun _ _ _ h => h) (Or.inl ⟨by rfl, ?_⟩) hS ?_
        rotate_left
        · intro W hW
          obtain ⟨s0, s1, s2, s3, _⟩ := HC.out W hW
          go_simp
          try with_reducible rfl
        simp only [List.setIfInBounds_toArray, List.set_cons_zero, List.set_cons_succ]
        refine take_to (i := 5) (v := ?_) 28 rfl rfl (by kernel_rfl) (by kernel_rfl) (by kernel_rfl) (fun _ _ _ h => h) (Or.inl ⟨by rfl, ?_⟩) hS ?_
        rotate_left
        · intro W hW
          obtain ⟨s0, s1, s2, s3, _⟩ := HC.out W hW
          go_simp
          try with_reducible rfl
        simp only [List.setIfInBounds_toArray, List.set_cons_zero, List.set_cons_succ]
        refine take_to (i := 6) (v := ?_) 29 rfl rfl (by kernel_rfl) (by kernel_rfl) (by kernel_rfl) (fun _ _ _ h => h) (Or.inl ⟨by rfl, ?_⟩) hS ?_
        rotate_left
        · intro W hW
          obtain ⟨s0, s1, s2, s3, _⟩ := HC.out W hW
          go_simp
          try with_reducible rfl
        simp only [List.setIfInBounds_toArray, List.set_cons_zero, List.set_cons_succ]
        refine take_to (i := 7) (v := ?_) 30 rfl rfl (by kernel_rfl) (by kernel_rfl) (by kernel_rfl) (fun _ _ _ h => h) (Or.inl ⟨by rfl, ?_⟩) hS ?_
        rotate_left
        · intro W hW
          obtain ⟨s0, s1, s2, s3, _⟩ := HC.out W hW
          go_simp
          try with_reducible rfl
        simp only [List.setIfInBounds_toArray, List.set_cons_zero, List.set_cons_succ]
        refine take_to (i := 8) (v := ?_) 31 rfl rfl (by kernel_rfl) (by kernel_rfl) (by kernel_rfl) (fun _ _ _ h => h) (Or.inl ⟨by rfl, ?_⟩) hS ?_
        rotate_left
        · intro W hW
          obtain ⟨s0, s1, s2, s3, _⟩ := HC.out W hW
          go_simp
          try with_reducible rfl
        simp only [List.setIfInBounds_toArray, List.set_cons_zero, List.set_cons_succ]
        refine take_to (i := 9) (v := ?_) 32 rfl rfl (by kernel_rfl) (by kernel_rfl) (by kernel_rfl) (fun _ _ _ h => h) (Or.inl ⟨by rfl, ?_⟩) hS ?_
        rotate_left
        · intro W hW
          obtain ⟨s0, s1, s2, s3, _⟩ := HC.out W hW
          go_simp
          try with_reducible rfl
        simp only [List.setIfInBounds_toArray, List.set_cons_zero, List.set_cons_succ]
        refine take_to (i := 10) (v := ?_) 33 rfl rfl (by kernel_rfl) (by kernel_rfl) (by kernel_rfl) (fun _ _ _ h => h) (Or.inl ⟨by rfl, ?_⟩) hS ?_
        rotate_left
        · intro W hW
          obtain ⟨s0, s1, s2, s3, _⟩ := HC.out W hW
          go_simp
          try with_reducible rfl
        simp only [List.setIfInBounds_toArray, List.set_cons_zero, List.set_cons_succ]
        refine take_to (i := 11) (v := ?_) 34 rfl rfl (by kernel_rfl) (by kernel_rfl) (by kernel_rfl) (fun _ _ _ h => h) (Or.inl ⟨by rfl, ?_⟩) hS ?_
        rotate_left
        · intro W hW
          obtain ⟨s0, s1, s2, s3, _⟩ := HC.out W hW
          go_simp
          try with_reducible rfl
        simp only [List.setIfInBounds_toArray, List.set_cons_zero, List.set_cons_succ]
        refine take_to (i := 13) (v := ?_) 36 rfl rfl (by kernel_rfl) (by kernel_rfl) (by kernel_rfl) (fun _ _ _ h => h) (Or.inl ⟨by rfl, ?_⟩) hS ?_
        rotate_left
        · intro W hW
          obtain ⟨s0, s1, s2, s3, _⟩ := HC.out W hW
          go_simp
          try with_reducible rfl
        simp only [List.setIfInBounds_toArray, List.set_cons_zero, List.set_cons_succ]
        refine take_to (i := 14) (v := ?_) 37 rfl rfl (by kernel_rfl) (by kernel_rfl) (by kernel_rfl) (fun _ _ _ h => h) (Or.inl ⟨by rfl, ?_⟩) hS ?_
        rotate_left
        · intro W hW
          obtain ⟨s0, s1, s2, s3, _⟩ := HC.out W hW
          go_simp
          try with_reducible rfl
        simp only [List.setIfInBounds_toArray, List.set_cons_zero, List.set_cons_succ]
        refine wpAnyH_ready (rs := [12]) (by kernel_rfl) (by simp) ?_
        refine AllReadyH.cons rfl (fun K hK => ?_) AllReadyH.nil
        go_simp
        obtain ⟨_, _, _, _, rx, ry⟩ := HC.out _ hb3
        refine (at_any d so k co zs dd _ ry hupz (by omega)).mono ?_
        rintro e w4 ⟨rfl, hb4⟩
        rw [HP.out.2.1 hcd]
        replace hb4 := ext_trans hb3 hb4
        refine hK.out _ _ hb4 fun hS => ?_
        clear hK K
        refine wpAnyH_ready (rs := [15]) (by kernel_rfl) (by simp) ?_
        refine AllReadyH.cons rfl (fun K hK => ?_) AllReadyH.nil
        go_simp
        obtain ⟨_, _, _, _, rx, ry⟩ := HC.out _ hb4
        refine (at_any d a n cap xs dd _ rx hup (by omega)).mono ?_
        rintro e w4 ⟨rfl, hb5⟩
        generalize atL d xs dd = vd
        replace hb5 := ext_trans hb4 hb5
        refine hK.out _ _ hb5 fun hS => ?_
        clear hK K
        refine take_to (i := 16) (v := ?_) 39 rfl rfl (by kernel_rfl) (by kernel_rfl) (by kernel_rfl) (fun _ _ _ h => h) (Or.inl ⟨by rfl, ?_⟩) hS ?_
        rotate_left
        · intro W hW
          obtain ⟨s0, s1, s2, s3, _⟩ := HC.out W hW
          go_simp
          try with_reducible rfl
        simp only [List.setIfInBounds_toArray, List.set_cons_zero, List.set_cons_succ]
        refine take_to (i := 17) (v := ?_) 40 rfl rfl (by kernel_rfl) (by kernel_rfl) (by kernel_rfl) (fun _ _ _ h => h) (Or.inl ⟨by rfl, ?_⟩) hS ?_
        rotate_left
        · intro W hW
          obtain ⟨s0, s1, s2, s3, _⟩ := HC.out W hW
          go_simp
          try with_reducible rfl
        simp only [List.setIfInBounds_toArray, List.set_cons_zero, List.set_cons_succ]
        refine take_to (i := 18) (v := ?_) 41 rfl rfl (by kernel_rfl) (by kernel_rfl) (by kernel_rfl) (fun _ _ _ h => h) (Or.inl ⟨by rfl, ?_⟩) hS ?_
        rotate_left
        · intro W hW
          obtain ⟨s0, s1, s2, s3, _⟩ := HC.out W hW
          go_simp
          try with_reducible rfl
        simp only [List.setIfInBounds_toArray, List.set_cons_zero, List.set_cons_succ]
        refine take_to (i := 19) (v := ?_) 42 rfl rfl (by kernel_rfl) (by kernel_rfl) (by kernel_rfl) (fun _ _ _ h => h) (Or.inl ⟨by rfl, ?_⟩) hS ?_
        rotate_left
        · intro W hW
          obtain ⟨s0, s1, s2, s3, _⟩ := HC.out W hW
          go_simp
          try with_reducible rfl
        simp only [List.setIfInBounds_toArray, List.set_cons_zero, List.set_cons_succ]
        refine take_to (i := 20) (v := ?_) 43 rfl rfl (by kernel_rfl) (by kernel_rfl) (by kernel_rfl) (fun _ _ _ h => h) (Or.inl ⟨by rfl, ?_⟩) hS ?_
        rotate_left
        · intro W hW
          obtain ⟨s0, s1, s2, s3, _⟩ := HC.out W hW
          go_simp
          try with_reducible rfl
        simp only [List.setIfInBounds_toArray, List.set_cons_zero, List.set_cons_succ]
        refine take_to (i := 21) (v := ?_) 44 rfl rfl (by kernel_rfl) (by kernel_rfl) (by kernel_rfl) (fun _ _ _ h => h) (Or.inl ⟨by rfl, ?_⟩) hS ?_
        rotate_left
        · intro W hW
          obtain ⟨s0, s1, s2, s3, _⟩ := HC.out W hW
          go_simp
          try with_reducible rfl
        simp only [List.setIfInBounds_toArray, List.set_cons_zero, List.set_cons_succ]
        refine take_to (i := 22) (v := ?_) 45 rfl rfl (by kernel_rfl) (by kernel_rfl) (by kernel_rfl) (fun _ _ _ h => h) (Or.inl ⟨by rfl, ?_⟩) hS ?_
        rotate_left
        · intro W hW
          obtain ⟨s0, s1, s2, s3, _⟩ := HC.out W hW
          go_simp
          try with_reducible rfl
        simp only [List.setIfInBounds_toArray, List.set_cons_zero, List.set_cons_succ]
        refine take_to (i := 23) (v := ?_) 46 rfl rfl (by kernel_rfl) (by kernel_rfl) (by kernel_rfl) (fun _ _ _ h => h) (Or.inl ⟨by rfl, ?_⟩) hS ?_
        rotate_left
        · intro W hW
          obtain ⟨s0, s1, s2, s3, _⟩ := HC.out W hW
          go_simp
          try with_reducible rfl
        simp only [List.setIfInBounds_toArray, List.set_cons_zero, List.set_cons_succ]
        refine take_to (i := 26) (v := ?_) 49 rfl rfl (by kernel_rfl) (by kernel_rfl) (by kernel_rfl) (fun _ _ _ h => h) (Or.inl ⟨by rfl, ?_⟩) hS ?_
        rotate_left
        · intro W hW
          obtain ⟨s0, s1, s2, s3, _⟩ := HC.out W hW
          go_simp
          try with_reducible rfl
        simp only [List.setIfInBounds_toArray, List.set_cons_zero, List.set_cons_succ]
        refine wpAnyH_ready (rs := [24]) (by kernel_rfl) (by simp) ?_
        refine AllReadyH.cons rfl (fun K hK => ?_) AllReadyH.nil
        go_simp
        obtain ⟨_, _, _, _, rx, ry⟩ := HC.out _ hb5
        refine (at_any d a n cap xs c _ rx hup (by omega)).mono ?_
        rintro e w4 ⟨rfl, hb6⟩
        replace hb6 := ext_trans hb5 hb6
        refine hK.out _ _ hb6 fun hS => ?_
        clear hK K
        refine wpAnyH_ready (rs := [25]) (by kernel_rfl) (by simp) ?_
        refine AllReadyH.cons rfl (fun K hK => ?_) AllReadyH.nil
        go_simp
        obtain ⟨_, _, _, _, rx, ry⟩ := HC.out _ hb6
        refine (set_any d so k co zs c (atL d xs c) hc (HP.out.2.2.1) _ ry hcanz (by omega)).mono ?_
        rintro e w4 ⟨so7, k7, co7, zs7, rfl, hown7, hb7, hcan7, hat7, _⟩
        obtain rfl := HP.out.2.2.2.1 zs7 hcan7 hat7
        have r7 := hown7.row
        clear hown7 hat7 hcan7
        replace hb7 := ext_trans hb6 hb7
        refine hK.out _ _ hb7 fun hS => ?_
        clear hK K
        refine wpAnyH_ready (rs := [27]) (by kernel_rfl) (by simp) ?_
        refine AllReadyH.cons rfl (fun K hK => ?_) AllReadyH.nil
        go_simp
        obtain ⟨_, _, _, _, rx, ry⟩ := HC.out _ hb7
        refine (refSame_any d so7 k7 co7 _ d a n cap _ _ r7 rx).mono ?_
        rintro e w4 ⟨rfl, hb8⟩
        rw [decide_eq_true (And.intro rfl rfl)]
        replace hb8 := ext_trans hb7 hb8
        refine hK.out _ _ hb8 fun hS => ?_
        clear hK K
        refine take_to (i := 28) (v := ?_) 51 rfl rfl (by kernel_rfl) (by kernel_rfl) (by kernel_rfl) (fun _ _ _ h => h) (Or.inl ⟨by rfl, ?_⟩) hS ?_
        rotate_left
        · intro W hW
          obtain ⟨s0, s1, s2, s3, _⟩ := HC.out W hW
          go_simp
          try with_reducible rfl
        simp only [List.setIfInBounds_toArray, List.set_cons_zero, List.set_cons_succ]
        refine take_to (i := 29) (v := ?_) 52 rfl rfl (by kernel_rfl) (by kernel_rfl) (by kernel_rfl) (fun _ _ _ h => h) (Or.inl ⟨by rfl, ?_⟩) hS ?_
        rotate_left
        · intro W hW
          obtain ⟨s0, s1, s2, s3, _⟩ := HC.out W hW
          go_simp
          try with_reducible rfl
        simp only [List.setIfInBounds_toArray, List.set_cons_zero, List.set_cons_succ]
        refine take_to (i := 30) (v := ?_) 53 rfl rfl (by kernel_rfl) (by kernel_rfl) (by kernel_rfl) (fun _ _ _ h => h) (Or.inl ⟨by rfl, ?_⟩) hS ?_
        rotate_left
        · intro W hW
          obtain ⟨s0, s1, s2, s3, _⟩ := HC.out W hW
          go_simp
          try with_reducible rfl
        simp only [List.setIfInBounds_toArray, List.set_cons_zero, List.set_cons_succ]
        refine wpAnyH_ready (rs := [31]) (by kernel_rfl) (by simp) ?_
        refine AllReadyH.cons rfl (fun K hK => ?_) AllReadyH.nil
        go_simp
        obtain ⟨_, _, _, _, rx, ry⟩ := HC.out _ hb8
        refine (canon_any d so k co zs _ ry).mono ?_
        rintro e w4 ⟨rfl, hb9⟩
        rw [HP.out.2.2.2.2]
        replace hb9 := ext_trans hb8 hb9
        refine hK.out _ _ hb9 fun hS => ?_
        clear hK K
        refine take_to (i := 32) (v := ?_) 55 rfl rfl (by kernel_rfl) (by kernel_rfl) (by kernel_rfl) (fun _ _ _ h => h) (Or.inl ⟨by rfl, ?_⟩) hS ?_
        rotate_left
        · intro W hW
          obtain ⟨s0, s1, s2, s3, _⟩ := HC.out W hW
          go_simp
          try with_reducible rfl
        simp only [List.setIfInBounds_toArray, List.set_cons_zero, List.set_cons_succ]
        refine take_to (i := 33) (v := ?_) 8 rfl rfl (by kernel_rfl) (by kernel_rfl) (by kernel_rfl) (fun _ _ _ h => h) (Or.inl ⟨by rfl, ?_⟩) hS ?_
        rotate_left
        · intro W hW
          obtain ⟨s0, s1, s2, s3, _⟩ := HC.out W hW
          go_simp
          try with_reducible rfl
        simp only [List.setIfInBounds_toArray, List.set_cons_zero, List.set_cons_succ]
        refine wpAnyH_done (by kernel_rfl) ?_ _
        refine NoPanic.normal ?_
        go_wp2_with fail
        go_ret
        exact ⟨rfl, ext_trans hbW1 hb9⟩
end Go.Proofs.Ytgpndbfefbdibaa
