/- LabelMakes answers true: the walk. -/
import Derived.Test.YtgpndbfefbdibaaStable
import Derived.Test.YtgpndbfefbdibaaLabSetAt
import Derived.Test.YtgpndbfefbdibaaLabelRisesWalk
namespace Go.Proofs.Ytgpndbfefbdibaa
open Go.RowKit
set_option linter.unusedVariables false

theorem up_rev (d : Int) {xs : List (Int × Int)} (h : UpL xs) (c : Int) : atL d xs.reverse c = atL d xs c := by
  induction xs with
  | nil => rfl
  | cons p L ih =>
    have hp := List.pairwise_cons.1 h
    rw [List.reverse_cons, atL_app, atL_cons, atL_cons]
    by_cases hc : p.1 = c
    · rw [if_pos hc, if_pos hc]
      exact atL_off _ _ _ fun q hq => by have := hp.1 q (by simpa using hq); omega
    · rw [if_neg hc, if_neg hc]
      exact ih hp.2
theorem set_rev {d c lev : Int} {xs : List (Int × Int)} (h : UpL xs) {x : Int} : (if x = c then lev else atL d xs x) = atL d (xs ++ [(c, lev)]).reverse x := by
  rw [List.reverse_append, List.reverse_singleton, List.singleton_append, atL_cons, up_rev d h]
  by_cases e : x = c
  · rw [if_pos e, if_pos e.symm]
  · rw [if_neg e, if_neg fun h => e h.symm]

set_option maxHeartbeats 4000000 in
theorem labelMakes_walk (d1 : Int) (hd1 : 0 ≤ d1 ∧ d1 < 256) (a1 : Option Addr) (n1 c1 : Nat) (xs : List (Int × Int)) (d : Int) (hd : 0 ≤ d ∧ d < 256) (a2 : Option Addr) (n2 c2 : Nat) (ps : List (Int × Int)) (c : Int) (hc : 0 ≤ c ∧ c < 65536) (lev : Int) (hlev : 0 ≤ lev ∧ lev < 256) (w : World) (hr : RowG PE w a1 n1 c1 xs) (hs : RowG PE w a2 n2 c2 ps) :
    Calls Try.prog 3 #[.agg #[.int .u8 d1, .slice a1 n1 c1], .int .u8 d, .slice a2 n2 c2, .int .u16 c, .int .u8 lev] w fun e w' => e = .returned (.bool true) ∧ Below w.heap.size w w' := by
  have hcap1 := hr.cap_le
  have hcap2 := hs.cap_le
  have h0 := below_alloc w (.cells #[.int .u8 d1, .slice a1 n1 c1] 24)
  have HK : Hid (∀ W, Below (w.alloc (.cells #[.int .u8 d1, .slice a1 n1 c1] 24)).heap.size (w.alloc (.cells #[.int .u8 d1, .slice a1 n1 c1] 24)) W → (W.cell? ⟨w.heap.size, 0, none⟩ = some (.int .u8 d1) ∧ W.cell? ⟨w.heap.size, 1, none⟩ = some (.slice a1 n1 c1)) ∧ RowG PE W a1 n1 c1 xs ∧ RowG PE W a2 n2 c2 ps ∧ Below w.heap.size w W) := fun W h =>
    ⟨⟨by rw [h.cell (by simp)]; simp, by rw [h.cell (by simp)]; simp⟩, hr.below (ext_trans h0 h), hs.below (ext_trans h0 h), ext_trans h0 h⟩
  clear h0
  go_enter Try.func3, Try.ntmps3
  go_wp2_with fail
  refine (begun_true _).mono ?_
  rintro e W1 ⟨rfl, hb1⟩
  obtain ⟨⟨k0, k1⟩, rx1, rp1, hbw1⟩ := HK.out _ hb1
  by_cases hn1 : n1 ≤ 60
  case neg =>
    have e1 : (60 : Int) < (n1 : Int) := by omega
    go_wp2_with fail
    go_ret
    exact ⟨rfl, hbw1⟩
  have e1 : decide ((60 : Int) < (n1 : Int)) = false := by simp; omega
  by_cases hn2 : n2 ≤ 40
  case neg =>
    have e2 : (40 : Int) < (n2 : Int) := by omega
    go_wp2_with fail
    go_ret
    exact ⟨rfl, hbw1⟩
  · have e2 : decide ((40 : Int) < (n2 : Int)) = false := by simp; omega
    have HC : Hid (∀ W, Below W1.heap.size W1 W → (W.cell? ⟨w.heap.size, 0, none⟩ = some (.int .u8 d1) ∧ W.cell? ⟨w.heap.size, 1, none⟩ = some (.slice a1 n1 c1)) ∧ RowG PE W a1 n1 c1 xs ∧ RowG PE W a2 n2 c2 ps ∧ Below w.heap.size w W) := fun W h => HK.out W (ext_trans hb1 h)
    clear HK
    go_wp2_with fail
    refine wp_region_noPanic ?_
    refine wp_region_held_drew (S := fun W => Below W1.heap.size W1 W) (by kernel_rfl) (ext_drew W1) fun hS => ?_
    refine take_to (i := 0) (v := ?_) 24 rfl rfl (by kernel_rfl) (by kernel_rfl) (by kernel_rfl) (fun _ _ _ h => h) (Or.inl ⟨by rfl, ?_⟩) hS ?_
    rotate_left
    · intro W hW
      obtain ⟨⟨s0, s1⟩, _⟩ := HC.out W hW
      go_simp
      try with_reducible rfl
    simp only [List.setIfInBounds_toArray, List.set_cons_zero, List.set_cons_succ]
    refine take_to (i := 2) (v := ?_) 26 rfl rfl (by kernel_rfl) (by kernel_rfl) (by kernel_rfl) (fun _ _ _ h => h) (Or.inl ⟨by rfl, ?_⟩) hS ?_
    rotate_left
    · intro W hW
      obtain ⟨⟨s0, s1⟩, _⟩ := HC.out W hW
      go_simp
      try with_reducible rfl
    simp only [List.setIfInBounds_toArray, List.set_cons_zero, List.set_cons_succ]
    refine wpAnyH_ready (rs := [1]) (by kernel_rfl) (by simp) ?_
    refine AllReadyH.cons rfl (fun K hK => ?_) AllReadyH.nil
    go_simp
    obtain ⟨_, rx, _⟩ := HC.out _ (ext_drew W1)
    refine (may_any d1 hd1.1 a1 n1 c1 xs _ rx).mono ?_
    rintro e w3 ⟨rfl, hb3⟩
    replace hb3 := ext_trans (ext_drew W1) hb3
    refine hK.out _ _ hb3 fun hS => ?_
    clear hK K
    refine wpAnyH_ready (rs := [3]) (by kernel_rfl) (by simp) ?_
    refine AllReadyH.cons rfl (fun K hK => ?_) AllReadyH.nil
    go_simp
    obtain ⟨_, rx, _⟩ := HC.out _ hb3
    refine (refMay_any d1 a1 n1 c1 xs _ rx).mono ?_
    rintro e w4 ⟨rfl, hb4⟩
    replace hb4 := ext_trans hb3 hb4
    have hmm : (mayB d1 xs != mayB d1 xs) = false := by simp
    generalize mayB d1 xs = mb at hmm ⊢
    refine hK.out _ _ hb4 fun hS => ?_
    clear hK K
    refine take_to (i := 4) (v := ?_) 28 rfl rfl (by kernel_rfl) (by kernel_rfl) (by kernel_rfl) (fun _ _ _ h => h) (Or.inl ⟨by rfl, ?_⟩) hS ?_
    rotate_left
    · intro W hW
      obtain ⟨⟨s0, s1⟩, _⟩ := HC.out W hW
      go_simp
      try with_reducible rfl
    simp only [List.setIfInBounds_toArray, List.set_cons_zero, List.set_cons_succ]
    refine wpAnyH_done (by kernel_rfl) ?_ _
    refine NoPanic.normal ?_
    obtain ⟨_, rx4, rp4, hbw4⟩ := HC.out _ hb4
    clear hb4 hb3 hbw1 rp1 rx1 k0 k1 hb1 rx4 HC hmm
    by_cases hd5 : d ≤ 5
    case neg =>
      have e3 : (5 : Int) < d := by omega
      go_wp2_with fail
      go_ret
      exact ⟨rfl, hbw4⟩
    have e3 : decide ((5 : Int) < d) = false := by simp; omega
    by_cases hl5 : lev ≤ 5
    case neg =>
      have e4 : (5 : Int) < lev := by omega
      go_wp2_with fail
      go_ret
      exact ⟨rfl, hbw4⟩
    have e4 : decide ((5 : Int) < lev) = false := by simp; omega
    go_wp2_with fail
    go_loop [11] (fun iv => ∃ i : Nat, i ≤ n2 ∧ iv = .int .i64 i) (fun iv => n2 - (intOf iv).toNat)
    case atStart => exact ⟨0, by omega, rfl⟩
    case round =>
      obtain ⟨i, hi, rfl⟩ := hrel
      by_cases hlt : i < n2
      · have p1 : (i : Int) < (n2 : Int) := by omega
        obtain ⟨g, off, rfl, _⟩ := rp4.at (by omega)
        obtain ⟨X, Y, hX, _⟩ := rp4.get2 i hlt
        obtain ⟨t1, t2⟩ := rp4.pair hX
        clear hX
        by_cases hY : Y ≤ 5
        · have e5 : decide ((5 : Int) < Y) = false := by simp; omega
          go_wp2_with fail
          go_round
          case rel => exact ⟨i + 1, by omega, by go_num⟩
          case measure => simp [intOf]; omega
        · have e5 : (5 : Int) < Y := by omega
          go_wp2_with fail
          go_ret
          exact ⟨rfl, hbw4⟩
      · have p1 : decide ((i : Int) < (n2 : Int)) = false := by simp; omega
        go_wp2_with fail
        refine (make_any 1000 (fun B so n cap xs w h hn => sort_any B so n cap xs w h (by omega)) (Nat.le_refl _) d a2 n2 c2 ps _ rp4 (by omega)).mono ?_
        rintro e w5 ⟨so, k, co, zs, rfl, ho, hb5, hcan, hat, hk, _⟩
        have HP : Hid (CanL d zs ∧ (∀ x, atL d zs x = atL d ps.reverse x) ∧ True) := ⟨hcan, hat, trivial⟩
        clear hcan hat
        have hbw5 := ext_trans hbw4 hb5
        have rp5 := rp4.below hb5
        have rz5 := ho.row
        clear ho hb5 rp4 hbw4
        go_wp2_with fail
        obtain ⟨W5, hW5⟩ : ∃ x, x = w5.alloc (.cells #[.int .u8 d, .slice so k co] 24) := ⟨_, rfl⟩
        rw [← hW5]
        have hb6 : Below w5.heap.size w5 W5 := hW5 ▸ below_alloc _ _
        have g0 : W5.cell? ⟨w5.heap.size, 0, none⟩ = some (.int .u8 d) := by rw [hW5]; simp
        have g1 : W5.cell? ⟨w5.heap.size, 1, none⟩ = some (.slice so k co) := by rw [hW5]; simp
        have hbw6 := ext_trans hbw5 hb6
        have rp6 := rp5.below hb6
        have rz6 := rz5.below hb6
        clear hW5 hb6 rp5 rz5 hbw5
        have HC2 : Hid (∀ W, Below W5.heap.size W5 W → (W.cell? ⟨w5.heap.size, 0, none⟩ = some (.int .u8 d) ∧ W.cell? ⟨w5.heap.size, 1, none⟩ = some (.slice so k co)) ∧ RowG PE W a2 n2 c2 ps ∧ RowG PE W so k co zs) := fun W h =>
          ⟨⟨by rw [h.cell (lt_of_cell g0)]; exact g0, by rw [h.cell (lt_of_cell g1)]; exact g1⟩, rp6.below h, rz6.below h⟩
        clear g0 g1 rp6 rz6
        go_wp2_with fail
        refine wp_region_noPanic ?_
        refine wp_region_held_drew (S := fun W => Below W5.heap.size W5 W) (by kernel_rfl) (ext_drew W5) fun hS => ?_
        refine take_to (i := 0) (v := ?_) 50 rfl rfl (by kernel_rfl) (by kernel_rfl) (by kernel_rfl) (fun _ _ _ h => h) (Or.inl ⟨by rfl, ?_⟩) hS ?_
        rotate_left
        · intro W hW
          obtain ⟨⟨s0, s1⟩, _⟩ := HC2.out W hW
          go_simp
          try with_reducible rfl
        simp only [List.setIfInBounds_toArray, List.set_cons_zero, List.set_cons_succ]
        refine take_to (i := 1) (v := ?_) 51 rfl rfl (by kernel_rfl) (by kernel_rfl) (by kernel_rfl) (fun _ _ _ h => h) (Or.inl ⟨by rfl, ?_⟩) hS ?_
        rotate_left
        · intro W hW
          obtain ⟨⟨s0, s1⟩, _⟩ := HC2.out W hW
          go_simp
          try with_reducible rfl
        simp only [List.setIfInBounds_toArray, List.set_cons_zero, List.set_cons_succ]
        refine take_to (i := 2) (v := ?_) 52 rfl rfl (by kernel_rfl) (by kernel_rfl) (by kernel_rfl) (fun _ _ _ h => h) (Or.inl ⟨by rfl, ?_⟩) hS ?_
        rotate_left
        · intro W hW
          obtain ⟨⟨s0, s1⟩, _⟩ := HC2.out W hW
          go_simp
          try with_reducible rfl
        simp only [List.setIfInBounds_toArray, List.set_cons_zero, List.set_cons_succ]
        refine wpAnyH_ready (rs := [3]) (by kernel_rfl) (by simp) ?_
        refine AllReadyH.cons rfl (fun K hK => ?_) AllReadyH.nil
        go_simp
        obtain ⟨_, rp, rz⟩ := HC2.out _ (ext_drew W5)
        refine (makeLabel_any d hd a2 n2 c2 ps _ rp (by omega)).mono ?_
        rintro e w6 ⟨so6, k6, co6, zs6, rfl, ho6, hb6, hs6, hm6⟩
        obtain rfl : zs = mkP d ps zs6 := can_ext HP.out.1 (mkP_can d ps hs6) fun x => by rw [mkP_at d ps hs6 hm6, HP.out.2.1]
        have r6 := ho6.row
        clear ho6 hs6 hm6
        replace hb6 := ext_trans (ext_drew W5) hb6
        refine hK.out _ _ hb6 fun hS => ?_
        clear hK K
        refine wpAnyH_ready (rs := [4]) (by kernel_rfl) (by simp) ?_
        refine AllReadyH.cons rfl (fun K hK => ?_) AllReadyH.nil
        go_simp
        obtain ⟨_, rp, rz⟩ := HC2.out _ hb6
        refine (refSame_any d so k co _ d so6 k6 co6 _ _ rz r6).mono ?_
        rintro e w7 ⟨rfl, hb7⟩
        rw [decide_eq_true (And.intro rfl rfl)]
        replace hb7 := ext_trans hb6 hb7
        clear r6
        refine hK.out _ _ hb7 fun hS => ?_
        clear hK K
        refine take_to (i := 5) (v := ?_) 55 rfl rfl (by kernel_rfl) (by kernel_rfl) (by kernel_rfl) (fun _ _ _ h => h) (Or.inl ⟨by rfl, ?_⟩) hS ?_
        rotate_left
        · intro W hW
          obtain ⟨⟨s0, s1⟩, _⟩ := HC2.out W hW
          go_simp
          try with_reducible rfl
        simp only [List.setIfInBounds_toArray, List.set_cons_zero, List.set_cons_succ]
        refine take_to (i := 6) (v := ?_) 56 rfl rfl (by kernel_rfl) (by kernel_rfl) (by kernel_rfl) (fun _ _ _ h => h) (Or.inl ⟨by rfl, ?_⟩) hS ?_
        rotate_left
        · intro W hW
          obtain ⟨⟨s0, s1⟩, _⟩ := HC2.out W hW
          go_simp
          try with_reducible rfl
        simp only [List.setIfInBounds_toArray, List.set_cons_zero, List.set_cons_succ]
        refine take_to (i := 7) (v := ?_) 57 rfl rfl (by kernel_rfl) (by kernel_rfl) (by kernel_rfl) (fun _ _ _ h => h) (Or.inl ⟨by rfl, ?_⟩) hS ?_
        rotate_left
        · intro W hW
          obtain ⟨⟨s0, s1⟩, _⟩ := HC2.out W hW
          go_simp
          try with_reducible rfl
        simp only [List.setIfInBounds_toArray, List.set_cons_zero, List.set_cons_succ]
        refine take_to (i := 9) (v := ?_) 59 rfl rfl (by kernel_rfl) (by kernel_rfl) (by kernel_rfl) (fun _ _ _ h => h) (Or.inl ⟨by rfl, ?_⟩) hS ?_
        rotate_left
        · intro W hW
          obtain ⟨⟨s0, s1⟩, _⟩ := HC2.out W hW
          go_simp
          try with_reducible rfl
        simp only [List.setIfInBounds_toArray, List.set_cons_zero, List.set_cons_succ]
        refine take_to (i := 10) (v := ?_) 60 rfl rfl (by kernel_rfl) (by kernel_rfl) (by kernel_rfl) (fun _ _ _ h => h) (Or.inl ⟨by rfl, ?_⟩) hS ?_
        rotate_left
        · intro W hW
          obtain ⟨⟨s0, s1⟩, _⟩ := HC2.out W hW
          go_simp
          try with_reducible rfl
        simp only [List.setIfInBounds_toArray, List.set_cons_zero, List.set_cons_succ]
        refine wpAnyH_ready (rs := [8]) (by kernel_rfl) (by simp) ?_
        refine AllReadyH.cons rfl (fun K hK => ?_) AllReadyH.nil
        go_simp
        obtain ⟨_, rp, rz⟩ := HC2.out _ hb7
        refine (at_any d so k co _ c _ rz HP.out.1.1 (by omega)).mono ?_
        rintro e w8 ⟨rfl, hb8⟩
        replace hb8 := ext_trans hb7 hb8
        refine hK.out _ _ hb8 fun hS => ?_
        clear hK K
        refine wpAnyH_ready (rs := [11]) (by kernel_rfl) (by simp) ?_
        refine AllReadyH.cons rfl (fun K hK => ?_) AllReadyH.nil
        go_simp
        obtain ⟨_, rp, rz⟩ := HC2.out _ hb8
        refine (refAt_any d so k co _ c _ rz).mono ?_
        rintro e w9 ⟨rfl, hb9⟩
        replace hb9 := ext_trans hb8 hb9
        generalize atL d (mkP d ps zs6) c = vc
        refine hK.out _ _ hb9 fun hS => ?_
        clear hK K
        refine take_to (i := 12) (v := ?_) 62 rfl rfl (by kernel_rfl) (by kernel_rfl) (by kernel_rfl) (fun _ _ _ h => h) (Or.inl ⟨by rfl, ?_⟩) hS ?_
        rotate_left
        · intro W hW
          obtain ⟨⟨s0, s1⟩, _⟩ := HC2.out W hW
          go_simp
          try with_reducible rfl
        simp only [List.setIfInBounds_toArray, List.set_cons_zero, List.set_cons_succ]
        refine take_to (i := 13) (v := ?_) 63 rfl rfl (by kernel_rfl) (by kernel_rfl) (by kernel_rfl) (fun _ _ _ h => h) (Or.inl ⟨by rfl, ?_⟩) hS ?_
        rotate_left
        · intro W hW
          obtain ⟨⟨s0, s1⟩, _⟩ := HC2.out W hW
          go_simp
          try with_reducible rfl
        simp only [List.setIfInBounds_toArray, List.set_cons_zero, List.set_cons_succ]
        refine take_to (i := 14) (v := ?_) 64 rfl rfl (by kernel_rfl) (by kernel_rfl) (by kernel_rfl) (fun _ _ _ h => h) (Or.inl ⟨by rfl, ?_⟩) hS ?_
        rotate_left
        · intro W hW
          obtain ⟨⟨s0, s1⟩, _⟩ := HC2.out W hW
          go_simp
          try with_reducible rfl
        simp only [List.setIfInBounds_toArray, List.set_cons_zero, List.set_cons_succ]
        refine take_to (i := 15) (v := ?_) 65 rfl rfl (by kernel_rfl) (by kernel_rfl) (by kernel_rfl) (fun _ _ _ h => h) (Or.inl ⟨by rfl, ?_⟩) hS ?_
        rotate_left
        · intro W hW
          obtain ⟨⟨s0, s1⟩, _⟩ := HC2.out W hW
          go_simp
          try with_reducible rfl
        simp only [List.setIfInBounds_toArray, List.set_cons_zero, List.set_cons_succ]
        refine take_to (i := 16) (v := ?_) 66 rfl rfl (by kernel_rfl) (by kernel_rfl) (by kernel_rfl) (fun _ _ _ h => h) (Or.inl ⟨by rfl, ?_⟩) hS ?_
        rotate_left
        · intro W hW
          obtain ⟨⟨s0, s1⟩, _⟩ := HC2.out W hW
          go_simp
          try with_reducible rfl
        simp only [List.setIfInBounds_toArray, List.set_cons_zero, List.set_cons_succ]
        refine take_to (i := 17) (v := ?_) 67 rfl rfl (by kernel_rfl) (by kernel_rfl) (by kernel_rfl) (fun _ _ _ h => h) (Or.inl ⟨by rfl, ?_⟩) hS ?_
        rotate_left
        · intro W hW
          obtain ⟨⟨s0, s1⟩, _⟩ := HC2.out W hW
          go_simp
          try with_reducible rfl
        simp only [List.setIfInBounds_toArray, List.set_cons_zero, List.set_cons_succ]
        refine take_to (i := 19) (v := ?_) 69 rfl rfl (by kernel_rfl) (by kernel_rfl) (by kernel_rfl) (fun _ _ _ h => h) (Or.inl ⟨by rfl, ?_⟩) hS ?_
        rotate_left
        · intro W hW
          obtain ⟨⟨s0, s1⟩, _⟩ := HC2.out W hW
          go_simp
          try with_reducible rfl
        simp only [List.setIfInBounds_toArray, List.set_cons_zero, List.set_cons_succ]
        refine take_to (i := 20) (v := ?_) 70 rfl rfl (by kernel_rfl) (by kernel_rfl) (by kernel_rfl) (fun _ _ _ h => h) (Or.inl ⟨by rfl, ?_⟩) hS ?_
        rotate_left
        · intro W hW
          obtain ⟨⟨s0, s1⟩, _⟩ := HC2.out W hW
          go_simp
          try with_reducible rfl
        simp only [List.setIfInBounds_toArray, List.set_cons_zero, List.set_cons_succ]
        refine take_to (i := 21) (v := ?_) 71 rfl rfl (by kernel_rfl) (by kernel_rfl) (by kernel_rfl) (fun _ _ _ h => h) (Or.inl ⟨by rfl, ?_⟩) hS ?_
        rotate_left
        · intro W hW
          obtain ⟨⟨s0, s1⟩, _⟩ := HC2.out W hW
          go_simp
          try with_reducible rfl
        simp only [List.setIfInBounds_toArray, List.set_cons_zero, List.set_cons_succ]
        refine wpAnyH_ready (rs := [18]) (by kernel_rfl) (by simp) ?_
        refine AllReadyH.cons rfl (fun K hK => ?_) AllReadyH.nil
        go_simp
        obtain ⟨_, rp, rz⟩ := HC2.out _ hb9
        refine (set_any d so k co _ c lev hc hlev _ rz HP.out.1 (by omega)).mono ?_
        rintro e w10 ⟨so10, k10, co10, zs10, rfl, ho10, hb10, hcan10, hat10, _⟩
        have HS10 : Hid (CanL d zs10 ∧ ∀ c', atL d zs10 c' = if c' = c then lev else atL d (mkP d ps zs6) c') := ⟨hcan10, hat10⟩
        have r10 := ho10.row
        clear ho10 hcan10 hat10
        replace hb10 := ext_trans hb9 hb10
        refine hK.out _ _ hb10 fun hS => ?_
        clear hK K
        refine wpAnyH_ready (rs := [22]) (by kernel_rfl) (by simp) ?_
        refine AllReadyH.cons rfl (fun K hK => ?_) AllReadyH.nil
        go_simp
        obtain ⟨_, rp, rz⟩ := HC2.out _ hb10
        refine (setAt_any d hd so k co _ c lev hc hlev _ rz (by omega)).mono ?_
        rintro e w11 ⟨so11, k11, co11, zs11, rfl, ho11, hb11, hs11, hm11⟩
        obtain rfl : zs10 = mkP d (mkP d ps zs6 ++ [(c, lev)]) zs11 := can_ext HS10.out.1 (mkP_can d _ hs11) fun x => by rw [mkP_at d _ hs11 hm11, HS10.out.2, set_rev HP.out.1.1]
        have r11 := ho11.row
        have r10' := r10.below hb11
        clear ho11 hs11 hm11 r10
        replace hb11 := ext_trans hb10 hb11
        refine hK.out _ _ hb11 fun hS => ?_
        clear hK K
        refine wpAnyH_ready (rs := [23]) (by kernel_rfl) (by simp) ?_
        refine AllReadyH.cons rfl (fun K hK => ?_) AllReadyH.nil
        go_simp
        obtain ⟨_, rp, rz⟩ := HC2.out _ hb11
        refine (refSame_any d so10 k10 co10 _ d so11 k11 co11 _ _ r10' r11).mono ?_
        rintro e w12 ⟨rfl, hb12⟩
        rw [decide_eq_true (And.intro rfl rfl)]
        clear r10' r11
        replace hb12 := ext_trans hb11 hb12
        refine hK.out _ _ hb12 fun hS => ?_
        clear hK K
        refine take_to (i := 24) (v := ?_) 74 rfl rfl (by kernel_rfl) (by kernel_rfl) (by kernel_rfl) (fun _ _ _ h => h) (Or.inl ⟨by rfl, ?_⟩) hS ?_
        rotate_left
        · intro W hW
          obtain ⟨⟨s0, s1⟩, _⟩ := HC2.out W hW
          go_simp
          try with_reducible rfl
        simp only [List.setIfInBounds_toArray, List.set_cons_zero, List.set_cons_succ]
        refine take_to (i := 25) (v := ?_) 10 rfl rfl (by kernel_rfl) (by kernel_rfl) (by kernel_rfl) (fun _ _ _ h => h) (Or.inl ⟨by rfl, ?_⟩) hS ?_
        rotate_left
        · intro W hW
          obtain ⟨⟨s0, s1⟩, _⟩ := HC2.out W hW
          go_simp
          try with_reducible rfl
        simp only [List.setIfInBounds_toArray, List.set_cons_zero, List.set_cons_succ]
        refine wpAnyH_done (by kernel_rfl) ?_ _
        refine NoPanic.normal ?_
        go_wp2_with fail
        go_ret
        exact ⟨rfl, ext_trans hbw6 hb12⟩
end Go.Proofs.Ytgpndbfefbdibaa
