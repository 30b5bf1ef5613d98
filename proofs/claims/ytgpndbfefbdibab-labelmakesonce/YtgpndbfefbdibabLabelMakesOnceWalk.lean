/- LabelMakesOnce answers true: the walk. -/
import Derived.Test.YtgpndbfefbdibabLabBegun
namespace Go.Proofs.Ytgpndbfefbdibab
open Go.RowKit

theorem once_one {ps : List (Int × Int)} (h : UpL ps) {p q : Int × Int} (hp : p ∈ ps) (hq : q ∈ ps) (e : p.1 = q.1) : p = q := by
  obtain ⟨i, hi, rfl⟩ := List.mem_iff_getElem.1 hp
  obtain ⟨j, hj, rfl⟩ := List.mem_iff_getElem.1 hq
  have hlt := List.pairwise_iff_getElem.1 h
  by_cases h1 : i < j
  · have := hlt i j hi hj h1; omega
  · by_cases h2 : j < i
    · have := hlt j i hj hi h2; omega
    · obtain rfl : i = j := by omega
      rfl
theorem once_uniq (d : Int) {ps : List (Int × Int)} (h : ∀ p ∈ ps, ∀ q ∈ ps, p.1 = q.1 → p = q) {p : Int × Int} (hp : p ∈ ps) : atL d ps p.1 = p.2 := by
  induction ps with
  | nil => simp at hp
  | cons q ps ih =>
    rw [atL_cons]
    by_cases e : q.1 = p.1
    · rw [if_pos e, h q (by simp) p hp e]
    · rw [if_neg e]
      rcases List.mem_cons.1 hp with rfl | hp
      · exact absurd rfl e
      · exact ih (fun a ha b hb => h a (by simp [ha]) b (by simp [hb])) hp
theorem once_rev (d : Int) {ps : List (Int × Int)} (h : UpL ps) (c : Int) : atL d ps.reverse c = atL d ps c := by
  by_cases hc : ∃ p ∈ ps, p.1 = c
  · obtain ⟨p, hp, rfl⟩ := hc
    rw [atL_mem d h hp, once_uniq d (fun a ha b hb e => once_one h (by simpa using ha) (by simpa using hb) e) (by simpa using hp)]
  · rw [atL_off d ps c (fun p hp e => hc ⟨p, hp, e⟩), atL_off d _ c (fun p hp e => hc ⟨p, by simpa using hp, e⟩)]
theorem once_same {xs zs1 zs0 zs2 : List (Int × Int)} {c lev : Int} (h1 : CanL 2 zs1) (a1 : ∀ x, atL 2 zs1 x = atL 2 (xs ++ [(c, lev)]).reverse x) (a0 : ∀ x, atL 2 zs0 x = atL 2 xs.reverse x) (h2 : CanL 2 zs2) (a2 : ∀ x, atL 2 zs2 x = if x = c then lev else atL 2 zs0 x) : zs2 = zs1 := by
  refine can_ext h2 h1 fun x => ?_
  rw [a2, a0, a1, List.reverse_append]
  show _ = atL 2 ((c, lev) :: xs.reverse) x
  rw [atL_cons]
  by_cases e : x = c
  · rw [if_pos e, if_pos e.symm]
  · rw [if_neg e, if_neg (fun e' => e e'.symm)]

set_option maxHeartbeats 2000000 in
theorem labelMakesOnce_walk (a : Option Addr) (n cap : Nat) (xs : List (Int × Int)) (c lev : Int) (hc : 0 ≤ c ∧ c < 65536) (hlev : 0 ≤ lev ∧ lev < 256) (w : World) (hr : RowG PE w a n cap xs) :
    Calls Try.prog 5 #[.slice a n cap, .int .u16 c, .int .u8 lev] w fun e w' => e = .returned (.bool true) ∧ Below w.heap.size w w' := by
  have hl : Hid (xs.length = n) := hr.len
  have hcap := hr.cap_le
  go_enter Try.func5, Try.ntmps5
  go_wp2_with fail
  refine (begun_true _).mono ?_
  rintro e w1 ⟨rfl, hb1⟩
  by_cases hn : 10 < n
  · have hn' : (10 : Int) < (n : Int) := by omega
    go_wp2_with fail
    go_ret
    exact ⟨rfl, hb1⟩
  · have hn' : decide ((10 : Int) < (n : Int)) = false := by simp; omega
    by_cases h5 : 5 < lev
    · go_wp2_with fail
      go_ret
      exact ⟨rfl, hb1⟩
    · have h5' : decide (5 < lev) = false := by simpa using h5
      go_wp2_with fail
      go_loop [7] (fun i => ∃ k : Nat, k ≤ n ∧ i = .int .i64 k) (fun i => n - (intOf i).toNat)
      case atStart => exact ⟨0, by omega, rfl⟩
      case round =>
        obtain ⟨k, hk, rfl⟩ := hrel
        by_cases hlt : k < n
        · have hp : (k : Int) < (n : Int) := by omega
          obtain ⟨b1, off1, rfl, _⟩ := hr.at (by omega)
          obtain ⟨X, Y, hX, HXb⟩ := hr.get2 k hlt
          obtain ⟨t1, t2⟩ := (hr.below hb1).pair hX
          clear hX
          by_cases hY : 5 < Y
          · go_wp2_with fail
            go_ret
            exact ⟨rfl, hb1⟩
          · have hY' : decide (5 < Y) = false := by simpa using hY
            go_wp2_with fail
            go_round
            case rel => exact ⟨k + 1, by omega, by go_num⟩
            case measure => simp [intOf]; omega
        · obtain rfl : n = k := by omega
          have h2 := below_alloc w1 (.cells #[] 26)
          have o2 : OwnG PE 26 (w1.alloc (.cells #[] 26)) w1.heap.size (some ⟨w1.heap.size, 0, none⟩) 0 0 [] := owng_lit PE w1 26 [] #[] rfl 0 rfl (by omega) Enc.Ok.nil _ _ rfl (Nat.le_refl _)
          have r2 := (hr.below hb1).below h2
          go_wp2_with (at_builtin; first | (refine wp_append_g (E := PE) _ rfl (.tmp 31) (.tmp 32) 23 rfl 26 Try.underlying23 (.agg #[.int .u16 0, .int .u8 0]) 4 info29 rfl (by omega) w1.heap.size 0 0 (some ⟨w1.heap.size, 0, none⟩) [] rfl o2 a n cap xs rfl r2 (by omega) h2.size w1 h2 ?_; intro so3 co3 w3 hown3 hb3 _; rw [Nat.zero_add, List.nil_append] at hown3) | (refine wp_append_g (E := PE) _ rfl (.tmp 33) (.tmp 37) 23 rfl 26 Try.underlying23 (.agg #[.int .u16 0, .int .u8 0]) 4 info29 rfl (by omega) w1.heap.size n co3 so3 xs rfl (hown3.below (below_alloc _ _)) (some ⟨w3.heap.size, 0, none⟩) 1 1 [(c, lev)] rfl (owng_lit PE _ 26 [(c, lev)] _ rfl 1 rfl (by omega) (Enc.Ok.one ⟨hc, hlev⟩) _ w3.heap.size (by simp) (by omega)).row (by omega) (by simpa using Nat.le_succ_of_le hb3.size) w1 (ext_trans hb3 (below_alloc _ _)) ?_; intro so4 co4 w4 hown4 hb4 _))
          clear o2 r2 h2
          have hbw4 := ext_trans hb1 hb4
          refine (make_any 19 sort_small (by omega) 2 so4 (n + 1) co4 _ _ hown4.row (by omega)).mono ?_
          rintro e w5 ⟨so1, k1, co1, zs1, rfl, hown5, hb5, hcan1, hat1, hk1, _⟩
          have hbw5 := ext_trans hbw4 hb5
          have r1 := hown5.row
          clear hown5 hown4 hown3 hb3 hb4 hbw4 hb5
          have HP1 : Hid (CanL 2 zs1 ∧ ∀ x, atL 2 zs1 x = atL 2 (xs ++ [(c, lev)]).reverse x) := ⟨hcan1, hat1⟩
          clear hcan1 hat1
          go_wp2_with fail
          have hb6 := below_alloc w5 (.cells #[.int .u8 2, .slice so1 k1 co1] 29)
          refine (make_any 19 sort_small (by omega) 2 a n cap xs _ ((hr.below hbw5).below hb6) (by omega)).mono ?_
          rintro e w6 ⟨so0, k0, co0, zs0, rfl, hown6, hb7, hcan0, hat0, hk0, _⟩
          have hb67 := ext_trans hb6 hb7
          have g0 : w6.cell? ⟨w5.heap.size, 0, none⟩ = some (.int .u8 2) := by rw [hb7.cell (by simp)]; simp
          have g1 : w6.cell? ⟨w5.heap.size, 1, none⟩ = some (.slice so1 k1 co1) := by rw [hb7.cell (by simp)]; simp
          have HP0 : Hid (∀ x, atL 2 zs0 x = atL 2 xs.reverse x) := hat0
          clear hat0 hb6 hb7
          go_wp2_with fail
          refine (set_any 2 so0 k0 co0 zs0 c lev hc hlev _ hown6.row hcan0 (by omega)).mono ?_
          rintro e w7 ⟨so2, k2, co2, zs2, rfl, hown7, hb8, hcan2, hat2, hk2⟩
          obtain rfl := once_same HP1.out.1 HP1.out.2 HP0.out hcan2 hat2
          have hb68 := ext_trans hb67 hb8
          have r2 := hown7.row
          have g0' : w7.cell? ⟨w5.heap.size, 0, none⟩ = some (.int .u8 2) := by rw [hb8.cell (lt_of_cell g0)]; exact g0
          have g1' : w7.cell? ⟨w5.heap.size, 1, none⟩ = some (.slice so1 k1 co1) := by rw [hb8.cell (lt_of_cell g1)]; exact g1
          have HP : Hid (∀ ys, CanL 2 ys → (∀ x, atL 2 ys x = atL 2 zs2.reverse x) → ys = zs2) := fun ys hy hay => can_ext hy hcan2 fun x => by rw [hay, once_rev 2 hcan2.1]
          clear hcan2 hat2 hown7 hown6 hcan0 hb67 g0 g1 hb8 HP0 HP1
          go_wp2_with fail
          obtain ⟨W1, hW1⟩ : ∃ x, x = w7.alloc (.cells #[.int .u8 2, .slice so2 k2 co2] 29) := ⟨_, rfl⟩
          rw [← hW1]
          have hbW1 : Below w.heap.size w W1 := hW1 ▸ ext_trans (ext_trans hbw5 hb68) (below_alloc _ _)
          have c0 : W1.cell? ⟨w5.heap.size, 0, none⟩ = some (.int .u8 2) := hW1 ▸ cell_old _ g0'
          have c1 : W1.cell? ⟨w5.heap.size, 1, none⟩ = some (.slice so1 k1 co1) := hW1 ▸ cell_old _ g1'
          have c2 : W1.cell? ⟨w7.heap.size, 0, none⟩ = some (.int .u8 2) := by rw [hW1]; simp
          have c3 : W1.cell? ⟨w7.heap.size, 1, none⟩ = some (.slice so2 k2 co2) := by rw [hW1]; simp
          have q1 : RowG PE W1 so1 k1 co1 zs2 := hW1 ▸ (r1.below hb68).below (below_alloc _ _)
          have q2 : RowG PE W1 so2 k2 co2 zs2 := hW1 ▸ r2.below (below_alloc _ _)
          have HC : Hid (∀ W, Below W1.heap.size W1 W → W.cell? ⟨w5.heap.size, 0, none⟩ = some (.int .u8 2) ∧ W.cell? ⟨w5.heap.size, 1, none⟩ = some (.slice so1 k1 co1) ∧ W.cell? ⟨w7.heap.size, 0, none⟩ = some (.int .u8 2) ∧ W.cell? ⟨w7.heap.size, 1, none⟩ = some (.slice so2 k2 co2) ∧ RowG PE W so1 k1 co1 zs2 ∧ RowG PE W so2 k2 co2 zs2) := fun W h =>
            ⟨by rw [h.cell (lt_of_cell c0)]; exact c0, by rw [h.cell (lt_of_cell c1)]; exact c1, by rw [h.cell (lt_of_cell c2)]; exact c2, by rw [h.cell (lt_of_cell c3)]; exact c3, q1.below h, q2.below h⟩
          have hB0 : Below W1.heap.size W1 W1.drew := ext_drew _
          clear hW1 c0 c1 c2 c3 q1 q2 g0' g1' r1 r2 hb68
          refine wp_region_noPanic ?_
          refine wp_region_held_drew (S := fun W => Below W1.heap.size W1 W) (by kernel_rfl) hB0 fun hS => ?_
          refine take_to (i := 0) (v := ?_) 45 rfl rfl (by kernel_rfl) (by kernel_rfl) (by kernel_rfl) (fun _ _ _ h => h) (Or.inl ⟨by rfl, ?_⟩) hS ?_
          rotate_left
          · intro W hW
            obtain ⟨s0, s1, s2, s3, _⟩ := HC.out W hW
            go_simp
            try with_reducible rfl
          simp only [List.setIfInBounds_toArray, List.set_cons_zero, List.set_cons_succ]
          refine take_to (i := 1) (v := ?_) 46 rfl rfl (by kernel_rfl) (by kernel_rfl) (by kernel_rfl) (fun _ _ _ h => h) (Or.inl ⟨by rfl, ?_⟩) hS ?_
          rotate_left
          · intro W hW
            obtain ⟨s0, s1, s2, s3, _⟩ := HC.out W hW
            go_simp
            try with_reducible rfl
          simp only [List.setIfInBounds_toArray, List.set_cons_zero, List.set_cons_succ]
          refine wpAnyH_ready (rs := [2]) (by kernel_rfl) (by simp) ?_
          refine AllReadyH.cons rfl (fun K hK => ?_) AllReadyH.nil
          go_simp
          obtain ⟨_, _, _, _, rx, ry⟩ := HC.out _ hB0
          refine (refSame_any 2 so1 k1 co1 zs2 2 so2 k2 co2 zs2 _ rx ry).mono ?_
          rintro e w10 ⟨rfl, hb10⟩
          rw [decide_eq_true (And.intro rfl rfl)]
          replace hb10 := ext_trans hB0 hb10
          refine hK.out _ _ hb10 fun hS => ?_
          clear hK K
          refine take_to (i := 3) (v := ?_) 48 rfl rfl (by kernel_rfl) (by kernel_rfl) (by kernel_rfl) (fun _ _ _ h => h) (Or.inl ⟨by rfl, ?_⟩) hS ?_
          rotate_left
          · intro W hW
            obtain ⟨s0, s1, s2, s3, _⟩ := HC.out W hW
            go_simp
            try with_reducible rfl
          simp only [List.setIfInBounds_toArray, List.set_cons_zero, List.set_cons_succ]
          refine take_to (i := 4) (v := ?_) 49 rfl rfl (by kernel_rfl) (by kernel_rfl) (by kernel_rfl) (fun _ _ _ h => h) (Or.inl ⟨by rfl, ?_⟩) hS ?_
          rotate_left
          · intro W hW
            obtain ⟨s0, s1, s2, s3, _⟩ := HC.out W hW
            go_simp
            try with_reducible rfl
          simp only [List.setIfInBounds_toArray, List.set_cons_zero, List.set_cons_succ]
          refine take_to (i := 5) (v := ?_) 50 rfl rfl (by kernel_rfl) (by kernel_rfl) (by kernel_rfl) (fun _ _ _ h => h) (Or.inl ⟨by rfl, ?_⟩) hS ?_
          rotate_left
          · intro W hW
            obtain ⟨s0, s1, s2, s3, _⟩ := HC.out W hW
            go_simp
            try with_reducible rfl
          simp only [List.setIfInBounds_toArray, List.set_cons_zero, List.set_cons_succ]
          refine take_to (i := 6) (v := ?_) 51 rfl rfl (by kernel_rfl) (by kernel_rfl) (by kernel_rfl) (fun _ _ _ h => h) (Or.inl ⟨by rfl, ?_⟩) hS ?_
          rotate_left
          · intro W hW
            obtain ⟨s0, s1, s2, s3, _⟩ := HC.out W hW
            go_simp
            try with_reducible rfl
          simp only [List.setIfInBounds_toArray, List.set_cons_zero, List.set_cons_succ]
          refine take_to (i := 7) (v := ?_) 52 rfl rfl (by kernel_rfl) (by kernel_rfl) (by kernel_rfl) (fun _ _ _ h => h) (Or.inl ⟨by rfl, ?_⟩) hS ?_
          rotate_left
          · intro W hW
            obtain ⟨s0, s1, s2, s3, _⟩ := HC.out W hW
            go_simp
            try with_reducible rfl
          simp only [List.setIfInBounds_toArray, List.set_cons_zero, List.set_cons_succ]
          refine take_to (i := 9) (v := ?_) 54 rfl rfl (by kernel_rfl) (by kernel_rfl) (by kernel_rfl) (fun _ _ _ h => h) (Or.inl ⟨by rfl, ?_⟩) hS ?_
          rotate_left
          · intro W hW
            obtain ⟨s0, s1, s2, s3, _⟩ := HC.out W hW
            go_simp
            try with_reducible rfl
          simp only [List.setIfInBounds_toArray, List.set_cons_zero, List.set_cons_succ]
          refine wpAnyH_ready (rs := [8]) (by kernel_rfl) (by simp) ?_
          refine AllReadyH.cons rfl (fun K hK => ?_) AllReadyH.nil
          go_simp
          obtain ⟨_, _, _, _, rx, ry⟩ := HC.out _ hb10
          refine (make_any 19 sort_small (by omega) 2 so1 k1 co1 zs2 _ rx (by omega)).mono ?_
          rintro e w11 ⟨so3, k3, co3, zs3, rfl, hown3, hb11, hcan3, hat3, _⟩
          obtain rfl := HP.out zs3 hcan3 hat3
          have r3 := hown3.row
          clear hown3 hcan3 hat3
          replace hb11 := ext_trans hb10 hb11
          refine hK.out _ _ hb11 fun hS => ?_
          clear hK K
          refine wpAnyH_ready (rs := [10]) (by kernel_rfl) (by simp) ?_
          refine AllReadyH.cons rfl (fun K hK => ?_) AllReadyH.nil
          go_simp
          obtain ⟨_, _, _, _, rx, ry⟩ := HC.out _ hb11
          refine (refSame_any 2 so3 k3 co3 _ 2 so1 k1 co1 _ _ r3 rx).mono ?_
          rintro e w12 ⟨rfl, hb12⟩
          rw [decide_eq_true (And.intro rfl rfl)]
          replace hb12 := ext_trans hb11 hb12
          refine hK.out _ _ hb12 fun hS => ?_
          clear hK K
          refine take_to (i := 11) (v := ?_) 56 rfl rfl (by kernel_rfl) (by kernel_rfl) (by kernel_rfl) (fun _ _ _ h => h) (Or.inl ⟨by rfl, ?_⟩) hS ?_
          rotate_left
          · intro W hW
            obtain ⟨s0, s1, s2, s3, _⟩ := HC.out W hW
            go_simp
            try with_reducible rfl
          simp only [List.setIfInBounds_toArray, List.set_cons_zero, List.set_cons_succ]
          refine take_to (i := 12) (v := ?_) 6 rfl rfl (by kernel_rfl) (by kernel_rfl) (by kernel_rfl) (fun _ _ _ h => h) (Or.inl ⟨by rfl, ?_⟩) hS ?_
          rotate_left
          · intro W hW
            obtain ⟨s0, s1, s2, s3, _⟩ := HC.out W hW
            go_simp
            try with_reducible rfl
          simp only [List.setIfInBounds_toArray, List.set_cons_zero, List.set_cons_succ]
          refine wpAnyH_done (by kernel_rfl) ?_ _
          refine NoPanic.normal ?_
          go_wp2_with fail
          go_ret
          exact ⟨rfl, ext_trans hbW1 hb12⟩
end Go.Proofs.Ytgpndbfefbdibab
