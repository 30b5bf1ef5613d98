/- TransFlows walked: it answers true, and turns nothing that was there. -/
import Derived.Test.YtdoemkncgfgkhaaTr2
namespace Go.Proofs.Ytdoemkncgfgkhaa
open Go.RowKit
set_option maxRecDepth 100000

/-- Pairs of one level, by what the label says of a category. -/
theorem stars_at {ps : List (Int × Int)} (h : UpL ps) {v : Int} (hv : v ≠ 2) (c : Int) : c ∈ starsL v ps ↔ atL 2 ps c = v := by
  rw [stars_mem]
  constructor
  · exact fun hp => atL_mem 2 h hp
  · intro e
    rcases atL_any 2 ps c with k | ⟨p, hp, h1, h2⟩
    · omega
    · have : p = (c, v) := by rw [← h1, ← e, h2]
      rwa [← this]
theorem lvl_apart {x : Sv} (hm : MayP x.xs x.ys x.zs) (h0 : x.zs = []) (c : Int) : (lvl x.xs x.ys x.zs c = 4 ↔ c ∈ x.xs) ∧ (lvl x.xs x.ys x.zs c = 1 ↔ c ∈ x.ys) ∧ lvl x.xs x.ys x.zs c ≠ 0 ∧ lvl x.xs x.ys x.zs c ≠ 3 ∧ (lvl x.xs x.ys x.zs c = 1 ∨ lvl x.xs x.ys x.zs c = 4 ∨ lvl x.xs x.ys x.zs c = 2) := by
  have h3 : c ∉ x.zs := by rw [h0]; simp
  have k0 : lvl x.xs x.ys x.zs c ≠ 0 := fun e => h3 (lvl_zero.1 e)
  refine ⟨lvl_four hm, lvl_one hm, k0, ?_, ?_⟩
  · rcases lvl_cases x.xs x.ys x.zs c with e | e | e | e <;> omega
  · rcases lvl_cases x.xs x.ys x.zs c with e | e | e | e <;> omega
theorem join_split {x y z : Sv} {ps qs : List (Int × Int)} {E : Int} (h : Bk x.xs x.ys x.zs ps) (k : Bk y.xs y.ys y.zs qs) (hx : MayP x.xs x.ys x.zs) (hy : MayP y.xs y.ys y.zs) (hx0 : x.zs = []) (hy0 : y.zs = []) (hs : SpP 2 (comb max 2 2 ps qs) z E) :
    E = 0 ∧ z.xs = mrg true true true x.xs y.xs ∧ z.ys = mrg false true false x.ys y.ys ∧ z.zs = [] := by
  have hc : CanL 2 (comb max 2 2 ps qs) := comb_can max 2 2 h.can.1 k.can.1
  have ha : ∀ c, atL 2 (comb max 2 2 ps qs) c = max (lvl x.xs x.ys x.zs c) (lvl y.xs y.ys y.zs c) := fun c => by
    rw [← h.lv, ← k.lv]; exact comb_at max 2 2 h.can.1 k.can.1 c
  have hn : nameB 2 (comb max 2 2 ps qs) = true := by
    unfold nameB
    rw [decide_eq_true_eq]
    refine ⟨rfl, List.eq_nil_iff_forall_not_mem.2 fun c hc' => ?_⟩
    have e := (stars_at hc.1 (by omega) c).1 hc'
    rw [ha] at e
    have i1 := (lvl_apart hx hx0 c).2.2.2.2
    have i2 := (lvl_apart hy hy0 c).2.2.2.2
    omega
  obtain ⟨rfl, h1, h2, h3⟩ := hs.ok hn
  refine ⟨rfl, ?_, ?_, ?_⟩
  · rw [h1]
    refine srt_unique (stars_srt _ hc.1) (mrg_srt _ _ _ _ _ hx.1.1 hy.1.1) fun c => ?_
    rw [stars_at hc.1 (by omega), ha, or_mem hx.1.1 hy.1.1, ← (lvl_apart hx hx0 c).1, ← (lvl_apart hy hy0 c).1]
    have i1 := (lvl_apart hx hx0 c).2.2.2.2
    have i2 := (lvl_apart hy hy0 c).2.2.2.2
    omega
  · rw [h2]
    refine srt_unique (stars_srt _ hc.1) (mrg_srt _ _ _ _ _ hx.1.2.1 hy.1.2.1) fun c => ?_
    rw [stars_at hc.1 (by omega), ha, and_mem hx.1.2.1 hy.1.2.1, ← (lvl_apart hx hx0 c).2.1, ← (lvl_apart hy hy0 c).2.1]
    have i1 := (lvl_apart hx hx0 c).2.2.2.2
    have i2 := (lvl_apart hy hy0 c).2.2.2.2
    omega
  · rw [h3]
    refine List.eq_nil_iff_forall_not_mem.2 fun c hc' => ?_
    have e := (stars_at hc.1 (by omega) c).1 hc'
    rw [ha] at e
    have i1 := (lvl_apart hx hx0 c).2.2.2.2
    have i2 := (lvl_apart hy hy0 c).2.2.2.2
    omega
theorem flows_split {x y : Sv} {ps qs : List (Int × Int)} (h : Bk x.xs x.ys x.zs ps) (k : Bk y.xs y.ys y.zs qs) (hx : MayP x.xs x.ys x.zs) (hy : MayP y.xs y.ys y.zs) (hx0 : x.zs = []) (hy0 : y.zs = []) {q : Bool} (hq : x.flows y = q) : q = true ↔ FlL 2 ps 2 qs := by
  rw [h.flows k hx hy, ← hq, Sv.flows_iff hx.1.1 hx.1.2.1 hy.1.1 hy.1.2.1]
  unfold OwnsP TurnsP
  rw [hx0, hy0]
  simp
theorem refJoin_two {a b : Option Addr} {n cap m cap2 : Nat} {xs ys : List (Int × Int)} {w : World} (hr : Lb w 2 a n cap xs) (hs : Lb w 2 b m cap2 ys) :
    Calls Try.prog 28 #[.agg #[.int .u8 2, .slice a n cap], .agg #[.int .u8 2, .slice b m cap2]] w fun e w' => ∃ so k co, e = .returned (.agg #[.int .u8 2, .slice so k co]) ∧ RowG PE w' so k co (comb max 2 2 xs ys) ∧ Below w.heap.size w w' :=
  (refJoin_any 2 2 a b n cap m cap2 xs ys w hr.row hs.row hr.lv hs.lv hr.up hs.up (by have := hr.le; have := hs.le; omega)).mono fun e w' ⟨so, k, co, he, ho, hb⟩ => ⟨so, k, co, he, ho.row, hb⟩
theorem joinL_two {a b : Option Addr} {n cap m cap2 : Nat} {xs ys : List (Int × Int)} {w : World} (hr : Lb w 2 a n cap xs) (hs : Lb w 2 b m cap2 ys) :
    Calls Try.prog 29 #[.agg #[.int .u8 2, .slice a n cap], .agg #[.int .u8 2, .slice b m cap2]] w fun e w' => ∃ so k co, e = .returned (.agg #[.int .u8 2, .slice so k co]) ∧ RowG PE w' so k co (comb max 2 2 xs ys) ∧ Below w.heap.size w w' :=
  (joinL_any 2 2 a b n cap m cap2 xs ys w hr.row hs.row hr.lv hs.lv (by have := hr.le; have := hs.le; omega)).mono fun e w' ⟨so, k, co, he, ho, hb⟩ => ⟨so, k, co, he, ho.row, hb⟩
theorem stars_few (v : Int) {ps : List (Int × Int)} {k : Nat} (h : (starsL v ps).length = k) (hl : ps.length ≤ 16) : k ≤ 16 := by
  subst h
  unfold starsL
  rw [List.length_map]
  exact Nat.le_trans (List.length_filter_le _ _) hl
set_option maxHeartbeats 8000000 in
theorem transFlows_walk (d : Int) (hd : 0 ≤ d ∧ d < 256) (a : Option Addr) (n cap : Nat) (xs : List (Int × Int)) (d' : Int) (hd' : 0 ≤ d' ∧ d' < 256) (b : Option Addr) (m cap2 : Nat) (ys : List (Int × Int)) (w : World) (hr : RowG PE w a n cap xs) (hs : RowG PE w b m cap2 ys) :
    Calls Try.prog 6 #[.agg #[.int .u8 d, .slice a n cap], .agg #[.int .u8 d', .slice b m cap2]] w fun e w' => e = .returned (.bool true) ∧ Below w.heap.size w w' := by
  have HC : Hid _ := lab_lab w d a n cap d' b m cap2
  go_enter Try.func6, Try.ntmps6
  go_wp2_with fail
  refine (begun11_true _).mono ?_
  rintro e w1 ⟨rfl, hb1⟩
  obtain ⟨⟨⟨k0, k1⟩, l0, l1⟩, bw⟩ := HC.out _ hb1
  obtain ⟨mq0, hq0⟩ : ∃ q, mayB d xs = q := ⟨_, rfl⟩
  have HQ0 : Hid (mayB d xs = mq0) := hq0
  obtain ⟨mq1, hq1⟩ : ∃ q, mayB d' ys = q := ⟨_, rfl⟩
  have HQ1 : Hid (mayB d' ys = mq1) := hq1
  clear hq0 hq1
  go_wp2_with fail
  clear k0 k1 l0 l1 bw
  obtain ⟨W0, hW0⟩ : ∃ V, V = (w.alloc (Obj.cells #[.int .u8 d, .slice a n cap] 24)).alloc (Obj.cells #[.int .u8 d', .slice b m cap2] 24) := ⟨_, rfl⟩
  rw [← hW0] at HC hb1
  clear hW0
  have hB0 : Below W0.heap.size W0 w1.drew := ext_trans hb1 (ext_drew _)
  cases mq0
  · refine wp_region_noPanic ?_
    refine wp_region_held_drew (S := fun W => Below W0.heap.size W0 W) (by kernel_rfl) hB0 fun hS => ?_
    refine take_to (i := 0) (v := ?_) 13 rfl rfl (by kernel_rfl) (by kernel_rfl) (by kernel_rfl) (fun _ _ _ h => h) (Or.inl ⟨by rfl, ?_⟩) hS ?_
    rotate_left
    · intro W hW
      obtain ⟨⟨⟨k0, k1⟩, l0, l1⟩, _⟩ := HC.out W hW
      go_simp
      try with_reducible rfl
    simp only [List.setIfInBounds_toArray, List.set_cons_zero, List.set_cons_succ]
    refine wpAnyH_ready (rs := [1]) (by kernel_rfl) (by simp) ?_
    refine AllReadyH.cons rfl (fun K hK => ?_) AllReadyH.nil
    go_simp
    obtain ⟨_, bw⟩ := HC.out _ hB0
    refine (mayL_is false (hr.below bw) HQ0).mono ?_
    rintro e m0 ⟨rfl, hm0⟩
    replace hm0 := ext_trans hB0 hm0
    clear bw
    refine hK.out _ _ hm0 fun hS => ?_
    clear hK K
    refine take_to (i := 2) (v := ?_) 15 rfl rfl (by kernel_rfl) (by kernel_rfl) (by kernel_rfl) (fun _ _ _ h => h) (Or.inl ⟨by rfl, ?_⟩) hS ?_
    rotate_left
    · intro W hW
      obtain ⟨⟨⟨k0, k1⟩, l0, l1⟩, _⟩ := HC.out W hW
      go_simp
      try with_reducible rfl
    simp only [List.setIfInBounds_toArray, List.set_cons_zero, List.set_cons_succ]
    refine take_to (i := 3) (v := ?_) 16 rfl rfl (by kernel_rfl) (by kernel_rfl) (by kernel_rfl) (fun _ _ _ h => h) (Or.inl ⟨by rfl, ?_⟩) hS ?_
    rotate_left
    · intro W hW
      obtain ⟨⟨⟨k0, k1⟩, l0, l1⟩, _⟩ := HC.out W hW
      go_simp
      try with_reducible rfl
    simp only [List.setIfInBounds_toArray, List.set_cons_zero, List.set_cons_succ]
    refine take_to (i := 4) (v := undef) 17 rfl rfl (by kernel_rfl) (by kernel_rfl) (by kernel_rfl) (fun _ _ _ h => h) (Or.inr ⟨by rfl, rfl⟩) hS ?_
    simp only [List.setIfInBounds_toArray, List.set_cons_zero, List.set_cons_succ]
    refine take_to (i := 5) (v := undef) 18 rfl rfl (by kernel_rfl) (by kernel_rfl) (by kernel_rfl) (fun _ _ _ h => h) (Or.inr ⟨by rfl, rfl⟩) hS ?_
    simp only [List.setIfInBounds_toArray, List.set_cons_zero, List.set_cons_succ]
    refine take_to (i := 6) (v := undef) 19 rfl rfl (by kernel_rfl) (by kernel_rfl) (by kernel_rfl) (fun _ _ _ h => h) (Or.inr ⟨by rfl, rfl⟩) hS ?_
    simp only [List.setIfInBounds_toArray, List.set_cons_zero, List.set_cons_succ]
    refine take_to (i := 7) (v := ?_) 20 rfl rfl (by kernel_rfl) (by kernel_rfl) (by kernel_rfl) (fun _ _ _ h => h) (Or.inl ⟨by rfl, ?_⟩) hS ?_
    rotate_left
    · intro W hW
      obtain ⟨⟨⟨k0, k1⟩, l0, l1⟩, _⟩ := HC.out W hW
      go_simp
      try with_reducible rfl
    simp only [List.setIfInBounds_toArray, List.set_cons_zero, List.set_cons_succ]
    refine take_to (i := 8) (v := ?_) 21 rfl rfl (by kernel_rfl) (by kernel_rfl) (by kernel_rfl) (fun _ _ _ h => h) (Or.inl ⟨by rfl, ?_⟩) hS ?_
    rotate_left
    · intro W hW
      obtain ⟨⟨⟨k0, k1⟩, l0, l1⟩, _⟩ := HC.out W hW
      go_simp
      try with_reducible rfl
    simp only [List.setIfInBounds_toArray, List.set_cons_zero, List.set_cons_succ]
    refine take_to (i := 9) (v := undef) 22 rfl rfl (by kernel_rfl) (by kernel_rfl) (by kernel_rfl) (fun _ _ _ h => h) (Or.inr ⟨by rfl, rfl⟩) hS ?_
    simp only [List.setIfInBounds_toArray, List.set_cons_zero, List.set_cons_succ]
    refine take_to (i := 10) (v := undef) 23 rfl rfl (by kernel_rfl) (by kernel_rfl) (by kernel_rfl) (fun _ _ _ h => h) (Or.inr ⟨by rfl, rfl⟩) hS ?_
    simp only [List.setIfInBounds_toArray, List.set_cons_zero, List.set_cons_succ]
    refine take_to (i := 11) (v := undef) 24 rfl rfl (by kernel_rfl) (by kernel_rfl) (by kernel_rfl) (fun _ _ _ h => h) (Or.inr ⟨by rfl, rfl⟩) hS ?_
    simp only [List.setIfInBounds_toArray, List.set_cons_zero, List.set_cons_succ]
    refine take_to (i := 12) (v := undef) 25 rfl rfl (by kernel_rfl) (by kernel_rfl) (by kernel_rfl) (fun _ _ _ h => h) (Or.inr ⟨by rfl, rfl⟩) hS ?_
    simp only [List.setIfInBounds_toArray, List.set_cons_zero, List.set_cons_succ]
    refine take_to (i := 13) (v := undef) 26 rfl rfl (by kernel_rfl) (by kernel_rfl) (by kernel_rfl) (fun _ _ _ h => h) (Or.inr ⟨by rfl, rfl⟩) hS ?_
    simp only [List.setIfInBounds_toArray, List.set_cons_zero, List.set_cons_succ]
    refine take_to (i := 14) (v := undef) 27 rfl rfl (by kernel_rfl) (by kernel_rfl) (by kernel_rfl) (fun _ _ _ h => h) (Or.inr ⟨by rfl, rfl⟩) hS ?_
    simp only [List.setIfInBounds_toArray, List.set_cons_zero, List.set_cons_succ]
    refine take_to (i := 15) (v := undef) 28 rfl rfl (by kernel_rfl) (by kernel_rfl) (by kernel_rfl) (fun _ _ _ h => h) (Or.inr ⟨by rfl, rfl⟩) hS ?_
    simp only [List.setIfInBounds_toArray, List.set_cons_zero, List.set_cons_succ]
    refine take_to (i := 16) (v := undef) 29 rfl rfl (by kernel_rfl) (by kernel_rfl) (by kernel_rfl) (fun _ _ _ h => h) (Or.inr ⟨by rfl, rfl⟩) hS ?_
    simp only [List.setIfInBounds_toArray, List.set_cons_zero, List.set_cons_succ]
    refine take_to (i := 17) (v := ?_) 30 rfl rfl (by kernel_rfl) (by kernel_rfl) (by kernel_rfl) (fun _ _ _ h => h) (Or.inl ⟨by rfl, ?_⟩) hS ?_
    rotate_left
    · intro W hW
      obtain ⟨⟨⟨k0, k1⟩, l0, l1⟩, _⟩ := HC.out W hW
      go_simp
      try with_reducible rfl
    simp only [List.setIfInBounds_toArray, List.set_cons_zero, List.set_cons_succ]
    refine wpAnyH_done (by kernel_rfl) ?_ _
    refine NoPanic.normal ?_
    go_wp2_with fail
    go_ret
    exact ⟨rfl, (HC.out _ hm0).2⟩
  cases mq1
  · refine wp_region_noPanic ?_
    refine wp_region_held_drew (S := fun W => Below W0.heap.size W0 W) (by kernel_rfl) hB0 fun hS => ?_
    refine take_to (i := 0) (v := ?_) 13 rfl rfl (by kernel_rfl) (by kernel_rfl) (by kernel_rfl) (fun _ _ _ h => h) (Or.inl ⟨by rfl, ?_⟩) hS ?_
    rotate_left
    · intro W hW
      obtain ⟨⟨⟨k0, k1⟩, l0, l1⟩, _⟩ := HC.out W hW
      go_simp
      try with_reducible rfl
    simp only [List.setIfInBounds_toArray, List.set_cons_zero, List.set_cons_succ]
    refine wpAnyH_ready (rs := [1]) (by kernel_rfl) (by simp) ?_
    refine AllReadyH.cons rfl (fun K hK => ?_) AllReadyH.nil
    go_simp
    obtain ⟨_, bw⟩ := HC.out _ hB0
    refine (mayL_is true (hr.below bw) HQ0).mono ?_
    rintro e m0 ⟨rfl, hm0⟩
    replace hm0 := ext_trans hB0 hm0
    clear bw
    refine hK.out _ _ hm0 fun hS => ?_
    clear hK K
    refine take_to (i := 2) (v := ?_) 15 rfl rfl (by kernel_rfl) (by kernel_rfl) (by kernel_rfl) (fun _ _ _ h => h) (Or.inl ⟨by rfl, ?_⟩) hS ?_
    rotate_left
    · intro W hW
      obtain ⟨⟨⟨k0, k1⟩, l0, l1⟩, _⟩ := HC.out W hW
      go_simp
      try with_reducible rfl
    simp only [List.setIfInBounds_toArray, List.set_cons_zero, List.set_cons_succ]
    refine take_to (i := 3) (v := ?_) 16 rfl rfl (by kernel_rfl) (by kernel_rfl) (by kernel_rfl) (fun _ _ _ h => h) (Or.inl ⟨by rfl, ?_⟩) hS ?_
    rotate_left
    · intro W hW
      obtain ⟨⟨⟨k0, k1⟩, l0, l1⟩, _⟩ := HC.out W hW
      go_simp
      try with_reducible rfl
    simp only [List.setIfInBounds_toArray, List.set_cons_zero, List.set_cons_succ]
    refine take_to (i := 4) (v := ?_) 17 rfl rfl (by kernel_rfl) (by kernel_rfl) (by kernel_rfl) (fun _ _ _ h => h) (Or.inl ⟨by rfl, ?_⟩) hS ?_
    rotate_left
    · intro W hW
      obtain ⟨⟨⟨k0, k1⟩, l0, l1⟩, _⟩ := HC.out W hW
      go_simp
      try with_reducible rfl
    simp only [List.setIfInBounds_toArray, List.set_cons_zero, List.set_cons_succ]
    refine wpAnyH_ready (rs := [5]) (by kernel_rfl) (by simp) ?_
    refine AllReadyH.cons rfl (fun K hK => ?_) AllReadyH.nil
    go_simp
    obtain ⟨_, bw⟩ := HC.out _ hm0
    refine (mayL_is false (hs.below bw) HQ1).mono ?_
    rintro e m1 ⟨rfl, hm1⟩
    replace hm1 := ext_trans hm0 hm1
    clear bw
    refine hK.out _ _ hm1 fun hS => ?_
    clear hK K
    refine take_to (i := 6) (v := ?_) 19 rfl rfl (by kernel_rfl) (by kernel_rfl) (by kernel_rfl) (fun _ _ _ h => h) (Or.inl ⟨by rfl, ?_⟩) hS ?_
    rotate_left
    · intro W hW
      obtain ⟨⟨⟨k0, k1⟩, l0, l1⟩, _⟩ := HC.out W hW
      go_simp
      try with_reducible rfl
    simp only [List.setIfInBounds_toArray, List.set_cons_zero, List.set_cons_succ]
    refine take_to (i := 7) (v := ?_) 20 rfl rfl (by kernel_rfl) (by kernel_rfl) (by kernel_rfl) (fun _ _ _ h => h) (Or.inl ⟨by rfl, ?_⟩) hS ?_
    rotate_left
    · intro W hW
      obtain ⟨⟨⟨k0, k1⟩, l0, l1⟩, _⟩ := HC.out W hW
      go_simp
      try with_reducible rfl
    simp only [List.setIfInBounds_toArray, List.set_cons_zero, List.set_cons_succ]
    refine take_to (i := 8) (v := ?_) 21 rfl rfl (by kernel_rfl) (by kernel_rfl) (by kernel_rfl) (fun _ _ _ h => h) (Or.inl ⟨by rfl, ?_⟩) hS ?_
    rotate_left
    · intro W hW
      obtain ⟨⟨⟨k0, k1⟩, l0, l1⟩, _⟩ := HC.out W hW
      go_simp
      try with_reducible rfl
    simp only [List.setIfInBounds_toArray, List.set_cons_zero, List.set_cons_succ]
    refine take_to (i := 9) (v := undef) 22 rfl rfl (by kernel_rfl) (by kernel_rfl) (by kernel_rfl) (fun _ _ _ h => h) (Or.inr ⟨by rfl, rfl⟩) hS ?_
    simp only [List.setIfInBounds_toArray, List.set_cons_zero, List.set_cons_succ]
    refine take_to (i := 10) (v := undef) 23 rfl rfl (by kernel_rfl) (by kernel_rfl) (by kernel_rfl) (fun _ _ _ h => h) (Or.inr ⟨by rfl, rfl⟩) hS ?_
    simp only [List.setIfInBounds_toArray, List.set_cons_zero, List.set_cons_succ]
    refine take_to (i := 11) (v := undef) 24 rfl rfl (by kernel_rfl) (by kernel_rfl) (by kernel_rfl) (fun _ _ _ h => h) (Or.inr ⟨by rfl, rfl⟩) hS ?_
    simp only [List.setIfInBounds_toArray, List.set_cons_zero, List.set_cons_succ]
    refine take_to (i := 12) (v := undef) 25 rfl rfl (by kernel_rfl) (by kernel_rfl) (by kernel_rfl) (fun _ _ _ h => h) (Or.inr ⟨by rfl, rfl⟩) hS ?_
    simp only [List.setIfInBounds_toArray, List.set_cons_zero, List.set_cons_succ]
    refine take_to (i := 13) (v := undef) 26 rfl rfl (by kernel_rfl) (by kernel_rfl) (by kernel_rfl) (fun _ _ _ h => h) (Or.inr ⟨by rfl, rfl⟩) hS ?_
    simp only [List.setIfInBounds_toArray, List.set_cons_zero, List.set_cons_succ]
    refine take_to (i := 14) (v := undef) 27 rfl rfl (by kernel_rfl) (by kernel_rfl) (by kernel_rfl) (fun _ _ _ h => h) (Or.inr ⟨by rfl, rfl⟩) hS ?_
    simp only [List.setIfInBounds_toArray, List.set_cons_zero, List.set_cons_succ]
    refine take_to (i := 15) (v := undef) 28 rfl rfl (by kernel_rfl) (by kernel_rfl) (by kernel_rfl) (fun _ _ _ h => h) (Or.inr ⟨by rfl, rfl⟩) hS ?_
    simp only [List.setIfInBounds_toArray, List.set_cons_zero, List.set_cons_succ]
    refine take_to (i := 16) (v := undef) 29 rfl rfl (by kernel_rfl) (by kernel_rfl) (by kernel_rfl) (fun _ _ _ h => h) (Or.inr ⟨by rfl, rfl⟩) hS ?_
    simp only [List.setIfInBounds_toArray, List.set_cons_zero, List.set_cons_succ]
    refine take_to (i := 17) (v := ?_) 30 rfl rfl (by kernel_rfl) (by kernel_rfl) (by kernel_rfl) (fun _ _ _ h => h) (Or.inl ⟨by rfl, ?_⟩) hS ?_
    rotate_left
    · intro W hW
      obtain ⟨⟨⟨k0, k1⟩, l0, l1⟩, _⟩ := HC.out W hW
      go_simp
      try with_reducible rfl
    simp only [List.setIfInBounds_toArray, List.set_cons_zero, List.set_cons_succ]
    refine wpAnyH_done (by kernel_rfl) ?_ _
    refine NoPanic.normal ?_
    go_wp2_with fail
    go_ret
    exact ⟨rfl, (HC.out _ hm1).2⟩
  have L0 := (may_lb hd.1 hr HQ0.out).1
  have L1 := (may_lb hd'.1 hs HQ1.out).1
  have x16 : xs.length ≤ 16 := (mayB_iff.1 HQ0.out).2.1
  have y16 : ys.length ≤ 16 := (mayB_iff.1 HQ1.out).2.1
  have n16 : n ≤ 16 := by have := hr.len; omega
  have m16 : m ≤ 16 := by have := hs.len; omega
  refine wp_region_noPanic ?_
  refine wp_region_held_drew (S := fun W => Below W0.heap.size W0 W) (by kernel_rfl) hB0 fun hS => ?_
  refine take_to (i := 0) (v := ?_) 13 rfl rfl (by kernel_rfl) (by kernel_rfl) (by kernel_rfl) (fun _ _ _ h => h) (Or.inl ⟨by rfl, ?_⟩) hS ?_
  rotate_left
  · intro W hW
    obtain ⟨⟨⟨k0, k1⟩, l0, l1⟩, _⟩ := HC.out W hW
    go_simp
    try with_reducible rfl
  simp only [List.setIfInBounds_toArray, List.set_cons_zero, List.set_cons_succ]
  refine wpAnyH_ready (rs := [1]) (by kernel_rfl) (by simp) ?_
  refine AllReadyH.cons rfl (fun K hK => ?_) AllReadyH.nil
  go_simp
  obtain ⟨_, bw⟩ := HC.out _ hB0
  refine (mayL_is true (hr.below bw) HQ0).mono ?_
  rintro e m0 ⟨rfl, hm0⟩
  replace hm0 := ext_trans hB0 hm0
  clear bw
  refine hK.out _ _ hm0 fun hS => ?_
  clear hK K
  refine take_to (i := 2) (v := ?_) 15 rfl rfl (by kernel_rfl) (by kernel_rfl) (by kernel_rfl) (fun _ _ _ h => h) (Or.inl ⟨by rfl, ?_⟩) hS ?_
  rotate_left
  · intro W hW
    obtain ⟨⟨⟨k0, k1⟩, l0, l1⟩, _⟩ := HC.out W hW
    go_simp
    try with_reducible rfl
  simp only [List.setIfInBounds_toArray, List.set_cons_zero, List.set_cons_succ]
  refine take_to (i := 3) (v := ?_) 16 rfl rfl (by kernel_rfl) (by kernel_rfl) (by kernel_rfl) (fun _ _ _ h => h) (Or.inl ⟨by rfl, ?_⟩) hS ?_
  rotate_left
  · intro W hW
    obtain ⟨⟨⟨k0, k1⟩, l0, l1⟩, _⟩ := HC.out W hW
    go_simp
    try with_reducible rfl
  simp only [List.setIfInBounds_toArray, List.set_cons_zero, List.set_cons_succ]
  refine take_to (i := 4) (v := ?_) 17 rfl rfl (by kernel_rfl) (by kernel_rfl) (by kernel_rfl) (fun _ _ _ h => h) (Or.inl ⟨by rfl, ?_⟩) hS ?_
  rotate_left
  · intro W hW
    obtain ⟨⟨⟨k0, k1⟩, l0, l1⟩, _⟩ := HC.out W hW
    go_simp
    try with_reducible rfl
  simp only [List.setIfInBounds_toArray, List.set_cons_zero, List.set_cons_succ]
  refine wpAnyH_ready (rs := [5]) (by kernel_rfl) (by simp) ?_
  refine AllReadyH.cons rfl (fun K hK => ?_) AllReadyH.nil
  go_simp
  obtain ⟨_, bw⟩ := HC.out _ hm0
  refine (mayL_is true (hs.below bw) HQ1).mono ?_
  rintro e m1 ⟨rfl, hm1⟩
  replace hm1 := ext_trans hm0 hm1
  clear bw
  refine hK.out _ _ hm1 fun hS => ?_
  clear hK K
  refine take_to (i := 6) (v := ?_) 19 rfl rfl (by kernel_rfl) (by kernel_rfl) (by kernel_rfl) (fun _ _ _ h => h) (Or.inl ⟨by rfl, ?_⟩) hS ?_
  rotate_left
  · intro W hW
    obtain ⟨⟨⟨k0, k1⟩, l0, l1⟩, _⟩ := HC.out W hW
    go_simp
    try with_reducible rfl
  simp only [List.setIfInBounds_toArray, List.set_cons_zero, List.set_cons_succ]
  refine take_to (i := 7) (v := ?_) 20 rfl rfl (by kernel_rfl) (by kernel_rfl) (by kernel_rfl) (fun _ _ _ h => h) (Or.inl ⟨by rfl, ?_⟩) hS ?_
  rotate_left
  · intro W hW
    obtain ⟨⟨⟨k0, k1⟩, l0, l1⟩, _⟩ := HC.out W hW
    go_simp
    try with_reducible rfl
  simp only [List.setIfInBounds_toArray, List.set_cons_zero, List.set_cons_succ]
  refine take_to (i := 8) (v := ?_) 21 rfl rfl (by kernel_rfl) (by kernel_rfl) (by kernel_rfl) (fun _ _ _ h => h) (Or.inl ⟨by rfl, ?_⟩) hS ?_
  rotate_left
  · intro W hW
    obtain ⟨⟨⟨k0, k1⟩, l0, l1⟩, _⟩ := HC.out W hW
    go_simp
    try with_reducible rfl
  simp only [List.setIfInBounds_toArray, List.set_cons_zero, List.set_cons_succ]
  refine take_to (i := 9) (v := ?_) 22 rfl rfl (by kernel_rfl) (by kernel_rfl) (by kernel_rfl) (fun _ _ _ h => h) (Or.inl ⟨by rfl, ?_⟩) hS ?_
  rotate_left
  · intro W hW
    obtain ⟨⟨⟨k0, k1⟩, l0, l1⟩, _⟩ := HC.out W hW
    go_simp
    try with_reducible rfl
  simp only [List.setIfInBounds_toArray, List.set_cons_zero, List.set_cons_succ]
  refine take_to (i := 12) (v := ?_) 25 rfl rfl (by kernel_rfl) (by kernel_rfl) (by kernel_rfl) (fun _ _ _ h => h) (Or.inl ⟨by rfl, ?_⟩) hS ?_
  rotate_left
  · intro W hW
    obtain ⟨⟨⟨k0, k1⟩, l0, l1⟩, _⟩ := HC.out W hW
    go_simp
    try with_reducible rfl
  simp only [List.setIfInBounds_toArray, List.set_cons_zero, List.set_cons_succ]
  refine wpAnyH_ready (rs := [10]) (by kernel_rfl) (by simp) ?_
  refine AllReadyH.cons rfl (fun K hK => ?_) AllReadyH.nil
  go_simp
  obtain ⟨_, bw⟩ := HC.out _ hm1
  refine (levels_any d a n cap xs 0 _ (hr.below bw) (by omega)).mono ?_
  rintro e l0 ⟨so3, k3, co3, rfl, ho3, hl0⟩
  have hk3l : Hid ((starsL 0 xs).length = k3) := ho3.1
  have hk3b : k3 ≤ 16 := stars_few 0 hk3l.out (by omega)
  clear ho3
  replace hl0 := ext_trans hm1 hl0
  clear bw
  refine hK.out _ _ hl0 fun hS => ?_
  clear hK K
  refine take_to (i := 11) (v := ?_) 24 rfl rfl (by kernel_rfl) (by kernel_rfl) (by kernel_rfl) (fun _ _ _ h => h) (Or.inl ⟨by rfl, ?_⟩) hS ?_
  rotate_left
  · intro W hW
    obtain ⟨⟨⟨k0, k1⟩, l0, l1⟩, _⟩ := HC.out W hW
    go_simp
    try with_reducible rfl
  simp only [List.setIfInBounds_toArray, List.set_cons_zero, List.set_cons_succ]
  refine wpAnyH_ready (rs := [13]) (by kernel_rfl) (by simp) ?_
  refine AllReadyH.cons rfl (fun K hK => ?_) AllReadyH.nil
  go_simp
  obtain ⟨_, bw⟩ := HC.out _ hl0
  refine (levels_any d' b m cap2 ys 0 _ (hs.below bw) (by omega)).mono ?_
  rintro e l1 ⟨so4, k4, co4, rfl, ho4, hl1⟩
  have hk4l : Hid ((starsL 0 ys).length = k4) := ho4.1
  have hk4b : k4 ≤ 16 := stars_few 0 hk4l.out (by omega)
  clear ho4
  replace hl1 := ext_trans hl0 hl1
  clear bw
  obtain ⟨ks, hks⟩ : ∃ z : Int, IntKind.i64.wrap ((k3 : Int) + (k4 : Int)) = z := ⟨_, rfl⟩
  have HKS : Hid (IntKind.i64.wrap ((k3 : Int) + (k4 : Int)) = ks) := hks
  obtain ⟨g, hg⟩ : ∃ q, decide ((0 : Int) < ks) = q := ⟨_, rfl⟩
  have HG : Hid (decide ((0 : Int) < ks) = g) := hg
  refine hK.out _ _ hl1 fun hS => ?_
  clear hK K
  refine take_to (i := 14) (v := ?_) 27 rfl rfl (by kernel_rfl) (by kernel_rfl) (by kernel_rfl) (fun _ _ _ h => h) (Or.inl ⟨by rfl, ?_⟩) hS ?_
  rotate_left
  · intro W hW
    obtain ⟨⟨⟨k0, k1⟩, l0, l1⟩, _⟩ := HC.out W hW
    go_simp
    try with_reducible rfl
  simp only [List.setIfInBounds_toArray, List.set_cons_zero, List.set_cons_succ]
  refine take_to (i := 15) (v := ?_) 28 rfl rfl (by kernel_rfl) (by kernel_rfl) (by kernel_rfl) (fun _ _ _ h => h) (Or.inl ⟨by rfl, ?_⟩) hS ?_
  rotate_left
  · intro W hW
    obtain ⟨⟨⟨k0, k1⟩, l0, l1⟩, _⟩ := HC.out W hW
    go_simp
    try with_reducible rfl
  simp only [List.setIfInBounds_toArray, List.set_cons_zero, List.set_cons_succ]
  refine take_to (i := 16) (v := ?_) 29 rfl rfl (by kernel_rfl) (by kernel_rfl) (by kernel_rfl) (fun _ _ _ h => h) (Or.inl ⟨by rfl, ?_⟩) hS ?_
  rotate_left
  · intro W hW
    obtain ⟨⟨⟨k0, k1⟩, l0, l1⟩, _⟩ := HC.out W hW
    go_simp
    try with_reducible rfl
  simp only [List.setIfInBounds_toArray, List.set_cons_zero, List.set_cons_succ]
  refine take_to (i := 17) (v := ?_) 30 rfl rfl (by kernel_rfl) (by kernel_rfl) (by kernel_rfl) (fun _ _ _ h => h) (Or.inl ⟨by rfl, ?_⟩) hS ?_
  rotate_left
  · intro W hW
    obtain ⟨⟨⟨k0, k1⟩, l0, l1⟩, _⟩ := HC.out W hW
    go_simp
    try with_reducible rfl
  simp only [List.setIfInBounds_toArray, List.set_cons_zero, List.set_cons_succ]
  refine wpAnyH_done (by kernel_rfl) ?_ _
  refine NoPanic.normal ?_
  obtain ⟨⟨⟨k0, k1⟩, l0, l1⟩, bw⟩ := HC.out _ hl1
  have HKE : Hid (ks = (k3 : Int) + (k4 : Int)) := by rw [← HKS.out]; exact Go.IntWalk.i64_in _ (by omega)
  cases g
  · have HX0 : Hid (starsL 0 xs = []) := List.eq_nil_of_length_eq_zero (by have := hk3l.out; have := HKE.out; have := of_decide_eq_false HG.out; omega)
    have HY0 : Hid (starsL 0 ys = []) := List.eq_nil_of_length_eq_zero (by have := hk4l.out; have := HKE.out; have := of_decide_eq_false HG.out; omega)
    clear hks hg HKS HG HKE hk3l hk4l hk3b hk4b
    go_wp2_with fail
    refine (split_any d a n cap xs _ (L0.below bw)).mono ?_
    rintro e v1 ⟨x, E, rfl, hx, HS1, hv1⟩
    replace hv1 := ext_trans hl1 hv1
    clear k0 k1 l0 l1 bw
    have HC2 := more_sv x HC hx hv1
    obtain ⟨⟨⟨⟨k0, k1⟩, l0, l1⟩, ⟨t0, t1, t2⟩, hx1⟩, bw⟩ := HC2.out _ (Below.refl _ _)
    go_wp2_with fail
    clear k0 k1 l0 l1 t0 t1 t2 hx1 bw
    obtain ⟨V1, hV1⟩ : ∃ V, V = v1.alloc (Obj.cells #[.slice x.a1 x.n1 x.c1, .slice x.a2 x.n2 x.c2, .slice x.a3 x.n3 x.c3] 27) := ⟨_, rfl⟩
    rw [← hV1] at HC2 ⊢
    clear hV1 hx hv1 HC
    have hV1 := Below.refl V1.heap.size V1
    obtain ⟨⟨⟨⟨k0, k1⟩, l0, l1⟩, ⟨t0, t1, t2⟩, hx1⟩, bw⟩ := HC2.out _ hV1
    refine (split_any d' b m cap2 ys _ (L1.below bw)).mono ?_
    rintro e v2 ⟨y, E2, rfl, hy, HS2, hv2⟩
    replace hv2 := ext_trans hV1 hv2
    clear k0 k1 l0 l1 t0 t1 t2 hx1 bw
    have HC3 := more_sv y HC2 hy hv2
    obtain ⟨⟨⟨⟨⟨k0, k1⟩, l0, l1⟩, ⟨t0, t1, t2⟩, hx1⟩, ⟨u0, u1, u2⟩, hy1⟩, bw⟩ := HC3.out _ (Below.refl _ _)
    obtain ⟨nt, hnt⟩ : ∃ t, nameB d xs = t := ⟨_, rfl⟩
    have HNT : Hid (nameB d xs = nt) := hnt
    obtain ⟨no, hno⟩ : ∃ t, nameB d' ys = t := ⟨_, rfl⟩
    have HNO : Hid (nameB d' ys = no) := hno
    clear hnt hno
    cases nt
    · obtain ⟨rfl, -⟩ := HS1.out.no HNT.out
      go_wp2_with fail
      go_ret
      exact ⟨rfl, bw⟩
    cases no
    · obtain ⟨rfl, -⟩ := HS1.out.ok HNT.out
      obtain ⟨rfl, -⟩ := HS2.out.no HNO.out
      go_wp2_with fail
      go_ret
      exact ⟨rfl, bw⟩
    have HXZ : Hid (x.zs = []) := (HS1.out.ok HNT.out).2.2.2.trans HX0.out
    have HYZ : Hid (y.zs = []) := (HS2.out.ok HNO.out).2.2.2.trans HY0.out
    obtain ⟨rfl, -⟩ := HS1.out.ok HNT.out
    obtain ⟨rfl, -⟩ := HS2.out.ok HNO.out
    obtain ⟨hmx, hbx⟩ := HS1.out.bk HNT.out HQ0.out L0.lv
    have HMX : Hid (MayP x.xs x.ys x.zs) := hmx
    have HBX : Hid (Bk x.xs x.ys x.zs xs) := hbx
    obtain ⟨hmy, hby⟩ := HS2.out.bk HNO.out HQ1.out L1.lv
    have HMY : Hid (MayP y.xs y.ys y.zs) := hmy
    have HBY : Hid (Bk y.xs y.ys y.zs ys) := hby
    have HD : Hid (d = 2) := (name_two HNT.out).1
    have HD' : Hid (d' = 2) := (name_two HNO.out).1
    clear hmx hbx hmy hby
    obtain rfl := HD.out
    obtain rfl := HD'.out
    clear HD HD'
    go_wp2_with fail
    clear k0 k1 l0 l1 t0 t1 t2 hx1 u0 u1 u2 hy1 bw
    obtain ⟨V2, hV2⟩ : ∃ V, V = v2.alloc (Obj.cells #[.slice y.a1 y.n1 y.c1, .slice y.a2 y.n2 y.c2, .slice y.a3 y.n3 y.c3] 27) := ⟨_, rfl⟩
    rw [← hV2] at HC3 ⊢
    clear hV2 hv2 HC2 HS1 HS2
    have hV2 := Below.refl V2.heap.size V2
    obtain ⟨⟨⟨⟨⟨k0, k1⟩, l0, l1⟩, ⟨t0, t1, t2⟩, hx1⟩, ⟨u0, u1, u2⟩, hy1⟩, bw⟩ := HC3.out _ hV2
    refine (refJoin_two (L0.below bw) (L1.below bw)).mono ?_
    rintro e v3 ⟨so3, k3', co3, rfl, hj3, hv3⟩
    replace hv3 := ext_trans hV2 hv3
    clear k0 k1 l0 l1 t0 t1 t2 hx1 u0 u1 u2 hy1 bw
    obtain ⟨⟨⟨⟨⟨k0, k1⟩, l0, l1⟩, ⟨t0, t1, t2⟩, hx1⟩, ⟨u0, u1, u2⟩, hy1⟩, bw⟩ := HC3.out _ hv3
    go_wp2_with fail
    obtain ⟨mq2, hq2⟩ : ∃ q, mayB 2 (comb max 2 2 xs ys) = q := ⟨_, rfl⟩
    have HQ2 : Hid (mayB 2 (comb max 2 2 xs ys) = mq2) := hq2
    clear hq2
    refine (mayL_is mq2 hj3 HQ2).mono ?_
    rintro e v4 ⟨rfl, hv4⟩
    replace hv4 := ext_trans hv3 hv4
    clear k0 k1 l0 l1 t0 t1 t2 hx1 u0 u1 u2 hy1 bw
    obtain ⟨⟨⟨⟨⟨k0, k1⟩, l0, l1⟩, ⟨t0, t1, t2⟩, hx1⟩, ⟨u0, u1, u2⟩, hy1⟩, bw⟩ := HC3.out _ hv4
    cases mq2
    · go_wp2_with fail
      go_ret
      exact ⟨rfl, bw⟩
    go_wp2_with fail
    refine (joinL_two (L0.below bw) (L1.below bw)).mono ?_
    rintro e v5 ⟨so5, k5, co5, rfl, hj5, hv5⟩
    have L5 := (may_lb (by omega) hj5 HQ2.out).1
    replace hv5 := ext_trans hv4 hv5
    clear k0 k1 l0 l1 t0 t1 t2 hx1 u0 u1 u2 hy1 bw
    obtain ⟨⟨⟨⟨⟨k0, k1⟩, l0, l1⟩, ⟨t0, t1, t2⟩, hx1⟩, ⟨u0, u1, u2⟩, hy1⟩, bw⟩ := HC3.out _ hv5
    go_wp2_with fail
    refine (split_any 2 so5 k5 co5 _ _ L5).mono ?_
    rintro e v6 ⟨z, G, rfl, hz, HS3, hv6⟩
    replace hv6 := ext_trans hv5 hv6
    clear k0 k1 l0 l1 t0 t1 t2 hx1 u0 u1 u2 hy1 bw
    have HC4 := more_sv z HC3 hz hv6
    obtain ⟨⟨⟨⟨⟨⟨k0, k1⟩, l0, l1⟩, ⟨t0, t1, t2⟩, hx1⟩, ⟨u0, u1, u2⟩, hy1⟩, ⟨p0, p1, p2⟩, hz1⟩, bw⟩ := HC4.out _ (Below.refl _ _)
    obtain ⟨rfl, hz2, hz3, hz4⟩ := join_split HBX.out HBY.out HMX.out HMY.out HXZ.out HYZ.out HS3.out
    have HZ : Hid (z.xs = mrg true true true x.xs y.xs ∧ z.ys = mrg false true false x.ys y.ys ∧ z.zs = []) := ⟨hz2, hz3, hz4⟩
    clear hz2 hz3 hz4 HS3
    obtain ⟨qf, hqf⟩ : ∃ q, x.flows y = q := ⟨_, rfl⟩
    have HQF : Hid (x.flows y = qf) := hqf
    have HFL : Hid (qf = true ↔ FlL 2 xs 2 ys) := flows_split HBX.out HBY.out HMX.out HMY.out HXZ.out HYZ.out hqf
    clear hqf
    have e4 : (qf == qf) = true := by simp
    have lx := HMX.out.len hx1
    have ly := HMY.out.len hy1
    go_wp2_with fail
    clear k0 k1 l0 l1 t0 t1 t2 hx1 u0 u1 u2 hy1 p0 p1 p2 hz1 bw
    obtain ⟨V3, hV3⟩ : ∃ V, V = v6.alloc (Obj.cells #[.slice z.a1 z.n1 z.c1, .slice z.a2 z.n2 z.c2, .slice z.a3 z.n3 z.c3] 27) := ⟨_, rfl⟩
    rw [← hV3] at HC4 ⊢
    clear hV3 hz hv6 HC3
    have hV3 := Below.refl V3.heap.size V3
    have hB3 : Below V3.heap.size V3 V3.drew := ext_drew _
    clear hV3
    refine wp_region_noPanic ?_
    refine wp_region_held_drew (S := fun W => Below V3.heap.size V3 W) (by kernel_rfl) hB3 fun hS => ?_
    refine take_to (i := 0) (v := ?_) 59 rfl rfl (by kernel_rfl) (by kernel_rfl) (by kernel_rfl) (fun _ _ _ h => h) (Or.inl ⟨by rfl, ?_⟩) hS ?_
    rotate_left
    · intro W hW
      obtain ⟨⟨⟨⟨⟨⟨k0, k1⟩, l0, l1⟩, ⟨t0, t1, t2⟩, hx1⟩, ⟨u0, u1, u2⟩, hy1⟩, ⟨p0, p1, p2⟩, hz1⟩, _⟩ := HC4.out W hW
      go_simp
      try with_reducible rfl
    simp only [List.setIfInBounds_toArray, List.set_cons_zero, List.set_cons_succ]
    refine take_to (i := 1) (v := ?_) 60 rfl rfl (by kernel_rfl) (by kernel_rfl) (by kernel_rfl) (fun _ _ _ h => h) (Or.inl ⟨by rfl, ?_⟩) hS ?_
    rotate_left
    · intro W hW
      obtain ⟨⟨⟨⟨⟨⟨k0, k1⟩, l0, l1⟩, ⟨t0, t1, t2⟩, hx1⟩, ⟨u0, u1, u2⟩, hy1⟩, ⟨p0, p1, p2⟩, hz1⟩, _⟩ := HC4.out W hW
      go_simp
      try with_reducible rfl
    simp only [List.setIfInBounds_toArray, List.set_cons_zero, List.set_cons_succ]
    refine take_to (i := 3) (v := ?_) 62 rfl rfl (by kernel_rfl) (by kernel_rfl) (by kernel_rfl) (fun _ _ _ h => h) (Or.inl ⟨by rfl, ?_⟩) hS ?_
    rotate_left
    · intro W hW
      obtain ⟨⟨⟨⟨⟨⟨k0, k1⟩, l0, l1⟩, ⟨t0, t1, t2⟩, hx1⟩, ⟨u0, u1, u2⟩, hy1⟩, ⟨p0, p1, p2⟩, hz1⟩, _⟩ := HC4.out W hW
      go_simp
      try with_reducible rfl
    simp only [List.setIfInBounds_toArray, List.set_cons_zero, List.set_cons_succ]
    refine take_to (i := 4) (v := ?_) 63 rfl rfl (by kernel_rfl) (by kernel_rfl) (by kernel_rfl) (fun _ _ _ h => h) (Or.inl ⟨by rfl, ?_⟩) hS ?_
    rotate_left
    · intro W hW
      obtain ⟨⟨⟨⟨⟨⟨k0, k1⟩, l0, l1⟩, ⟨t0, t1, t2⟩, hx1⟩, ⟨u0, u1, u2⟩, hy1⟩, ⟨p0, p1, p2⟩, hz1⟩, _⟩ := HC4.out W hW
      go_simp
      try with_reducible rfl
    simp only [List.setIfInBounds_toArray, List.set_cons_zero, List.set_cons_succ]
    refine wpAnyH_ready (rs := [2]) (by kernel_rfl) (by simp) ?_
    refine AllReadyH.cons rfl (fun K hK => ?_) AllReadyH.nil
    go_simp
    obtain ⟨⟨⟨⟨_, _, hxx⟩, _, hyy⟩, _, hzz⟩, bw⟩ := HC4.out _ hB3
    refine (flows_is qf HFL _ (L0.below bw) (L1.below bw)).mono ?_
    rintro e g1 ⟨rfl, hg1⟩
    replace hg1 := ext_trans hB3 hg1
    clear hxx hyy hzz bw
    refine hK.out _ _ hg1 fun hS => ?_
    clear hK K
    refine wpAnyH_ready (rs := [5]) (by kernel_rfl) (by simp) ?_
    refine AllReadyH.cons rfl (fun K hK => ?_) AllReadyH.nil
    go_simp
    obtain ⟨⟨⟨⟨_, _, hxx⟩, _, hyy⟩, _, hzz⟩, bw⟩ := HC4.out _ hg1
    refine (sflows_is qf hxx hyy (by omega) (by omega) HQF).mono ?_
    rintro e g2 ⟨rfl, hg2⟩
    replace hg2 := ext_trans hg1 hg2
    clear hxx hyy hzz bw
    refine hK.out _ _ hg2 fun hS => ?_
    clear hK K
    refine take_to (i := 6) (v := ?_) 65 rfl rfl (by kernel_rfl) (by kernel_rfl) (by kernel_rfl) (fun _ _ _ h => h) (Or.inl ⟨by rfl, ?_⟩) hS ?_
    rotate_left
    · intro W hW
      obtain ⟨⟨⟨⟨⟨⟨k0, k1⟩, l0, l1⟩, ⟨t0, t1, t2⟩, hx1⟩, ⟨u0, u1, u2⟩, hy1⟩, ⟨p0, p1, p2⟩, hz1⟩, _⟩ := HC4.out W hW
      go_simp
      try with_reducible rfl
    simp only [List.setIfInBounds_toArray, List.set_cons_zero, List.set_cons_succ]
    refine take_to (i := 7) (v := ?_) 66 rfl rfl (by kernel_rfl) (by kernel_rfl) (by kernel_rfl) (fun _ _ _ h => h) (Or.inl ⟨by rfl, ?_⟩) hS ?_
    rotate_left
    · intro W hW
      obtain ⟨⟨⟨⟨⟨⟨k0, k1⟩, l0, l1⟩, ⟨t0, t1, t2⟩, hx1⟩, ⟨u0, u1, u2⟩, hy1⟩, ⟨p0, p1, p2⟩, hz1⟩, _⟩ := HC4.out W hW
      go_simp
      try with_reducible rfl
    simp only [List.setIfInBounds_toArray, List.set_cons_zero, List.set_cons_succ]
    refine take_to (i := 8) (v := ?_) 67 rfl rfl (by kernel_rfl) (by kernel_rfl) (by kernel_rfl) (fun _ _ _ h => h) (Or.inl ⟨by rfl, ?_⟩) hS ?_
    rotate_left
    · intro W hW
      obtain ⟨⟨⟨⟨⟨⟨k0, k1⟩, l0, l1⟩, ⟨t0, t1, t2⟩, hx1⟩, ⟨u0, u1, u2⟩, hy1⟩, ⟨p0, p1, p2⟩, hz1⟩, _⟩ := HC4.out W hW
      go_simp
      try with_reducible rfl
    simp only [List.setIfInBounds_toArray, List.set_cons_zero, List.set_cons_succ]
    refine take_to (i := 9) (v := ?_) 68 rfl rfl (by kernel_rfl) (by kernel_rfl) (by kernel_rfl) (fun _ _ _ h => h) (Or.inl ⟨by rfl, ?_⟩) hS ?_
    rotate_left
    · intro W hW
      obtain ⟨⟨⟨⟨⟨⟨k0, k1⟩, l0, l1⟩, ⟨t0, t1, t2⟩, hx1⟩, ⟨u0, u1, u2⟩, hy1⟩, ⟨p0, p1, p2⟩, hz1⟩, _⟩ := HC4.out W hW
      go_simp
      try with_reducible rfl
    simp only [List.setIfInBounds_toArray, List.set_cons_zero, List.set_cons_succ]
    refine take_to (i := 10) (v := ?_) 69 rfl rfl (by kernel_rfl) (by kernel_rfl) (by kernel_rfl) (fun _ _ _ h => h) (Or.inl ⟨by rfl, ?_⟩) hS ?_
    rotate_left
    · intro W hW
      obtain ⟨⟨⟨⟨⟨⟨k0, k1⟩, l0, l1⟩, ⟨t0, t1, t2⟩, hx1⟩, ⟨u0, u1, u2⟩, hy1⟩, ⟨p0, p1, p2⟩, hz1⟩, _⟩ := HC4.out W hW
      go_simp
      try with_reducible rfl
    simp only [List.setIfInBounds_toArray, List.set_cons_zero, List.set_cons_succ]
    refine take_to (i := 11) (v := ?_) 70 rfl rfl (by kernel_rfl) (by kernel_rfl) (by kernel_rfl) (fun _ _ _ h => h) (Or.inl ⟨by rfl, ?_⟩) hS ?_
    rotate_left
    · intro W hW
      obtain ⟨⟨⟨⟨⟨⟨k0, k1⟩, l0, l1⟩, ⟨t0, t1, t2⟩, hx1⟩, ⟨u0, u1, u2⟩, hy1⟩, ⟨p0, p1, p2⟩, hz1⟩, _⟩ := HC4.out W hW
      go_simp
      try with_reducible rfl
    simp only [List.setIfInBounds_toArray, List.set_cons_zero, List.set_cons_succ]
    refine take_to (i := 12) (v := ?_) 71 rfl rfl (by kernel_rfl) (by kernel_rfl) (by kernel_rfl) (fun _ _ _ h => h) (Or.inl ⟨by rfl, ?_⟩) hS ?_
    rotate_left
    · intro W hW
      obtain ⟨⟨⟨⟨⟨⟨k0, k1⟩, l0, l1⟩, ⟨t0, t1, t2⟩, hx1⟩, ⟨u0, u1, u2⟩, hy1⟩, ⟨p0, p1, p2⟩, hz1⟩, _⟩ := HC4.out W hW
      go_simp
      try with_reducible rfl
    simp only [List.setIfInBounds_toArray, List.set_cons_zero, List.set_cons_succ]
    refine take_to (i := 13) (v := ?_) 72 rfl rfl (by kernel_rfl) (by kernel_rfl) (by kernel_rfl) (fun _ _ _ h => h) (Or.inl ⟨by rfl, ?_⟩) hS ?_
    rotate_left
    · intro W hW
      obtain ⟨⟨⟨⟨⟨⟨k0, k1⟩, l0, l1⟩, ⟨t0, t1, t2⟩, hx1⟩, ⟨u0, u1, u2⟩, hy1⟩, ⟨p0, p1, p2⟩, hz1⟩, _⟩ := HC4.out W hW
      go_simp
      try with_reducible rfl
    simp only [List.setIfInBounds_toArray, List.set_cons_zero, List.set_cons_succ]
    refine take_to (i := 14) (v := ?_) 73 rfl rfl (by kernel_rfl) (by kernel_rfl) (by kernel_rfl) (fun _ _ _ h => h) (Or.inl ⟨by rfl, ?_⟩) hS ?_
    rotate_left
    · intro W hW
      obtain ⟨⟨⟨⟨⟨⟨k0, k1⟩, l0, l1⟩, ⟨t0, t1, t2⟩, hx1⟩, ⟨u0, u1, u2⟩, hy1⟩, ⟨p0, p1, p2⟩, hz1⟩, _⟩ := HC4.out W hW
      go_simp
      try with_reducible rfl
    simp only [List.setIfInBounds_toArray, List.set_cons_zero, List.set_cons_succ]
    refine wpAnyH_ready (rs := [15]) (by kernel_rfl) (by simp) ?_
    refine AllReadyH.cons rfl (fun K hK => ?_) AllReadyH.nil
    go_simp
    obtain ⟨⟨⟨⟨_, _, hxx⟩, _, hyy⟩, _, hzz⟩, bw⟩ := HC4.out _ hg2
    refine (joinS_any x y _ hxx hyy (by omega) (by omega)).mono ?_
    rintro e g3 ⟨j, rfl, hjj, hjl, -, hg3⟩
    have HJ : Hid (z.same j = true) := (Sv.same_iff _ _).2 ⟨HZ.out.1.trans hjl.1.symm, HZ.out.2.1.trans hjl.2.1.symm, HZ.out.2.2.trans hjl.2.2.symm⟩
    clear hjl
    replace hg3 := ext_trans hg2 hg3
    clear hxx hyy hzz bw
    refine hK.out _ _ hg3 fun hS => ?_
    clear hK K
    refine wpAnyH_ready (rs := [16]) (by kernel_rfl) (by simp) ?_
    refine AllReadyH.cons rfl (fun K hK => ?_) AllReadyH.nil
    go_simp
    obtain ⟨⟨⟨⟨_, _, hxx⟩, _, hyy⟩, _, hzz⟩, bw⟩ := HC4.out _ hg3
    refine (refSame_is true hzz hjj HJ).mono ?_
    rintro e g4 ⟨rfl, hg4⟩
    replace hg4 := ext_trans hg3 hg4
    clear hxx hyy hzz bw
    refine hK.out _ _ hg4 fun hS => ?_
    clear hK K
    refine take_to (i := 17) (v := ?_) 76 rfl rfl (by kernel_rfl) (by kernel_rfl) (by kernel_rfl) (fun _ _ _ h => h) (Or.inl ⟨by rfl, ?_⟩) hS ?_
    rotate_left
    · intro W hW
      obtain ⟨⟨⟨⟨⟨⟨k0, k1⟩, l0, l1⟩, ⟨t0, t1, t2⟩, hx1⟩, ⟨u0, u1, u2⟩, hy1⟩, ⟨p0, p1, p2⟩, hz1⟩, _⟩ := HC4.out W hW
      go_simp
      try with_reducible rfl
    simp only [List.setIfInBounds_toArray, List.set_cons_zero, List.set_cons_succ]
    refine take_to (i := 18) (v := ?_) 4 rfl rfl (by kernel_rfl) (by kernel_rfl) (by kernel_rfl) (fun _ _ _ h => h) (Or.inl ⟨by rfl, ?_⟩) hS ?_
    rotate_left
    · intro W hW
      obtain ⟨⟨⟨⟨⟨⟨k0, k1⟩, l0, l1⟩, ⟨t0, t1, t2⟩, hx1⟩, ⟨u0, u1, u2⟩, hy1⟩, ⟨p0, p1, p2⟩, hz1⟩, _⟩ := HC4.out W hW
      go_simp
      try with_reducible rfl
    simp only [List.setIfInBounds_toArray, List.set_cons_zero, List.set_cons_succ]
    refine wpAnyH_done (by kernel_rfl) ?_ _
    refine NoPanic.normal ?_
    go_wp2_with fail
    go_ret
    exact ⟨rfl, (HC4.out _ hg4).2⟩
  · go_wp2_with fail
    go_ret
    exact ⟨rfl, bw⟩
end Go.Proofs.Ytdoemkncgfgkhaa
