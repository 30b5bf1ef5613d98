/- Who may, by sets: what may2's functions answer: contracts. -/
import Derived.Test.YtdoemkncgfgkhaaSvBegun
import Derived.Test.YtdoemkncgfgkhaaRegion
namespace Go.Proofs.Ytdoemkncgfgkhaa
open Go.RowKit
set_option maxRecDepth 100000

/-- A label of sets in memory whose sets rise, and are few. -/
structure Sm (x : Sv) (w : World) : Prop where
  row : x.In w
  s1 : Srt x.xs
  s2 : Srt x.ys
  s3 : Srt x.zs
  l1 : x.n1 ≤ 1000
  l2 : x.n2 ≤ 1000
  l3 : x.n3 ≤ 1000
theorem Sm.below {x : Sv} {w w' : World} (h : Sm x w) (hb : Below w.heap.size w w') : Sm x w' := ⟨h.row.below hb, h.s1, h.s2, h.s3, h.l1, h.l2, h.l3⟩
theorem Sm.opened {x : Sv} {w : World} (h : Sm x w) : Sm x.opened w := ⟨h.row.opened, h.s1, h.s2, Srt.nil, h.l1, h.l2, Nat.zero_le _⟩
theorem Sm.of {x : Sv} {w : World} (hx : x.In w) (h : MayP x.xs x.ys x.zs) : Sm x w := by
  have := h.2.2
  rw [hx.r1.len, hx.r2.len, hx.r3.len] at this
  exact ⟨hx, h.1.1, h.1.2.1, h.1.2.2, by omega, by omega, by omega⟩

/-- Who sees. -/
def SeesP (x y : Sv) : Prop := (∀ z, z ∈ y.xs → z ∈ x.xs ∨ z ∈ x.zs) ∧ ∀ z, z ∈ x.ys → z ∈ y.ys
/-- Who turns. -/
def TurnsP (x y : Sv) : Prop := (∀ z, z ∈ x.xs → z ∈ y.xs) ∧ ∀ z, z ∈ y.ys → z ∈ x.ys ∨ z ∈ x.zs
/-- Does the one own all that the other owns? -/
def OwnsP (x y : Sv) : Prop := ∀ z, z ∈ y.zs → z ∈ x.zs
/-- Which error is told first. -/
def why2 (s f : Bool) : Int := if s = true then if f = true then 0 else 6 else 5
theorem bool_is {P : Prop} {q r : Bool} (h : q = true ↔ P) (k : r = true ↔ P) : q = r := Bool.eq_iff_iff.2 (h.trans k.symm)

set_option maxHeartbeats 2000000 in
theorem ownless_any (x : Sv) (w : World) : Calls Try.prog 54 #[.agg #[.slice x.a1 x.n1 x.c1, .slice x.a2 x.n2 x.c2, .slice x.a3 x.n3 x.c3]] w fun e w' => e = .returned (.agg #[.slice x.a1 x.n1 x.c1, .slice x.a2 x.n2 x.c2, .slice none 0 0]) ∧ Below w.heap.size w w' := by
  go_enter Try.func54, Try.ntmps54
  go_wp2_with fail
  refine bodyPost_ret (ret_sv rfl _ _ (w.heap.size + 1) x.opened rfl (sv_heap_new_at _ _ _ (by simp))) rfl ?_
  exact ⟨rfl, sv_two_allocs _ _ _⟩

theorem sees_iff {x y : Sv} {l : List Int} (hl : l = mrg true true true x.xs x.zs) (h1 : Srt x.xs) (h2 : Srt x.ys) (h3 : Srt x.zs) (k1 : Srt y.xs) (k2 : Srt y.ys) (so : Option Addr) (k co : Nat) :
    y.opened.flows ⟨so, k, co, l, x.a2, x.n2, x.c2, x.ys, none, 0, 0, []⟩ = true ↔ SeesP x y := by
  subst hl
  refine Iff.trans (Sv.flows_iff (x := y.opened) (y := ⟨so, k, co, mrg true true true x.xs x.zs, x.a2, x.n2, x.c2, x.ys, none, 0, 0, []⟩) k1 k2 (mrg_srt _ _ _ _ _ h1 h3) h2) ?_
  unfold SeesP
  exact and_congr (forall_congr' fun z => imp_congr Iff.rfl (or_mem h1 h3 z)) Iff.rfl
theorem turns_iff {x y : Sv} {l : List Int} (hl : l = mrg true true true x.ys x.zs) (h1 : Srt x.xs) (h2 : Srt x.ys) (h3 : Srt x.zs) (k1 : Srt y.xs) (k2 : Srt y.ys) (so : Option Addr) (k co : Nat) :
    (⟨x.a1, x.n1, x.c1, x.xs, so, k, co, l, none, 0, 0, []⟩ : Sv).flows y.opened = true ↔ TurnsP x y := by
  subst hl
  refine Iff.trans (Sv.flows_iff (x := ⟨x.a1, x.n1, x.c1, x.xs, so, k, co, mrg true true true x.ys x.zs, none, 0, 0, []⟩) (y := y.opened) h1 (mrg_srt _ _ _ _ _ h2 h3) k1 k2) ?_
  unfold TurnsP
  exact and_congr Iff.rfl (forall_congr' fun z => imp_congr Iff.rfl (or_mem h2 h3 z))

set_option maxHeartbeats 4000000 in
theorem sees2_is (q : Bool) {x y : Sv} (hq : Hid (q = true ↔ SeesP x y)) (w : World) (hx : Sm x w) (hy : Sm y w) :
    Calls Try.prog 24 #[.agg #[.slice x.a1 x.n1 x.c1, .slice x.a2 x.n2 x.c2, .slice x.a3 x.n3 x.c3], .agg #[.slice y.a1 y.n1 y.c1, .slice y.a2 y.n2 y.c2, .slice y.a3 y.n3 y.c3]] w fun e w' => e = .returned (.bool q) ∧ Below w.heap.size w w' := by
  have HC : Hid _ := two_sv w x y
  have l1 := hx.l1
  have l2 := hx.l2
  have l3 := hx.l3
  have k1 := hy.l1
  have k2 := hy.l2
  have k3 := hy.l3
  go_enter Try.func24, Try.ntmps24
  go_wp2_with fail
  obtain ⟨W1, hW1⟩ : ∃ V, V = (w.alloc (Obj.cells #[.slice x.a1 x.n1 x.c1, .slice x.a2 x.n2 x.c2, .slice x.a3 x.n3 x.c3] 27)).alloc (Obj.cells #[.slice y.a1 y.n1 y.c1, .slice y.a2 y.n2 y.c2, .slice y.a3 y.n3 y.c3] 27) := ⟨_, rfl⟩
  rw [← hW1] at HC ⊢
  clear hW1
  have hB0 : Below W1.heap.size W1 W1.drew := ext_drew _
  refine wp_region_noPanic ?_
  refine wp_region_held_drew (S := fun W => Below W1.heap.size W1 W) (by kernel_rfl) hB0 fun hS => ?_
  refine take_to (i := 0) (v := ?_) 5 rfl rfl (by kernel_rfl) (by kernel_rfl) (by kernel_rfl) (fun _ _ _ h => h) (Or.inl ⟨by rfl, ?_⟩) hS ?_
  rotate_left
  · intro W hW
    obtain ⟨s0, s1, s2, s3, s4, s5, _⟩ := HC.out W hW
    go_simp
    try with_reducible rfl
  simp only [List.setIfInBounds_toArray, List.set_cons_zero, List.set_cons_succ]
  refine take_to (i := 2) (v := ?_) 7 rfl rfl (by kernel_rfl) (by kernel_rfl) (by kernel_rfl) (fun _ _ _ h => h) (Or.inl ⟨by rfl, ?_⟩) hS ?_
  rotate_left
  · intro W hW
    obtain ⟨s0, s1, s2, s3, s4, s5, _⟩ := HC.out W hW
    go_simp
    try with_reducible rfl
  simp only [List.setIfInBounds_toArray, List.set_cons_zero, List.set_cons_succ]
  refine take_to (i := 3) (v := ?_) 8 rfl rfl (by kernel_rfl) (by kernel_rfl) (by kernel_rfl) (fun _ _ _ h => h) (Or.inl ⟨by rfl, ?_⟩) hS ?_
  rotate_left
  · intro W hW
    obtain ⟨s0, s1, s2, s3, s4, s5, _⟩ := HC.out W hW
    go_simp
    try with_reducible rfl
  simp only [List.setIfInBounds_toArray, List.set_cons_zero, List.set_cons_succ]
  refine take_to (i := 4) (v := ?_) 9 rfl rfl (by kernel_rfl) (by kernel_rfl) (by kernel_rfl) (fun _ _ _ h => h) (Or.inl ⟨by rfl, ?_⟩) hS ?_
  rotate_left
  · intro W hW
    obtain ⟨s0, s1, s2, s3, s4, s5, _⟩ := HC.out W hW
    go_simp
    try with_reducible rfl
  simp only [List.setIfInBounds_toArray, List.set_cons_zero, List.set_cons_succ]
  refine take_to (i := 5) (v := ?_) 10 rfl rfl (by kernel_rfl) (by kernel_rfl) (by kernel_rfl) (fun _ _ _ h => h) (Or.inl ⟨by rfl, ?_⟩) hS ?_
  rotate_left
  · intro W hW
    obtain ⟨s0, s1, s2, s3, s4, s5, _⟩ := HC.out W hW
    go_simp
    try with_reducible rfl
  simp only [List.setIfInBounds_toArray, List.set_cons_zero, List.set_cons_succ]
  refine take_to (i := 7) (v := ?_) 12 rfl rfl (by kernel_rfl) (by kernel_rfl) (by kernel_rfl) (fun _ _ _ h => h) (Or.inl ⟨by rfl, ?_⟩) hS ?_
  rotate_left
  · intro W hW
    obtain ⟨s0, s1, s2, s3, s4, s5, _⟩ := HC.out W hW
    go_simp
    try with_reducible rfl
  simp only [List.setIfInBounds_toArray, List.set_cons_zero, List.set_cons_succ]
  refine take_to (i := 8) (v := ?_) 13 rfl rfl (by kernel_rfl) (by kernel_rfl) (by kernel_rfl) (fun _ _ _ h => h) (Or.inl ⟨by rfl, ?_⟩) hS ?_
  rotate_left
  · intro W hW
    obtain ⟨s0, s1, s2, s3, s4, s5, _⟩ := HC.out W hW
    go_simp
    try with_reducible rfl
  simp only [List.setIfInBounds_toArray, List.set_cons_zero, List.set_cons_succ]
  refine wpAnyH_ready (rs := [1]) (by kernel_rfl) (by simp) ?_
  refine AllReadyH.cons rfl (fun K hK => ?_) AllReadyH.nil
  go_simp
  obtain ⟨_, _, _, _, _, _, bw⟩ := HC.out _ hB0
  refine (ownless_any y _).mono ?_
  rintro e w1 ⟨rfl, hb1⟩
  replace hb1 := ext_trans hB0 hb1
  clear bw
  refine hK.out _ _ hb1 fun hS => ?_
  clear hK K
  refine wpAnyH_ready (rs := [6]) (by kernel_rfl) (by simp) ?_
  refine AllReadyH.cons rfl (fun K hK => ?_) AllReadyH.nil
  go_simp
  obtain ⟨_, _, _, _, _, _, bw⟩ := HC.out _ hb1
  refine (or_any x.a1 x.a3 x.n1 x.c1 x.n3 x.c3 x.xs x.zs _ (hx.row.r1.below bw) (hx.row.r3.below bw) (by omega)).mono ?_
  rintro e w2 ⟨so, k, co, rfl, hown, hb2⟩
  have hk : k ≤ 2000 := by
    have h0 := hown.1
    have h1 := mrg_len true true true x.xs x.zs
    rw [hx.row.r1.len, hx.row.r3.len] at h1
    omega
  have hrow := hown.row
  clear hown
  replace hb2 := ext_trans hb1 hb2
  clear bw
  refine hK.out _ _ hb2 fun hS => ?_
  clear hK K
  refine take_to (i := 9) (v := ?_) 14 rfl rfl (by kernel_rfl) (by kernel_rfl) (by kernel_rfl) (fun _ _ _ h => h) (Or.inl ⟨by rfl, ?_⟩) hS ?_
  rotate_left
  · intro W hW
    obtain ⟨s0, s1, s2, s3, s4, s5, _⟩ := HC.out W hW
    go_simp
    try with_reducible rfl
  simp only [List.setIfInBounds_toArray, List.set_cons_zero, List.set_cons_succ]
  refine wpAnyH_ready (rs := [10]) (by kernel_rfl) (by simp) ?_
  refine AllReadyH.cons rfl (fun K hK => ?_) AllReadyH.nil
  go_simp
  obtain ⟨_, _, _, _, _, _, bw⟩ := HC.out _ hb2
  refine (flowsS_any y.opened (⟨so, k, co, mrg true true true x.xs x.zs, x.a2, x.n2, x.c2, x.ys, none, 0, 0, []⟩ : Sv) _ (hy.row.below bw).opened ⟨hrow, hx.row.r2.below bw, RowW.nil _⟩ (by show y.n1 + k ≤ _; omega) (by show x.n2 + y.n2 ≤ _; omega)).mono ?_
  rintro e w3 ⟨rfl, hb3⟩
  rw [show _ = q from bool_is (sees_iff rfl hx.s1 hx.s2 hx.s3 hy.s1 hy.s2 so k co) hq.out]
  replace hb3 := ext_trans hb2 hb3
  clear bw
  refine hK.out _ _ hb3 fun hS => ?_
  clear hK K
  refine take_to (i := 11) (v := ?_) 4 rfl rfl (by kernel_rfl) (by kernel_rfl) (by kernel_rfl) (fun _ _ _ h => h) (Or.inl ⟨by rfl, ?_⟩) hS ?_
  rotate_left
  · intro W hW
    obtain ⟨s0, s1, s2, s3, s4, s5, _⟩ := HC.out W hW
    go_simp
    try with_reducible rfl
  simp only [List.setIfInBounds_toArray, List.set_cons_zero, List.set_cons_succ]
  refine wpAnyH_done (by kernel_rfl) ?_ _
  refine NoPanic.normal ?_
  go_wp2_with fail
  go_ret
  obtain ⟨_, _, _, _, _, _, bw⟩ := HC.out _ hb3
  exact ⟨rfl, bw⟩

set_option maxHeartbeats 4000000 in
theorem turns2_is (q : Bool) {x y : Sv} (hq : Hid (q = true ↔ TurnsP x y)) (w : World) (hx : Sm x w) (hy : Sm y w) :
    Calls Try.prog 26 #[.agg #[.slice x.a1 x.n1 x.c1, .slice x.a2 x.n2 x.c2, .slice x.a3 x.n3 x.c3], .agg #[.slice y.a1 y.n1 y.c1, .slice y.a2 y.n2 y.c2, .slice y.a3 y.n3 y.c3]] w fun e w' => e = .returned (.bool q) ∧ Below w.heap.size w w' := by
  have HC : Hid _ := two_sv w x y
  have l1 := hx.l1
  have l2 := hx.l2
  have l3 := hx.l3
  have k1 := hy.l1
  have k2 := hy.l2
  have k3 := hy.l3
  go_enter Try.func26, Try.ntmps26
  go_wp2_with fail
  obtain ⟨W1, hW1⟩ : ∃ V, V = (w.alloc (Obj.cells #[.slice x.a1 x.n1 x.c1, .slice x.a2 x.n2 x.c2, .slice x.a3 x.n3 x.c3] 27)).alloc (Obj.cells #[.slice y.a1 y.n1 y.c1, .slice y.a2 y.n2 y.c2, .slice y.a3 y.n3 y.c3] 27) := ⟨_, rfl⟩
  rw [← hW1] at HC ⊢
  clear hW1
  have hB0 : Below W1.heap.size W1 W1.drew := ext_drew _
  refine wp_region_noPanic ?_
  refine wp_region_held_drew (S := fun W => Below W1.heap.size W1 W) (by kernel_rfl) hB0 fun hS => ?_
  refine take_to (i := 0) (v := ?_) 5 rfl rfl (by kernel_rfl) (by kernel_rfl) (by kernel_rfl) (fun _ _ _ h => h) (Or.inl ⟨by rfl, ?_⟩) hS ?_
  rotate_left
  · intro W hW
    obtain ⟨s0, s1, s2, s3, s4, s5, _⟩ := HC.out W hW
    go_simp
    try with_reducible rfl
  simp only [List.setIfInBounds_toArray, List.set_cons_zero, List.set_cons_succ]
  refine take_to (i := 1) (v := ?_) 6 rfl rfl (by kernel_rfl) (by kernel_rfl) (by kernel_rfl) (fun _ _ _ h => h) (Or.inl ⟨by rfl, ?_⟩) hS ?_
  rotate_left
  · intro W hW
    obtain ⟨s0, s1, s2, s3, s4, s5, _⟩ := HC.out W hW
    go_simp
    try with_reducible rfl
  simp only [List.setIfInBounds_toArray, List.set_cons_zero, List.set_cons_succ]
  refine take_to (i := 2) (v := ?_) 7 rfl rfl (by kernel_rfl) (by kernel_rfl) (by kernel_rfl) (fun _ _ _ h => h) (Or.inl ⟨by rfl, ?_⟩) hS ?_
  rotate_left
  · intro W hW
    obtain ⟨s0, s1, s2, s3, s4, s5, _⟩ := HC.out W hW
    go_simp
    try with_reducible rfl
  simp only [List.setIfInBounds_toArray, List.set_cons_zero, List.set_cons_succ]
  refine take_to (i := 3) (v := ?_) 8 rfl rfl (by kernel_rfl) (by kernel_rfl) (by kernel_rfl) (fun _ _ _ h => h) (Or.inl ⟨by rfl, ?_⟩) hS ?_
  rotate_left
  · intro W hW
    obtain ⟨s0, s1, s2, s3, s4, s5, _⟩ := HC.out W hW
    go_simp
    try with_reducible rfl
  simp only [List.setIfInBounds_toArray, List.set_cons_zero, List.set_cons_succ]
  refine take_to (i := 4) (v := ?_) 9 rfl rfl (by kernel_rfl) (by kernel_rfl) (by kernel_rfl) (fun _ _ _ h => h) (Or.inl ⟨by rfl, ?_⟩) hS ?_
  rotate_left
  · intro W hW
    obtain ⟨s0, s1, s2, s3, s4, s5, _⟩ := HC.out W hW
    go_simp
    try with_reducible rfl
  simp only [List.setIfInBounds_toArray, List.set_cons_zero, List.set_cons_succ]
  refine take_to (i := 5) (v := ?_) 10 rfl rfl (by kernel_rfl) (by kernel_rfl) (by kernel_rfl) (fun _ _ _ h => h) (Or.inl ⟨by rfl, ?_⟩) hS ?_
  rotate_left
  · intro W hW
    obtain ⟨s0, s1, s2, s3, s4, s5, _⟩ := HC.out W hW
    go_simp
    try with_reducible rfl
  simp only [List.setIfInBounds_toArray, List.set_cons_zero, List.set_cons_succ]
  refine take_to (i := 8) (v := ?_) 13 rfl rfl (by kernel_rfl) (by kernel_rfl) (by kernel_rfl) (fun _ _ _ h => h) (Or.inl ⟨by rfl, ?_⟩) hS ?_
  rotate_left
  · intro W hW
    obtain ⟨s0, s1, s2, s3, s4, s5, _⟩ := HC.out W hW
    go_simp
    try with_reducible rfl
  simp only [List.setIfInBounds_toArray, List.set_cons_zero, List.set_cons_succ]
  refine wpAnyH_ready (rs := [6]) (by kernel_rfl) (by simp) ?_
  refine AllReadyH.cons rfl (fun K hK => ?_) AllReadyH.nil
  go_simp
  obtain ⟨_, _, _, _, _, _, bw⟩ := HC.out _ hB0
  refine (or_any x.a2 x.a3 x.n2 x.c2 x.n3 x.c3 x.ys x.zs _ (hx.row.r2.below bw) (hx.row.r3.below bw) (by omega)).mono ?_
  rintro e w1 ⟨so, k, co, rfl, hown, hb1⟩
  have hk : k ≤ 2000 := by
    have h0 := hown.1
    have h1 := mrg_len true true true x.ys x.zs
    rw [hx.row.r2.len, hx.row.r3.len] at h1
    omega
  have hrow := hown.row
  clear hown
  replace hb1 := ext_trans hB0 hb1
  clear bw
  refine hK.out _ _ hb1 fun hS => ?_
  clear hK K
  refine take_to (i := 7) (v := ?_) 12 rfl rfl (by kernel_rfl) (by kernel_rfl) (by kernel_rfl) (fun _ _ _ h => h) (Or.inl ⟨by rfl, ?_⟩) hS ?_
  rotate_left
  · intro W hW
    obtain ⟨s0, s1, s2, s3, s4, s5, _⟩ := HC.out W hW
    go_simp
    try with_reducible rfl
  simp only [List.setIfInBounds_toArray, List.set_cons_zero, List.set_cons_succ]
  refine wpAnyH_ready (rs := [9]) (by kernel_rfl) (by simp) ?_
  refine AllReadyH.cons rfl (fun K hK => ?_) AllReadyH.nil
  go_simp
  obtain ⟨_, _, _, _, _, _, bw⟩ := HC.out _ hb1
  refine (ownless_any y _).mono ?_
  rintro e w2 ⟨rfl, hb2⟩
  replace hrow := hrow.below hb2
  replace hb2 := ext_trans hb1 hb2
  clear bw
  refine hK.out _ _ hb2 fun hS => ?_
  clear hK K
  refine wpAnyH_ready (rs := [10]) (by kernel_rfl) (by simp) ?_
  refine AllReadyH.cons rfl (fun K hK => ?_) AllReadyH.nil
  go_simp
  obtain ⟨_, _, _, _, _, _, bw⟩ := HC.out _ hb2
  refine (flowsS_any (⟨x.a1, x.n1, x.c1, x.xs, so, k, co, mrg true true true x.ys x.zs, none, 0, 0, []⟩ : Sv) y.opened _ ⟨hx.row.r1.below bw, hrow, RowW.nil _⟩ (hy.row.below bw).opened (by show x.n1 + y.n1 ≤ _; omega) (by show y.n2 + k ≤ _; omega)).mono ?_
  rintro e w3 ⟨rfl, hb3⟩
  rw [show _ = q from bool_is (turns_iff rfl hx.s1 hx.s2 hx.s3 hy.s1 hy.s2 so k co) hq.out]
  replace hb3 := ext_trans hb2 hb3
  clear bw
  refine hK.out _ _ hb3 fun hS => ?_
  clear hK K
  refine take_to (i := 11) (v := ?_) 4 rfl rfl (by kernel_rfl) (by kernel_rfl) (by kernel_rfl) (fun _ _ _ h => h) (Or.inl ⟨by rfl, ?_⟩) hS ?_
  rotate_left
  · intro W hW
    obtain ⟨s0, s1, s2, s3, s4, s5, _⟩ := HC.out W hW
    go_simp
    try with_reducible rfl
  simp only [List.setIfInBounds_toArray, List.set_cons_zero, List.set_cons_succ]
  refine wpAnyH_done (by kernel_rfl) ?_ _
  refine NoPanic.normal ?_
  go_wp2_with fail
  go_ret
  obtain ⟨_, _, _, _, _, _, bw⟩ := HC.out _ hb3
  exact ⟨rfl, bw⟩

set_option maxHeartbeats 2000000 in
theorem whyNot2_is (q s : Bool) {x y : Sv} (hq : Hid (q = true ↔ TurnsP x y)) (w : World) (hx : Sm x w) (hy : Sm y w) :
    Calls Try.prog 51 #[.agg #[.slice x.a1 x.n1 x.c1, .slice x.a2 x.n2 x.c2, .slice x.a3 x.n3 x.c3], .agg #[.slice y.a1 y.n1 y.c1, .slice y.a2 y.n2 y.c2, .slice y.a3 y.n3 y.c3], .bool s] w fun e w' => e = .returned (.int .i64 (why2 s q)) ∧ Below w.heap.size w w' := by
  have HC : Hid _ := two_sv w x y
  go_enter Try.func51, Try.ntmps51
  obtain ⟨_, _, _, _, _, _, bw⟩ := HC.out _ (Below.refl _ _)
  cases s
  · go_wp2_with fail
    go_ret
    exact ⟨by simp [why2], bw⟩
  · go_wp2_with fail
    refine (turns2_is q hq _ (hx.below bw) (hy.below bw)).mono ?_
    rintro e w2 ⟨rfl, hb2⟩
    cases q
    · go_wp2_with fail
      go_ret
      exact ⟨by simp [why2], ext_trans bw hb2⟩
    · go_wp2_with fail
      go_ret
      exact ⟨by simp [why2], ext_trans bw hb2⟩

set_option maxHeartbeats 4000000 in
theorem rises2_is (q s : Bool) {x y : Sv} (hq : Hid (q = true ↔ TurnsP x y)) (hs : Hid (s = true ↔ OwnsP x y)) (w : World) (hx : Sm x w) (hy : Sm y w) :
    Calls Try.prog 20 #[.agg #[.slice x.a1 x.n1 x.c1, .slice x.a2 x.n2 x.c2, .slice x.a3 x.n3 x.c3], .agg #[.slice y.a1 y.n1 y.c1, .slice y.a2 y.n2 y.c2, .slice y.a3 y.n3 y.c3]] w fun e w' => e = .returned (.int .i64 (why2 s q)) ∧ Below w.heap.size w w' := by
  have HC : Hid _ := two_sv w x y
  have l1 := hx.l1
  have l2 := hx.l2
  have l3 := hx.l3
  have k1 := hy.l1
  have k2 := hy.l2
  have k3 := hy.l3
  go_enter Try.func20, Try.ntmps20
  go_wp2_with fail
  obtain ⟨W1, hW1⟩ : ∃ V, V = (w.alloc (Obj.cells #[.slice x.a1 x.n1 x.c1, .slice x.a2 x.n2 x.c2, .slice x.a3 x.n3 x.c3] 27)).alloc (Obj.cells #[.slice y.a1 y.n1 y.c1, .slice y.a2 y.n2 y.c2, .slice y.a3 y.n3 y.c3] 27) := ⟨_, rfl⟩
  rw [← hW1] at HC ⊢
  clear hW1
  have hB0 : Below W1.heap.size W1 W1.drew := ext_drew _
  refine wp_region_noPanic ?_
  refine wp_region_held_drew (S := fun W => Below W1.heap.size W1 W) (by kernel_rfl) hB0 fun hS => ?_
  refine take_to (i := 0) (v := ?_) 5 rfl rfl (by kernel_rfl) (by kernel_rfl) (by kernel_rfl) (fun _ _ _ h => h) (Or.inl ⟨by rfl, ?_⟩) hS ?_
  rotate_left
  · intro W hW
    obtain ⟨s0, s1, s2, s3, s4, s5, _⟩ := HC.out W hW
    go_simp
    try with_reducible rfl
  simp only [List.setIfInBounds_toArray, List.set_cons_zero, List.set_cons_succ]
  refine take_to (i := 1) (v := ?_) 6 rfl rfl (by kernel_rfl) (by kernel_rfl) (by kernel_rfl) (fun _ _ _ h => h) (Or.inl ⟨by rfl, ?_⟩) hS ?_
  rotate_left
  · intro W hW
    obtain ⟨s0, s1, s2, s3, s4, s5, _⟩ := HC.out W hW
    go_simp
    try with_reducible rfl
  simp only [List.setIfInBounds_toArray, List.set_cons_zero, List.set_cons_succ]
  refine take_to (i := 2) (v := ?_) 7 rfl rfl (by kernel_rfl) (by kernel_rfl) (by kernel_rfl) (fun _ _ _ h => h) (Or.inl ⟨by rfl, ?_⟩) hS ?_
  rotate_left
  · intro W hW
    obtain ⟨s0, s1, s2, s3, s4, s5, _⟩ := HC.out W hW
    go_simp
    try with_reducible rfl
  simp only [List.setIfInBounds_toArray, List.set_cons_zero, List.set_cons_succ]
  refine take_to (i := 3) (v := ?_) 8 rfl rfl (by kernel_rfl) (by kernel_rfl) (by kernel_rfl) (fun _ _ _ h => h) (Or.inl ⟨by rfl, ?_⟩) hS ?_
  rotate_left
  · intro W hW
    obtain ⟨s0, s1, s2, s3, s4, s5, _⟩ := HC.out W hW
    go_simp
    try with_reducible rfl
  simp only [List.setIfInBounds_toArray, List.set_cons_zero, List.set_cons_succ]
  refine take_to (i := 4) (v := ?_) 9 rfl rfl (by kernel_rfl) (by kernel_rfl) (by kernel_rfl) (fun _ _ _ h => h) (Or.inl ⟨by rfl, ?_⟩) hS ?_
  rotate_left
  · intro W hW
    obtain ⟨s0, s1, s2, s3, s4, s5, _⟩ := HC.out W hW
    go_simp
    try with_reducible rfl
  simp only [List.setIfInBounds_toArray, List.set_cons_zero, List.set_cons_succ]
  refine take_to (i := 5) (v := ?_) 10 rfl rfl (by kernel_rfl) (by kernel_rfl) (by kernel_rfl) (fun _ _ _ h => h) (Or.inl ⟨by rfl, ?_⟩) hS ?_
  rotate_left
  · intro W hW
    obtain ⟨s0, s1, s2, s3, s4, s5, _⟩ := HC.out W hW
    go_simp
    try with_reducible rfl
  simp only [List.setIfInBounds_toArray, List.set_cons_zero, List.set_cons_succ]
  refine wpAnyH_ready (rs := [6]) (by kernel_rfl) (by simp) ?_
  refine AllReadyH.cons rfl (fun K hK => ?_) AllReadyH.nil
  go_simp
  obtain ⟨_, _, _, _, _, _, bw⟩ := HC.out _ hB0
  refine (in_any y.a3 x.a3 y.n3 y.c3 x.n3 x.c3 y.zs x.zs _ (hy.row.r3.below bw) (hx.row.r3.below bw) (by omega)).mono ?_
  rintro e w1 ⟨rfl, hb1⟩
  rw [show decide (mrg true false false y.zs x.zs = []) = s from bool_is (by rw [decide_eq_true_eq]; exact less_nil hy.s3 hx.s3) hs.out]
  replace hb1 := ext_trans hB0 hb1
  clear bw
  refine hK.out _ _ hb1 fun hS => ?_
  clear hK K
  refine wpAnyH_ready (rs := [7]) (by kernel_rfl) (by simp) ?_
  refine AllReadyH.cons rfl (fun K hK => ?_) AllReadyH.nil
  go_simp
  obtain ⟨_, _, _, _, _, _, bw⟩ := HC.out _ hb1
  refine (whyNot2_is q s hq _ (hx.below bw) (hy.below bw)).mono ?_
  rintro e w2 ⟨rfl, hb2⟩
  replace hb2 := ext_trans hb1 hb2
  clear bw
  refine hK.out _ _ hb2 fun hS => ?_
  clear hK K
  refine take_to (i := 8) (v := ?_) 4 rfl rfl (by kernel_rfl) (by kernel_rfl) (by kernel_rfl) (fun _ _ _ h => h) (Or.inl ⟨by rfl, ?_⟩) hS ?_
  rotate_left
  · intro W hW
    obtain ⟨s0, s1, s2, s3, s4, s5, _⟩ := HC.out W hW
    go_simp
    try with_reducible rfl
  simp only [List.setIfInBounds_toArray, List.set_cons_zero, List.set_cons_succ]
  refine wpAnyH_done (by kernel_rfl) ?_ _
  refine NoPanic.normal ?_
  go_wp2_with fail
  go_ret
  obtain ⟨_, _, _, _, _, _, bw⟩ := HC.out _ hb2
  exact ⟨rfl, bw⟩

theorem zs_zero {x : Sv} {w : World} (hx : x.In w) {s : Bool} (hs : s = true ↔ x.zs = []) : ((x.n3 : Int) == 0) = s := by
  have := hx.r3.len
  refine bool_is (P := x.zs = []) ?_ hs
  rw [← List.length_eq_zero_iff, this]
  simp
set_option maxHeartbeats 2000000 in
theorem makes2_is (q s : Bool) {x y : Sv} (hq : Hid (q = true ↔ TurnsP x y)) (hs : Hid (s = true ↔ y.zs = [])) (w : World) (hx : Sm x w) (hy : Sm y w) :
    Calls Try.prog 22 #[.agg #[.slice x.a1 x.n1 x.c1, .slice x.a2 x.n2 x.c2, .slice x.a3 x.n3 x.c3], .agg #[.slice y.a1 y.n1 y.c1, .slice y.a2 y.n2 y.c2, .slice y.a3 y.n3 y.c3]] w fun e w' => e = .returned (.int .i64 (why2 s q)) ∧ Below w.heap.size w w' := by
  have HC : Hid _ := two_sv w x y
  have hz : ((y.n3 : Int) == 0) = s := zs_zero hy.row hs.out
  have k3 := hy.l3
  go_enter Try.func22, Try.ntmps22
  obtain ⟨_, _, _, _, _, _, bw⟩ := HC.out _ (Below.refl _ _)
  go_wp2_with fail
  refine (whyNot2_is q s hq _ (hx.below bw) (hy.below bw)).mono ?_
  rintro e w2 ⟨rfl, hb2⟩
  go_wp2_with fail
  go_ret
  exact ⟨rfl, ext_trans bw hb2⟩
end Go.Proofs.Ytdoemkncgfgkhaa
