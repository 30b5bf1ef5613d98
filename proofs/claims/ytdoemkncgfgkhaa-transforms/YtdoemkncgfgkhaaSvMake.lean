/- What Join and Add of labels of sets answer, and the document's own: contracts. -/
import Derived.Test.YtdoemkncgfgkhaaSvRead
namespace Go.Proofs.Ytdoemkncgfgkhaa
open Go.RowKit
set_option maxRecDepth 100000

theorem join_sv (w : World) (x y : Sv) : ∀ W, Below (((w.alloc (Obj.cells #[.slice x.a1 x.n1 x.c1, .slice x.a2 x.n2 x.c2, .slice x.a3 x.n3 x.c3] 27)).alloc (Obj.cells #[.slice y.a1 y.n1 y.c1, .slice y.a2 y.n2 y.c2, .slice y.a3 y.n3 y.c3] 27)).alloc (Obj.cells #[.slice none 0 0, .slice none 0 0, .slice none 0 0] 27)).heap.size (((w.alloc (Obj.cells #[.slice x.a1 x.n1 x.c1, .slice x.a2 x.n2 x.c2, .slice x.a3 x.n3 x.c3] 27)).alloc (Obj.cells #[.slice y.a1 y.n1 y.c1, .slice y.a2 y.n2 y.c2, .slice y.a3 y.n3 y.c3] 27)).alloc (Obj.cells #[.slice none 0 0, .slice none 0 0, .slice none 0 0] 27)) W →
    (W.cell? ⟨w.heap.size, 0, none⟩ = some (.slice x.a1 x.n1 x.c1) ∧ W.cell? ⟨w.heap.size, 1, none⟩ = some (.slice x.a2 x.n2 x.c2) ∧ W.cell? ⟨w.heap.size, 2, none⟩ = some (.slice x.a3 x.n3 x.c3) ∧ W.cell? ⟨w.heap.size + 1, 0, none⟩ = some (.slice y.a1 y.n1 y.c1) ∧ W.cell? ⟨w.heap.size + 1, 1, none⟩ = some (.slice y.a2 y.n2 y.c2) ∧ W.cell? ⟨w.heap.size + 1, 2, none⟩ = some (.slice y.a3 y.n3 y.c3)) ∧ W.heap[w.heap.size + 1 + 1]? = some (.cells #[.slice none 0 0, .slice none 0 0, .slice none 0 0] 27 (0, 0)) ∧ Below w.heap.size w W := fun W h => by
  obtain ⟨h0, h1, h2, h3, h4, h5, h6⟩ := two_sv w x y W (ext_trans (below_alloc _ _) h)
  exact ⟨⟨h0, h1, h2, h3, h4, h5⟩, by rw [h.block _ (by simp)]; exact sv_heap_new_at _ _ _ (by simp), h6⟩
theorem put3_cell {W : World} {R : Nat} {p : Addr} {v : Value} (h : W.cell? p = some v) (hne : p.block ≠ R) (x : Sv) : (put3 W R x).cell? p = some v :=
  (sv_grown_set _ _ _ _).cell ((sv_grown_set _ _ _ _).cell ((sv_grown_set _ _ _ _).cell h (by simpa using hne)) (by simpa using hne)) (by simpa using hne)
theorem add_sv (w : World) (x : Sv) (c : Int) (hc : 0 ≤ c ∧ c < 65536) : ∀ W, Below (((w.alloc (Obj.cells #[.slice x.a1 x.n1 x.c1, .slice x.a2 x.n2 x.c2, .slice x.a3 x.n3 x.c3] 27)).alloc (Obj.cells #[.slice none 0 0, .slice none 0 0, .slice none 0 0] 27)).alloc (Obj.cells #[.int .u16 c] 38)).heap.size (((w.alloc (Obj.cells #[.slice x.a1 x.n1 x.c1, .slice x.a2 x.n2 x.c2, .slice x.a3 x.n3 x.c3] 27)).alloc (Obj.cells #[.slice none 0 0, .slice none 0 0, .slice none 0 0] 27)).alloc (Obj.cells #[.int .u16 c] 38)) W →
    (W.cell? ⟨w.heap.size, 0, none⟩ = some (.slice x.a1 x.n1 x.c1) ∧ W.cell? ⟨w.heap.size, 1, none⟩ = some (.slice x.a2 x.n2 x.c2) ∧ W.cell? ⟨w.heap.size, 2, none⟩ = some (.slice x.a3 x.n3 x.c3)) ∧ W.heap[w.heap.size + 1]? = some (.cells #[.slice none 0 0, .slice none 0 0, .slice none 0 0] 27 (0, 0)) ∧ RowW W (some ⟨w.heap.size + 1 + 1, 0, none⟩) 1 1 [c] ∧ Below w.heap.size w W := fun W h => by
  obtain ⟨h0, h1, h2, h6⟩ := one_sv w x W (ext_trans (sv_two_allocs _ _ _) h)
  exact ⟨⟨h0, h1, h2⟩, by rw [(ext_trans (below_alloc _ _) h).block _ (by simp)]; exact sv_heap_new_at _ _ _ (by simp), (roww_lit_at _ _ (by simp) 38 [c] 1 rfl (by omega) (Wrd.one hc)).below h, h6⟩

set_option maxHeartbeats 4000000 in
theorem joinS_any (x y : Sv) (w : World) (hx : x.In w) (hy : y.In w) (h1 : x.n1 + y.n1 ≤ 70368744177664) (h2 : x.n2 + y.n2 ≤ 70368744177664) :
    Calls Try.prog 32 #[.agg #[.slice x.a1 x.n1 x.c1, .slice x.a2 x.n2 x.c2, .slice x.a3 x.n3 x.c3], .agg #[.slice y.a1 y.n1 y.c1, .slice y.a2 y.n2 y.c2, .slice y.a3 y.n3 y.c3]] w fun e w' => ∃ r : Sv, e = .returned (.agg #[.slice r.a1 r.n1 r.c1, .slice r.a2 r.n2 r.c2, .slice r.a3 r.n3 r.c3]) ∧ r.In w' ∧ (r.xs = mrg true true true x.xs y.xs ∧ r.ys = mrg false true false x.ys y.ys ∧ r.zs = []) ∧ (r.n1 ≤ x.n1 + y.n1 ∧ r.n2 ≤ x.n2 + y.n2 ∧ r.n3 = 0) ∧ Below w.heap.size w w' := by
  have HC : Hid _ := join_sv w x y
  have HL : Hid (x.xs.length = x.n1 ∧ x.ys.length = x.n2 ∧ x.zs.length = x.n3) := ⟨hx.r1.len, hx.r2.len, hx.r3.len⟩
  have HM : Hid (y.xs.length = y.n1 ∧ y.ys.length = y.n2 ∧ y.zs.length = y.n3) := ⟨hy.r1.len, hy.r2.len, hy.r3.len⟩
  go_enter Try.func32, Try.ntmps32
  go_wp2_with fail
  obtain ⟨W1, hW1⟩ : ∃ V, V = ((w.alloc (Obj.cells #[.slice x.a1 x.n1 x.c1, .slice x.a2 x.n2 x.c2, .slice x.a3 x.n3 x.c3] 27)).alloc (Obj.cells #[.slice y.a1 y.n1 y.c1, .slice y.a2 y.n2 y.c2, .slice y.a3 y.n3 y.c3] 27)).alloc (Obj.cells #[.slice none 0 0, .slice none 0 0, .slice none 0 0] 27) := ⟨_, rfl⟩
  rw [← hW1] at HC ⊢
  have hR0 : w.heap.size + 1 + 1 < W1.heap.size := by rw [hW1]; simp
  have HR : Hid (w.heap.size + 1 + 1 < W1.heap.size) := hR0
  clear hW1 hR0
  have hb0 : Below W1.heap.size W1 W1.drew := ext_drew _
  refine wp_region_noPanic ?_
  refine wp_region_held_drew (S := fun W => W.cell? ⟨w.heap.size, 0, none⟩ = some (.slice x.a1 x.n1 x.c1) ∧ W.cell? ⟨w.heap.size, 1, none⟩ = some (.slice x.a2 x.n2 x.c2) ∧ W.cell? ⟨w.heap.size, 2, none⟩ = some (.slice x.a3 x.n3 x.c3) ∧ W.cell? ⟨w.heap.size + 1, 0, none⟩ = some (.slice y.a1 y.n1 y.c1) ∧ W.cell? ⟨w.heap.size + 1, 1, none⟩ = some (.slice y.a2 y.n2 y.c2) ∧ W.cell? ⟨w.heap.size + 1, 2, none⟩ = some (.slice y.a3 y.n3 y.c3)) (by kernel_rfl) (HC.out _ hb0).1 fun hS => ?_
  refine take_to (i := 0) (v := ?_) 5 rfl rfl (by kernel_rfl) (by kernel_rfl) (by kernel_rfl) (fun _ _ _ h => h) (Or.inl ⟨by rfl, ?_⟩) hS ?_
  rotate_left
  · intro W hW
    obtain ⟨s0, s1, s2, s3, s4, s5⟩ := hW
    go_simp
    try with_reducible rfl
  simp only [List.setIfInBounds_toArray, List.set_cons_zero, List.set_cons_succ]
  refine take_to (i := 1) (v := ?_) 6 rfl rfl (by kernel_rfl) (by kernel_rfl) (by kernel_rfl) (fun _ _ _ h => h) (Or.inl ⟨by rfl, ?_⟩) hS ?_
  rotate_left
  · intro W hW
    obtain ⟨s0, s1, s2, s3, s4, s5⟩ := hW
    go_simp
    try with_reducible rfl
  simp only [List.setIfInBounds_toArray, List.set_cons_zero, List.set_cons_succ]
  refine take_to (i := 2) (v := ?_) 7 rfl rfl (by kernel_rfl) (by kernel_rfl) (by kernel_rfl) (fun _ _ _ h => h) (Or.inl ⟨by rfl, ?_⟩) hS ?_
  rotate_left
  · intro W hW
    obtain ⟨s0, s1, s2, s3, s4, s5⟩ := hW
    go_simp
    try with_reducible rfl
  simp only [List.setIfInBounds_toArray, List.set_cons_zero, List.set_cons_succ]
  refine take_to (i := 3) (v := ?_) 8 rfl rfl (by kernel_rfl) (by kernel_rfl) (by kernel_rfl) (fun _ _ _ h => h) (Or.inl ⟨by rfl, ?_⟩) hS ?_
  rotate_left
  · intro W hW
    obtain ⟨s0, s1, s2, s3, s4, s5⟩ := hW
    go_simp
    try with_reducible rfl
  simp only [List.setIfInBounds_toArray, List.set_cons_zero, List.set_cons_succ]
  refine take_to (i := 5) (v := ?_) 10 rfl rfl (by kernel_rfl) (by kernel_rfl) (by kernel_rfl) (fun _ _ _ h => h) (Or.inl ⟨by rfl, ?_⟩) hS ?_
  rotate_left
  · intro W hW
    obtain ⟨s0, s1, s2, s3, s4, s5⟩ := hW
    go_simp
    try with_reducible rfl
  simp only [List.setIfInBounds_toArray, List.set_cons_zero, List.set_cons_succ]
  refine take_to (i := 6) (v := ?_) 11 rfl rfl (by kernel_rfl) (by kernel_rfl) (by kernel_rfl) (fun _ _ _ h => h) (Or.inl ⟨by rfl, ?_⟩) hS ?_
  rotate_left
  · intro W hW
    obtain ⟨s0, s1, s2, s3, s4, s5⟩ := hW
    go_simp
    try with_reducible rfl
  simp only [List.setIfInBounds_toArray, List.set_cons_zero, List.set_cons_succ]
  refine take_to (i := 7) (v := ?_) 12 rfl rfl (by kernel_rfl) (by kernel_rfl) (by kernel_rfl) (fun _ _ _ h => h) (Or.inl ⟨by rfl, ?_⟩) hS ?_
  rotate_left
  · intro W hW
    obtain ⟨s0, s1, s2, s3, s4, s5⟩ := hW
    go_simp
    try with_reducible rfl
  simp only [List.setIfInBounds_toArray, List.set_cons_zero, List.set_cons_succ]
  refine take_to (i := 8) (v := ?_) 13 rfl rfl (by kernel_rfl) (by kernel_rfl) (by kernel_rfl) (fun _ _ _ h => h) (Or.inl ⟨by rfl, ?_⟩) hS ?_
  rotate_left
  · intro W hW
    obtain ⟨s0, s1, s2, s3, s4, s5⟩ := hW
    go_simp
    try with_reducible rfl
  simp only [List.setIfInBounds_toArray, List.set_cons_zero, List.set_cons_succ]
  refine wpAnyH_ready (rs := [4]) (by kernel_rfl) (by simp) ?_
  refine AllReadyH.cons rfl (fun K hK => ?_) AllReadyH.nil
  go_simp
  obtain ⟨_, _, bw⟩ := HC.out _ hb0
  refine (or_any x.a1 y.a1 x.n1 x.c1 y.n1 y.c1 x.xs y.xs _ (hx.r1.below bw) (hy.r1.below bw) h1).mono ?_
  rintro e w1 ⟨so1, k1, co1, rfl, hown1, hb1⟩
  have hk1 := hown1.1
  have HK1 : Hid _ := hk1
  have hrow1 := hown1.row
  have hne1 := ownw_ne hown1 (show w.heap.size + 1 + 1 < _ from Nat.lt_of_lt_of_le HR.out hb0.size)
  clear hown1 hk1
  replace hb1 := ext_trans hb0 hb1
  refine hK.out _ _ (HC.out _ hb1).1 fun hS => ?_
  clear hK K
  refine wpAnyH_ready (rs := [9]) (by kernel_rfl) (by simp) ?_
  refine AllReadyH.cons rfl (fun K hK => ?_) AllReadyH.nil
  go_simp
  obtain ⟨_, _, bw⟩ := HC.out _ hb1
  refine (and_any x.a2 y.a2 x.n2 x.c2 y.n2 y.c2 x.ys y.ys _ (hx.r2.below bw) (hy.r2.below bw) h2).mono ?_
  rintro e w2 ⟨so2, k2, co2, rfl, hown2, hb2⟩
  have hk2 := hown2.1
  have HK2 : Hid _ := hk2
  have hrow2 := hown2.row
  have hne2 := ownw_ne hown2 (show w.heap.size + 1 + 1 < _ from Nat.lt_of_lt_of_le HR.out hb1.size)
  clear hown2 hk2
  replace hrow1 := hrow1.below hb2
  replace hb2 := ext_trans hb1 hb2
  refine hK.out _ _ (HC.out _ hb2).1 fun hS => ?_
  clear hK K
  refine take_to (i := 10) (v := ?_) 15 rfl rfl (by kernel_rfl) (by kernel_rfl) (by kernel_rfl) (fun _ _ _ h => h) (Or.inl ⟨by rfl, ?_⟩) hS ?_
  rotate_left
  · intro W hW
    obtain ⟨s0, s1, s2, s3, s4, s5⟩ := hW
    go_simp
    try with_reducible rfl
  simp only [List.setIfInBounds_toArray, List.set_cons_zero, List.set_cons_succ]
  refine wpAnyH_ready (rs := [11]) (by kernel_rfl) (by simp) ?_
  refine AllReadyH.cons rfl (fun K hK => ?_) AllReadyH.nil
  obtain ⟨⟨s0, s1, s2, s3, s4, s5⟩, hR, bw⟩ := HC.out _ hb2
  have r0 := sv_cell_of_heap hR 0 _ rfl
  have r1 := sv_cell_of_heap hR 1 _ rfl
  have r2 := sv_cell_of_heap hR 2 _ rfl
  have f0 : w2.frozen? ⟨w.heap.size + 1 + 1, 0, none⟩ = false := frozen_of_row w2 _ 0 _ 27 hR
  have f1 : w2.frozen? ⟨w.heap.size + 1 + 1, 1, none⟩ = false := frozen_of_row w2 _ 1 _ 27 hR
  have f2 : w2.frozen? ⟨w.heap.size + 1 + 1, 2, none⟩ = false := frozen_of_row w2 _ 2 _ 27 hR
  go_simp
  have e1 := put3_heap hR ⟨so1, k1, co1, mrg true true true x.xs y.xs, so2, k2, co2, mrg false true false x.ys y.ys, none, 0, 0, []⟩
  have e2 : Below w.heap.size w (put3 w2 (w.heap.size + 1 + 1) ⟨so1, k1, co1, mrg true true true x.xs y.xs, so2, k2, co2, mrg false true false x.ys y.ys, none, 0, 0, []⟩) := put3_below bw (by omega) _
  have e3 : RowW (put3 w2 (w.heap.size + 1 + 1) ⟨so1, k1, co1, mrg true true true x.xs y.xs, so2, k2, co2, mrg false true false x.ys y.ys, none, 0, 0, []⟩) so1 k1 co1 _ := put3_row hrow1 hne1
  have e4 : RowW (put3 w2 (w.heap.size + 1 + 1) ⟨so1, k1, co1, mrg true true true x.xs y.xs, so2, k2, co2, mrg false true false x.ys y.ys, none, 0, 0, []⟩) so2 k2 co2 _ := put3_row hrow2 hne2
  have hS2 : (put3 w2 (w.heap.size + 1 + 1) ⟨so1, k1, co1, mrg true true true x.xs y.xs, so2, k2, co2, mrg false true false x.ys y.ys, none, 0, 0, []⟩).cell? ⟨w.heap.size, 0, none⟩ = some (.slice x.a1 x.n1 x.c1) ∧ (put3 w2 (w.heap.size + 1 + 1) ⟨so1, k1, co1, mrg true true true x.xs y.xs, so2, k2, co2, mrg false true false x.ys y.ys, none, 0, 0, []⟩).cell? ⟨w.heap.size, 1, none⟩ = some (.slice x.a2 x.n2 x.c2) ∧ (put3 w2 (w.heap.size + 1 + 1) ⟨so1, k1, co1, mrg true true true x.xs y.xs, so2, k2, co2, mrg false true false x.ys y.ys, none, 0, 0, []⟩).cell? ⟨w.heap.size, 2, none⟩ = some (.slice x.a3 x.n3 x.c3) ∧ (put3 w2 (w.heap.size + 1 + 1) ⟨so1, k1, co1, mrg true true true x.xs y.xs, so2, k2, co2, mrg false true false x.ys y.ys, none, 0, 0, []⟩).cell? ⟨w.heap.size + 1, 0, none⟩ = some (.slice y.a1 y.n1 y.c1) ∧ (put3 w2 (w.heap.size + 1 + 1) ⟨so1, k1, co1, mrg true true true x.xs y.xs, so2, k2, co2, mrg false true false x.ys y.ys, none, 0, 0, []⟩).cell? ⟨w.heap.size + 1, 1, none⟩ = some (.slice y.a2 y.n2 y.c2) ∧ (put3 w2 (w.heap.size + 1 + 1) ⟨so1, k1, co1, mrg true true true x.xs y.xs, so2, k2, co2, mrg false true false x.ys y.ys, none, 0, 0, []⟩).cell? ⟨w.heap.size + 1, 2, none⟩ = some (.slice y.a3 y.n3 y.c3) := ⟨put3_cell s0 (by simp <;> omega) _, put3_cell s1 (by simp <;> omega) _, put3_cell s2 (by simp <;> omega) _, put3_cell s3 (by simp <;> omega) _, put3_cell s4 (by simp <;> omega) _, put3_cell s5 (by simp <;> omega) _⟩
  change K _ (put3 w2 (w.heap.size + 1 + 1) ⟨so1, k1, co1, mrg true true true x.xs y.xs, so2, k2, co2, mrg false true false x.ys y.ys, none, 0, 0, []⟩)
  obtain ⟨V, hV⟩ : ∃ V, V = put3 w2 (w.heap.size + 1 + 1) ⟨so1, k1, co1, mrg true true true x.xs y.xs, so2, k2, co2, mrg false true false x.ys y.ys, none, 0, 0, []⟩ := ⟨_, rfl⟩
  rw [← hV] at e1 e2 e3 e4 hS2 ⊢
  clear hV
  refine hK.out _ _ hS2 fun _ => ?_
  clear hK K
  refine wpAnyH_done (by kernel_rfl) ?_ _
  refine NoPanic.normal ?_
  go_wp2_with fail
  refine bodyPost_ret (ret_sv rfl _ _ (w.heap.size + 1 + 1) ⟨so1, k1, co1, mrg true true true x.xs y.xs, so2, k2, co2, mrg false true false x.ys y.ys, none, 0, 0, []⟩ rfl e1) rfl ?_
  exact ⟨_, rfl, ⟨e3, e4, RowW.nil _⟩, ⟨rfl, rfl, rfl⟩, ⟨by show k1 ≤ _; rw [← HK1.out, ← HL.out.1, ← HM.out.1]; exact mrg_len _ _ _ _ _, by show k2 ≤ _; rw [← HK2.out, ← HL.out.2.1, ← HM.out.2.1]; exact mrg_len _ _ _ _ _, rfl⟩, e2⟩

set_option maxHeartbeats 4000000 in
theorem addS_any (x : Sv) (c : Int) (hc : 0 ≤ c ∧ c < 65536) (w : World) (hx : x.In w) (h1 : x.n1 + 1 ≤ 70368744177664) (h2 : x.n2 + 1 ≤ 70368744177664) (h3 : x.n3 + 1 ≤ 70368744177664) :
    Calls Try.prog 35 #[.agg #[.slice x.a1 x.n1 x.c1, .slice x.a2 x.n2 x.c2, .slice x.a3 x.n3 x.c3], .int .u16 c] w fun e w' => ∃ r : Sv, e = .returned (.agg #[.slice r.a1 r.n1 r.c1, .slice r.a2 r.n2 r.c2, .slice r.a3 r.n3 r.c3]) ∧ r.In w' ∧ (r.xs = mrg true false false x.xs [c] ∧ r.ys = mrg true false false x.ys [c] ∧ r.zs = mrg true true true x.zs [c]) ∧ (r.n1 ≤ x.n1 + 1 ∧ r.n2 ≤ x.n2 + 1 ∧ r.n3 ≤ x.n3 + 1) ∧ Below w.heap.size w w' := by
  have HC : Hid _ := add_sv w x c hc
  have HL : Hid (x.xs.length = x.n1 ∧ x.ys.length = x.n2 ∧ x.zs.length = x.n3) := ⟨hx.r1.len, hx.r2.len, hx.r3.len⟩
  go_enter Try.func35, Try.ntmps35
  go_wp2_with fail
  obtain ⟨W1, hW1⟩ : ∃ V, V = ((w.alloc (Obj.cells #[.slice x.a1 x.n1 x.c1, .slice x.a2 x.n2 x.c2, .slice x.a3 x.n3 x.c3] 27)).alloc (Obj.cells #[.slice none 0 0, .slice none 0 0, .slice none 0 0] 27)).alloc (Obj.cells #[.int .u16 c] 38) := ⟨_, rfl⟩
  rw [← hW1] at HC ⊢
  have hR0 : w.heap.size + 1 < W1.heap.size := by rw [hW1]; simp
  have HR : Hid (w.heap.size + 1 < W1.heap.size) := hR0
  clear hW1 hR0
  have hb0 : Below W1.heap.size W1 W1.drew := ext_drew _
  refine wp_region_noPanic ?_
  refine wp_region_held_drew (S := fun W => W.cell? ⟨w.heap.size, 0, none⟩ = some (.slice x.a1 x.n1 x.c1) ∧ W.cell? ⟨w.heap.size, 1, none⟩ = some (.slice x.a2 x.n2 x.c2) ∧ W.cell? ⟨w.heap.size, 2, none⟩ = some (.slice x.a3 x.n3 x.c3)) (by kernel_rfl) (HC.out _ hb0).1 fun hS => ?_
  refine take_to (i := 0) (v := ?_) 8 rfl rfl (by kernel_rfl) (by kernel_rfl) (by kernel_rfl) (fun _ _ _ h => h) (Or.inl ⟨by rfl, ?_⟩) hS ?_
  rotate_left
  · intro W hW
    obtain ⟨s0, s1, s2⟩ := hW
    go_simp
    try with_reducible rfl
  simp only [List.setIfInBounds_toArray, List.set_cons_zero, List.set_cons_succ]
  refine take_to (i := 1) (v := ?_) 9 rfl rfl (by kernel_rfl) (by kernel_rfl) (by kernel_rfl) (fun _ _ _ h => h) (Or.inl ⟨by rfl, ?_⟩) hS ?_
  rotate_left
  · intro W hW
    obtain ⟨s0, s1, s2⟩ := hW
    go_simp
    try with_reducible rfl
  simp only [List.setIfInBounds_toArray, List.set_cons_zero, List.set_cons_succ]
  refine take_to (i := 2) (v := ?_) 10 rfl rfl (by kernel_rfl) (by kernel_rfl) (by kernel_rfl) (fun _ _ _ h => h) (Or.inl ⟨by rfl, ?_⟩) hS ?_
  rotate_left
  · intro W hW
    obtain ⟨s0, s1, s2⟩ := hW
    go_simp
    try with_reducible rfl
  simp only [List.setIfInBounds_toArray, List.set_cons_zero, List.set_cons_succ]
  refine take_to (i := 4) (v := ?_) 12 rfl rfl (by kernel_rfl) (by kernel_rfl) (by kernel_rfl) (fun _ _ _ h => h) (Or.inl ⟨by rfl, ?_⟩) hS ?_
  rotate_left
  · intro W hW
    obtain ⟨s0, s1, s2⟩ := hW
    go_simp
    try with_reducible rfl
  simp only [List.setIfInBounds_toArray, List.set_cons_zero, List.set_cons_succ]
  refine take_to (i := 5) (v := ?_) 13 rfl rfl (by kernel_rfl) (by kernel_rfl) (by kernel_rfl) (fun _ _ _ h => h) (Or.inl ⟨by rfl, ?_⟩) hS ?_
  rotate_left
  · intro W hW
    obtain ⟨s0, s1, s2⟩ := hW
    go_simp
    try with_reducible rfl
  simp only [List.setIfInBounds_toArray, List.set_cons_zero, List.set_cons_succ]
  refine take_to (i := 6) (v := ?_) 14 rfl rfl (by kernel_rfl) (by kernel_rfl) (by kernel_rfl) (fun _ _ _ h => h) (Or.inl ⟨by rfl, ?_⟩) hS ?_
  rotate_left
  · intro W hW
    obtain ⟨s0, s1, s2⟩ := hW
    go_simp
    try with_reducible rfl
  simp only [List.setIfInBounds_toArray, List.set_cons_zero, List.set_cons_succ]
  refine take_to (i := 8) (v := ?_) 16 rfl rfl (by kernel_rfl) (by kernel_rfl) (by kernel_rfl) (fun _ _ _ h => h) (Or.inl ⟨by rfl, ?_⟩) hS ?_
  rotate_left
  · intro W hW
    obtain ⟨s0, s1, s2⟩ := hW
    go_simp
    try with_reducible rfl
  simp only [List.setIfInBounds_toArray, List.set_cons_zero, List.set_cons_succ]
  refine take_to (i := 9) (v := ?_) 17 rfl rfl (by kernel_rfl) (by kernel_rfl) (by kernel_rfl) (fun _ _ _ h => h) (Or.inl ⟨by rfl, ?_⟩) hS ?_
  rotate_left
  · intro W hW
    obtain ⟨s0, s1, s2⟩ := hW
    go_simp
    try with_reducible rfl
  simp only [List.setIfInBounds_toArray, List.set_cons_zero, List.set_cons_succ]
  refine take_to (i := 10) (v := ?_) 18 rfl rfl (by kernel_rfl) (by kernel_rfl) (by kernel_rfl) (fun _ _ _ h => h) (Or.inl ⟨by rfl, ?_⟩) hS ?_
  rotate_left
  · intro W hW
    obtain ⟨s0, s1, s2⟩ := hW
    go_simp
    try with_reducible rfl
  simp only [List.setIfInBounds_toArray, List.set_cons_zero, List.set_cons_succ]
  refine wpAnyH_ready (rs := [3]) (by kernel_rfl) (by simp) ?_
  refine AllReadyH.cons rfl (fun K hK => ?_) AllReadyH.nil
  go_simp
  obtain ⟨_, _, hc1, bw⟩ := HC.out _ hb0
  refine (less_set_any x.a1 (some ⟨w.heap.size + 1 + 1, 0, none⟩) x.n1 x.c1 1 1 x.xs [c] _ (hx.r1.below bw) hc1 h1).mono ?_
  rintro e w1 ⟨so1, k1, co1, rfl, hown1, hb1⟩
  have hk1 := hown1.1
  have HK1 : Hid _ := hk1
  have hrow1 := hown1.row
  have hne1 := ownw_ne hown1 (show w.heap.size + 1 < _ from Nat.lt_of_lt_of_le HR.out hb0.size)
  clear hown1 hk1
  replace hb1 := ext_trans hb0 hb1
  refine hK.out _ _ (HC.out _ hb1).1 fun hS => ?_
  clear hK K
  refine wpAnyH_ready (rs := [7]) (by kernel_rfl) (by simp) ?_
  refine AllReadyH.cons rfl (fun K hK => ?_) AllReadyH.nil
  go_simp
  obtain ⟨_, _, hc1, bw⟩ := HC.out _ hb1
  refine (less_set_any x.a2 (some ⟨w.heap.size + 1 + 1, 0, none⟩) x.n2 x.c2 1 1 x.ys [c] _ (hx.r2.below bw) hc1 h2).mono ?_
  rintro e w2 ⟨so2, k2, co2, rfl, hown2, hb2⟩
  have hk2 := hown2.1
  have HK2 : Hid _ := hk2
  have hrow2 := hown2.row
  have hne2 := ownw_ne hown2 (show w.heap.size + 1 < _ from Nat.lt_of_lt_of_le HR.out hb1.size)
  clear hown2 hk2
  replace hrow1 := hrow1.below hb2
  replace hb2 := ext_trans hb1 hb2
  refine hK.out _ _ (HC.out _ hb2).1 fun hS => ?_
  clear hK K
  refine wpAnyH_ready (rs := [11]) (by kernel_rfl) (by simp) ?_
  refine AllReadyH.cons rfl (fun K hK => ?_) AllReadyH.nil
  go_simp
  obtain ⟨_, _, hc1, bw⟩ := HC.out _ hb2
  refine (or_any x.a3 (some ⟨w.heap.size + 1 + 1, 0, none⟩) x.n3 x.c3 1 1 x.zs [c] _ (hx.r3.below bw) hc1 h3).mono ?_
  rintro e w3 ⟨so3, k3, co3, rfl, hown3, hb3⟩
  have hk3 := hown3.1
  have HK3 : Hid _ := hk3
  have hrow3 := hown3.row
  have hne3 := ownw_ne hown3 (show w.heap.size + 1 < _ from Nat.lt_of_lt_of_le HR.out hb2.size)
  clear hown3 hk3
  replace hrow1 := hrow1.below hb3
  replace hrow2 := hrow2.below hb3
  replace hb3 := ext_trans hb2 hb3
  refine hK.out _ _ (HC.out _ hb3).1 fun hS => ?_
  clear hK K
  refine take_to (i := 12) (v := ?_) 20 rfl rfl (by kernel_rfl) (by kernel_rfl) (by kernel_rfl) (fun _ _ _ h => h) (Or.inl ⟨by rfl, ?_⟩) hS ?_
  rotate_left
  · intro W hW
    obtain ⟨s0, s1, s2⟩ := hW
    go_simp
    try with_reducible rfl
  simp only [List.setIfInBounds_toArray, List.set_cons_zero, List.set_cons_succ]
  refine wpAnyH_ready (rs := [13]) (by kernel_rfl) (by simp) ?_
  refine AllReadyH.cons rfl (fun K hK => ?_) AllReadyH.nil
  obtain ⟨⟨s0, s1, s2⟩, hR, _, bw⟩ := HC.out _ hb3
  have r0 := sv_cell_of_heap hR 0 _ rfl
  have r1 := sv_cell_of_heap hR 1 _ rfl
  have r2 := sv_cell_of_heap hR 2 _ rfl
  have f0 : w3.frozen? ⟨w.heap.size + 1, 0, none⟩ = false := frozen_of_row w3 _ 0 _ 27 hR
  have f1 : w3.frozen? ⟨w.heap.size + 1, 1, none⟩ = false := frozen_of_row w3 _ 1 _ 27 hR
  have f2 : w3.frozen? ⟨w.heap.size + 1, 2, none⟩ = false := frozen_of_row w3 _ 2 _ 27 hR
  go_simp
  have e1 := put3_heap hR ⟨so1, k1, co1, mrg true false false x.xs [c], so2, k2, co2, mrg true false false x.ys [c], so3, k3, co3, mrg true true true x.zs [c]⟩
  have e2 : Below w.heap.size w (put3 w3 (w.heap.size + 1) ⟨so1, k1, co1, mrg true false false x.xs [c], so2, k2, co2, mrg true false false x.ys [c], so3, k3, co3, mrg true true true x.zs [c]⟩) := put3_below bw (by omega) _
  have e3 : RowW (put3 w3 (w.heap.size + 1) ⟨so1, k1, co1, mrg true false false x.xs [c], so2, k2, co2, mrg true false false x.ys [c], so3, k3, co3, mrg true true true x.zs [c]⟩) so1 k1 co1 _ := put3_row hrow1 hne1
  have e4 : RowW (put3 w3 (w.heap.size + 1) ⟨so1, k1, co1, mrg true false false x.xs [c], so2, k2, co2, mrg true false false x.ys [c], so3, k3, co3, mrg true true true x.zs [c]⟩) so2 k2 co2 _ := put3_row hrow2 hne2
  have e5 : RowW (put3 w3 (w.heap.size + 1) ⟨so1, k1, co1, mrg true false false x.xs [c], so2, k2, co2, mrg true false false x.ys [c], so3, k3, co3, mrg true true true x.zs [c]⟩) so3 k3 co3 _ := put3_row hrow3 hne3
  have hS2 : (put3 w3 (w.heap.size + 1) ⟨so1, k1, co1, mrg true false false x.xs [c], so2, k2, co2, mrg true false false x.ys [c], so3, k3, co3, mrg true true true x.zs [c]⟩).cell? ⟨w.heap.size, 0, none⟩ = some (.slice x.a1 x.n1 x.c1) ∧ (put3 w3 (w.heap.size + 1) ⟨so1, k1, co1, mrg true false false x.xs [c], so2, k2, co2, mrg true false false x.ys [c], so3, k3, co3, mrg true true true x.zs [c]⟩).cell? ⟨w.heap.size, 1, none⟩ = some (.slice x.a2 x.n2 x.c2) ∧ (put3 w3 (w.heap.size + 1) ⟨so1, k1, co1, mrg true false false x.xs [c], so2, k2, co2, mrg true false false x.ys [c], so3, k3, co3, mrg true true true x.zs [c]⟩).cell? ⟨w.heap.size, 2, none⟩ = some (.slice x.a3 x.n3 x.c3) := ⟨put3_cell s0 (by simp <;> omega) _, put3_cell s1 (by simp <;> omega) _, put3_cell s2 (by simp <;> omega) _⟩
  change K _ (put3 w3 (w.heap.size + 1) ⟨so1, k1, co1, mrg true false false x.xs [c], so2, k2, co2, mrg true false false x.ys [c], so3, k3, co3, mrg true true true x.zs [c]⟩)
  obtain ⟨V, hV⟩ : ∃ V, V = put3 w3 (w.heap.size + 1) ⟨so1, k1, co1, mrg true false false x.xs [c], so2, k2, co2, mrg true false false x.ys [c], so3, k3, co3, mrg true true true x.zs [c]⟩ := ⟨_, rfl⟩
  rw [← hV] at e1 e2 e3 e4 e5 hS2 ⊢
  clear hV
  refine hK.out _ _ hS2 fun _ => ?_
  clear hK K
  refine wpAnyH_done (by kernel_rfl) ?_ _
  refine NoPanic.normal ?_
  go_wp2_with fail
  refine bodyPost_ret (ret_sv rfl _ _ (w.heap.size + 1) ⟨so1, k1, co1, mrg true false false x.xs [c], so2, k2, co2, mrg true false false x.ys [c], so3, k3, co3, mrg true true true x.zs [c]⟩ rfl e1) rfl ?_
  exact ⟨_, rfl, ⟨e3, e4, e5⟩, ⟨rfl, rfl, rfl⟩, ⟨by show k1 ≤ _; rw [← HK1.out, ← HL.out.1]; exact mrg_len _ _ _ _ _, by show k2 ≤ _; rw [← HK2.out, ← HL.out.2.1]; exact mrg_len _ _ _ _ _, by show k3 ≤ _; rw [← HK3.out, ← HL.out.2.2]; exact mrg_len _ _ _ _ _⟩, e2⟩

end Go.Proofs.Ytdoemkncgfgkhaa
