/- What the document's own Split answers: a contract. -/
import Derived.Test.YtdoemkncgfgkhaaTrSplit
namespace Go.Proofs.Ytdoemkncgfgkhaa
open Go.RowKit
set_option maxRecDepth 100000

theorem rsplit_sv (w : World) (d : Int) (a : Option Addr) (n cap : Nat) : ∀ W, Below ((w.alloc (Obj.cells #[.int .u8 d, .slice a n cap] 24)).alloc (Obj.cells #[.slice none 0 0, .slice none 0 0, .slice none 0 0] 27)).heap.size ((w.alloc (Obj.cells #[.int .u8 d, .slice a n cap] 24)).alloc (Obj.cells #[.slice none 0 0, .slice none 0 0, .slice none 0 0] 27)) W →
    (W.cell? ⟨w.heap.size, 0, none⟩ = some (.int .u8 d) ∧ W.cell? ⟨w.heap.size, 1, none⟩ = some (.slice a n cap)) ∧ W.heap[w.heap.size + 1]? = some (.cells #[.slice none 0 0, .slice none 0 0, .slice none 0 0] 27 (0, 0)) ∧ Below w.heap.size w W := fun W h =>
  ⟨⟨by rw [h.cell (by simp <;> omega)]; simp, by rw [h.cell (by simp <;> omega)]; simp⟩, (h.block _ (by simp)).trans (heap_new_at _ _ _ (by simp)), ext_trans (two_allocs _ _ _) h⟩
set_option maxHeartbeats 8000000 in
theorem refSplit_any (d : Int) (a : Option Addr) (n cap : Nat) (xs : List (Int × Int)) (w : World) (hl : Lb w d a n cap xs) :
    Calls Try.prog 13 #[.agg #[.int .u8 d, .slice a n cap]] w fun e w' => ∃ (r : Sv) (E : Int), e = .returned (.tuple #[.agg #[.slice r.a1 r.n1 r.c1, .slice r.a2 r.n2 r.c2, .slice r.a3 r.n3 r.c3], .int .i64 E]) ∧ r.In w' ∧ Hid (SpP d xs r E) ∧ Below w.heap.size w w' := by
  have HC : Hid _ := rsplit_sv w d a n cap
  have hr := hl.row
  have hle := hl.le
  go_enter Try.func13, Try.ntmps13
  go_wp2_with fail
  obtain ⟨W0, hW0⟩ : ∃ V, V = (w.alloc (Obj.cells #[.int .u8 d, .slice a n cap] 24)).alloc (Obj.cells #[.slice none 0 0, .slice none 0 0, .slice none 0 0] 27) := ⟨_, rfl⟩
  rw [← hW0] at HC ⊢
  have hR0 : w.heap.size + 1 < W0.heap.size := by rw [hW0]; simp
  clear hW0
  have hbW := (HC.out _ (Below.refl _ _)).2.2
  refine (refNames_any d a n cap xs _ (hr.below hbW) (by omega)).mono ?_
  rintro e w1 ⟨rfl, hb1⟩
  obtain ⟨q, hq⟩ : ∃ q, nameB d xs = q := ⟨_, rfl⟩
  have HQ : Hid (nameB d xs = q) := hq
  rw [hq]
  clear hq
  obtain ⟨⟨c0, c1⟩, hR1, hbw1⟩ := HC.out _ hb1
  cases q
  · have k0 := cell_of_heap hR1 0 _ rfl
    have k1 := cell_of_heap hR1 1 _ rfl
    have k2 := cell_of_heap hR1 2 _ rfl
    have f0 := frozen_of_row _ _ 0 _ 27 hR1
    have f1 := frozen_of_row _ _ 1 _ 27 hR1
    have f2 := frozen_of_row _ _ 2 _ 27 hR1
    go_wp2_with fail
    refine bodyPost_ret (ret_sv2 rfl _ _ (w.heap.size + 1) Sv.none rfl (put3_heap hR1 Sv.none)) rfl ?_
    exact ⟨Sv.none, 14, rfl, Sv.none_in _, .inr ⟨HQ.out, rfl, rfl⟩, put3_below hbw1 (by omega) Sv.none⟩
  · go_wp2_with fail
    clear c0 c1 hR1 hbw1
    have hB1 := ext_trans hb1 (ext_drew w1)
    refine wp_region_noPanic ?_
    refine wp_region_held_drew (S := fun W => W.cell? ⟨w.heap.size, 0, none⟩ = some (.int .u8 d) ∧ W.cell? ⟨w.heap.size, 1, none⟩ = some (.slice a n cap)) (by kernel_rfl) (HC.out _ hB1).1 fun hS => ?_
    refine take_to (i := 0) (v := ?_) 8 rfl rfl (by kernel_rfl) (by kernel_rfl) (by kernel_rfl) (fun _ _ _ h => h) (Or.inl ⟨by rfl, ?_⟩) hS ?_
    rotate_left
    · intro W hW
      obtain ⟨c0, c1⟩ := hW
      go_simp
      try with_reducible rfl
    simp only [List.setIfInBounds_toArray, List.set_cons_zero, List.set_cons_succ]
    refine take_to (i := 2) (v := ?_) 10 rfl rfl (by kernel_rfl) (by kernel_rfl) (by kernel_rfl) (fun _ _ _ h => h) (Or.inl ⟨by rfl, ?_⟩) hS ?_
    rotate_left
    · intro W hW
      obtain ⟨c0, c1⟩ := hW
      go_simp
      try with_reducible rfl
    simp only [List.setIfInBounds_toArray, List.set_cons_zero, List.set_cons_succ]
    refine take_to (i := 4) (v := ?_) 12 rfl rfl (by kernel_rfl) (by kernel_rfl) (by kernel_rfl) (fun _ _ _ h => h) (Or.inl ⟨by rfl, ?_⟩) hS ?_
    rotate_left
    · intro W hW
      obtain ⟨c0, c1⟩ := hW
      go_simp
      try with_reducible rfl
    simp only [List.setIfInBounds_toArray, List.set_cons_zero, List.set_cons_succ]
    refine wpAnyH_ready (rs := [1]) (by kernel_rfl) (by simp) ?_
    refine AllReadyH.cons rfl (fun K hK => ?_) AllReadyH.nil
    go_simp
    obtain ⟨_, _, bw⟩ := HC.out _ hB1
    refine (levels_any d a n cap xs 4 _ (hr.below bw) (by omega)).mono ?_
    rintro e v1 ⟨so1, k1, co1, rfl, ho1, hv1⟩
    have hne1 := ownw_ne ho1 (show w.heap.size + 1 < _ from Nat.lt_of_lt_of_le hR0 hB1.size)
    have hw1 := ho1.row
    clear ho1 bw
    replace hv1 := ext_trans hB1 hv1
    refine hK.out _ _ (HC.out _ hv1).1 fun hS => ?_
    clear hK K
    refine wpAnyH_ready (rs := [3]) (by kernel_rfl) (by simp) ?_
    refine AllReadyH.cons rfl (fun K hK => ?_) AllReadyH.nil
    go_simp
    obtain ⟨_, _, bw⟩ := HC.out _ hv1
    refine (levels_any d a n cap xs 1 _ (hr.below bw) (by omega)).mono ?_
    rintro e v2 ⟨so2, k2, co2, rfl, ho2, hv2⟩
    have hne2 := ownw_ne ho2 (show w.heap.size + 1 < _ from Nat.lt_of_lt_of_le hR0 hv1.size)
    have hw2 := ho2.row
    clear ho2 bw
    replace hw1 := hw1.below hv2
    replace hv2 := ext_trans hv1 hv2
    refine hK.out _ _ (HC.out _ hv2).1 fun hS => ?_
    clear hK K
    refine wpAnyH_ready (rs := [5]) (by kernel_rfl) (by simp) ?_
    refine AllReadyH.cons rfl (fun K hK => ?_) AllReadyH.nil
    go_simp
    obtain ⟨_, _, bw⟩ := HC.out _ hv2
    refine (levels_any d a n cap xs 0 _ (hr.below bw) (by omega)).mono ?_
    rintro e v3 ⟨so3, k3, co3, rfl, ho3, hv3⟩
    have hne3 := ownw_ne ho3 (show w.heap.size + 1 < _ from Nat.lt_of_lt_of_le hR0 hv2.size)
    have hw3 := ho3.row
    clear ho3 bw
    replace hw1 := hw1.below hv3
    replace hw2 := hw2.below hv3
    replace hv3 := ext_trans hv2 hv3
    refine hK.out _ _ (HC.out _ hv3).1 fun hS => ?_
    clear hK K
    refine take_to (i := 6) (v := ?_) 14 rfl rfl (by kernel_rfl) (by kernel_rfl) (by kernel_rfl) (fun _ _ _ h => h) (Or.inl ⟨by rfl, ?_⟩) hS ?_
    rotate_left
    · intro W hW
      obtain ⟨c0, c1⟩ := hW
      go_simp
      try with_reducible rfl
    simp only [List.setIfInBounds_toArray, List.set_cons_zero, List.set_cons_succ]
    refine wpAnyH_ready (rs := [7]) (by kernel_rfl) (by simp) ?_
    refine AllReadyH.cons rfl (fun K hK => ?_) AllReadyH.nil
    obtain ⟨⟨s0, s1⟩, hR3, bw⟩ := HC.out _ hv3
    have r0 := sv_cell_of_heap hR3 0 _ rfl
    have r1 := sv_cell_of_heap hR3 1 _ rfl
    have r2 := sv_cell_of_heap hR3 2 _ rfl
    have f0 : v3.frozen? ⟨w.heap.size + 1, 0, none⟩ = false := frozen_of_row v3 _ 0 _ 27 hR3
    have f1 : v3.frozen? ⟨w.heap.size + 1, 1, none⟩ = false := frozen_of_row v3 _ 1 _ 27 hR3
    have f2 : v3.frozen? ⟨w.heap.size + 1, 2, none⟩ = false := frozen_of_row v3 _ 2 _ 27 hR3
    go_simp
    have e1 := put3_heap hR3 (⟨so1, k1, co1, starsL 4 xs, so2, k2, co2, starsL 1 xs, so3, k3, co3, starsL 0 xs⟩ : Sv)
    have e2 : Below w.heap.size w (put3 v3 (w.heap.size + 1) (⟨so1, k1, co1, starsL 4 xs, so2, k2, co2, starsL 1 xs, so3, k3, co3, starsL 0 xs⟩ : Sv)) := put3_below bw (by omega) _
    have e3 : RowW (put3 v3 (w.heap.size + 1) (⟨so1, k1, co1, starsL 4 xs, so2, k2, co2, starsL 1 xs, so3, k3, co3, starsL 0 xs⟩ : Sv)) so1 k1 co1 _ := put3_row hw1 hne1
    have e4 : RowW (put3 v3 (w.heap.size + 1) (⟨so1, k1, co1, starsL 4 xs, so2, k2, co2, starsL 1 xs, so3, k3, co3, starsL 0 xs⟩ : Sv)) so2 k2 co2 _ := put3_row hw2 hne2
    have e5 : RowW (put3 v3 (w.heap.size + 1) (⟨so1, k1, co1, starsL 4 xs, so2, k2, co2, starsL 1 xs, so3, k3, co3, starsL 0 xs⟩ : Sv)) so3 k3 co3 _ := put3_row hw3 hne3
    have hS2 : (put3 v3 (w.heap.size + 1) (⟨so1, k1, co1, starsL 4 xs, so2, k2, co2, starsL 1 xs, so3, k3, co3, starsL 0 xs⟩ : Sv)).cell? ⟨w.heap.size, 0, none⟩ = some (.int .u8 d) ∧ (put3 v3 (w.heap.size + 1) (⟨so1, k1, co1, starsL 4 xs, so2, k2, co2, starsL 1 xs, so3, k3, co3, starsL 0 xs⟩ : Sv)).cell? ⟨w.heap.size, 1, none⟩ = some (.slice a n cap) := ⟨put3_cell s0 (by simp) _, put3_cell s1 (by simp) _⟩
    change K _ (put3 v3 (w.heap.size + 1) (⟨so1, k1, co1, starsL 4 xs, so2, k2, co2, starsL 1 xs, so3, k3, co3, starsL 0 xs⟩ : Sv))
    obtain ⟨V, hV⟩ : ∃ V, V = put3 v3 (w.heap.size + 1) (⟨so1, k1, co1, starsL 4 xs, so2, k2, co2, starsL 1 xs, so3, k3, co3, starsL 0 xs⟩ : Sv) := ⟨_, rfl⟩
    rw [← hV] at e1 e2 e3 e4 e5 hS2 ⊢
    clear hV
    refine hK.out _ _ hS2 fun hS => ?_
    clear hK K
    refine take_to (i := 8) (v := ?_) 3 rfl rfl (by kernel_rfl) (by kernel_rfl) (by kernel_rfl) (fun _ _ _ h => h) (Or.inl ⟨by rfl, ?_⟩) hS ?_
    rotate_left
    · intro W hW
      obtain ⟨c0, c1⟩ := hW
      go_simp
      try with_reducible rfl
    simp only [List.setIfInBounds_toArray, List.set_cons_zero, List.set_cons_succ]
    refine wpAnyH_done (by kernel_rfl) ?_ _
    refine NoPanic.normal ?_
    go_wp2_with fail
    refine bodyPost_ret (ret_sv2 rfl _ _ (w.heap.size + 1) (⟨so1, k1, co1, starsL 4 xs, so2, k2, co2, starsL 1 xs, so3, k3, co3, starsL 0 xs⟩ : Sv) rfl e1) rfl ?_
    exact ⟨(⟨so1, k1, co1, starsL 4 xs, so2, k2, co2, starsL 1 xs, so3, k3, co3, starsL 0 xs⟩ : Sv), 0, rfl, ⟨e3, e4, e5⟩, .inl ⟨HQ.out, rfl, rfl, rfl, rfl⟩, e2⟩
end Go.Proofs.Ytdoemkncgfgkhaa
