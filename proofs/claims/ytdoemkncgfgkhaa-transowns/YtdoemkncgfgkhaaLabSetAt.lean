/- What the document's own SetAt answers of labels: a contract. -/
import Derived.Test.YtdoemkncgfgkhaaLabMk
namespace Go.Proofs.Ytdoemkncgfgkhaa
open Go.RowKit
set_option maxRecDepth 100000

set_option maxHeartbeats 4000000 in
theorem setAt_any (d : Int) (hd : 0 ≤ d ∧ d < 256) (a : Option Addr) (n cap : Nat) (xs : List (Int × Int)) (c lev : Int) (hc : 0 ≤ c ∧ c < 65536) (hlev : 0 ≤ lev ∧ lev < 256) (w : World) (hr : RowG PE w a n cap xs) (hbd : n < 35184372088832) :
    Calls Try.prog 33 #[.agg #[.int .u8 d, .slice a n cap], .int .u16 c, .int .u8 lev] w fun e w' => ∃ so k co zs, e = .returned (.agg #[.int .u8 d, .slice so k co]) ∧ OwnG PE 40 w' w.heap.size so k co (mkP d (xs ++ [(c, lev)]) zs) ∧ Below w.heap.size w w' ∧ Srt zs ∧ (∀ x, x ∈ zs ↔ x ∈ (xs ++ [(c, lev)]).map Prod.fst) := by
  go_enter Try.func33, Try.ntmps33
  go_wp2_with fail
  obtain ⟨W1, hW1⟩ : ∃ x, x = (w.alloc (Obj.cells #[Value.int IntKind.u8 d, Value.slice a n cap] 24)).alloc (Obj.cells #[Value.int IntKind.u8 0, Value.slice none 0 0] 24) := ⟨_, rfl⟩
  rw [← hW1]
  have hR1 : W1.heap[w.heap.size + 1]? = some (.cells #[.int .u8 0, .slice none 0 0] 24 (0, 0)) := by rw [hW1]; exact heap_new_at _ _ _ (by simp)
  have hbW1 : Below w.heap.size w W1 := hW1 ▸ two_allocs _ _ _
  have k0 : W1.cell? ⟨w.heap.size, 0, none⟩ = some (.int .u8 d) := by rw [hW1]; simp
  have k1 : W1.cell? ⟨w.heap.size, 1, none⟩ = some (.slice a n cap) := by rw [hW1]; simp
  clear hW1
  have HC : Hid (∀ W, Below W1.heap.size W1 W → (fun W => W.cell? ⟨w.heap.size, 0, none⟩ = some (.int .u8 d) ∧ W.cell? ⟨w.heap.size, 1, none⟩ = some (.slice a n cap)) W) := fun W h => ⟨by rw [h.cell (lt_of_cell k0)]; exact k0, by rw [h.cell (lt_of_cell k1)]; exact k1⟩
  have hRne : w.heap.size ≠ w.heap.size + 1 := by omega
  have HS2 : Hid (∀ (W : World) {u v : Value}, (fun W => W.cell? ⟨w.heap.size, 0, none⟩ = some (.int .u8 d) ∧ W.cell? ⟨w.heap.size, 1, none⟩ = some (.slice a n cap)) W → (fun W => W.cell? ⟨w.heap.size, 0, none⟩ = some (.int .u8 d) ∧ W.cell? ⟨w.heap.size, 1, none⟩ = some (.slice a n cap)) ((W.setCell ⟨w.heap.size + 1, 0, none⟩ u).setCell ⟨w.heap.size + 1, 1, none⟩ v)) := fun W u v h =>
    ⟨by rw [World.cell?_setCell_far _ _ _ _ (Ne.symm hRne), World.cell?_setCell_far _ _ _ _ (Ne.symm hRne)]; exact h.1, by rw [World.cell?_setCell_far _ _ _ _ (Ne.symm hRne), World.cell?_setCell_far _ _ _ _ (Ne.symm hRne)]; exact h.2⟩
  have HR : Hid (∀ (w6 : World) (so : Option Addr) (k co : Nat) (zs : List (Int × Int)), Below W1.heap.size W1 w6 → OwnG PE 40 w6 W1.heap.size so k co zs → _) := fun w6 so k co zs hB ho =>
    ret_store (D := d) ((hB.block _ (Array.getElem?_eq_some_iff.1 hR1).1).trans hR1) (show w.heap.size ≤ w.heap.size + 1 by omega) (Array.getElem?_eq_some_iff.1 hR1).1 (ext_trans hbW1 hB) ho
  clear k0 k1
  refine wp_region_noPanic ?_
  refine wp_region_held_drew (S := fun W => W.cell? ⟨w.heap.size, 0, none⟩ = some (.int .u8 d) ∧ W.cell? ⟨w.heap.size, 1, none⟩ = some (.slice a n cap)) (by kernel_rfl) (HC.out _ (ext_drew _)) fun hS => ?_
  obtain ⟨Wd, hWd⟩ : ∃ x, x = W1.drew := ⟨_, rfl⟩
  rw [← hWd]
  rw [← hWd] at hS
  have hBd : Below W1.heap.size W1 Wd := hWd ▸ ext_drew _
  clear hWd
  refine take_to (i := 0) (v := ?_) 7 rfl rfl (by kernel_rfl) (by kernel_rfl) (by kernel_rfl) (fun _ _ _ h => h) (Or.inl ⟨by rfl, ?_⟩) hS ?_
  rotate_left
  · intro W hW
    obtain ⟨s0, s1⟩ := hW
    go_simp
    try with_reducible rfl
  simp only [List.setIfInBounds_toArray, List.set_cons_zero, List.set_cons_succ]
  refine take_to (i := 1) (v := ?_) 8 rfl rfl (by kernel_rfl) (by kernel_rfl) (by kernel_rfl) (fun _ _ _ h => h) (Or.inl ⟨by rfl, ?_⟩) hS ?_
  rotate_left
  · intro W hW
    obtain ⟨s0, s1⟩ := hW
    go_simp
    try with_reducible rfl
  simp only [List.setIfInBounds_toArray, List.set_cons_zero, List.set_cons_succ]
  refine take_to (i := 3) (v := ?_) 10 rfl rfl (by kernel_rfl) (by kernel_rfl) (by kernel_rfl) (fun _ _ _ h => h) (Or.inl ⟨by rfl, ?_⟩) hS ?_
  rotate_left
  · intro W hW
    obtain ⟨s0, s1⟩ := hW
    go_simp
    try with_reducible rfl
  simp only [List.setIfInBounds_toArray, List.set_cons_zero, List.set_cons_succ]
  refine take_to (i := 4) (v := ?_) 11 rfl rfl (by kernel_rfl) (by kernel_rfl) (by kernel_rfl) (fun _ _ _ h => h) (Or.inl ⟨by rfl, ?_⟩) hS ?_
  rotate_left
  · intro W hW
    obtain ⟨s0, s1⟩ := hW
    go_simp
    try with_reducible rfl
  simp only [List.setIfInBounds_toArray, List.set_cons_zero, List.set_cons_succ]
  refine take_to (i := 6) (v := ?_) 13 rfl rfl (by kernel_rfl) (by kernel_rfl) (by kernel_rfl) (fun _ _ _ h => h) (Or.inl ⟨by rfl, ?_⟩) hS ?_
  rotate_left
  · intro W hW
    obtain ⟨s0, s1⟩ := hW
    go_simp
    try with_reducible rfl
  simp only [List.setIfInBounds_toArray, List.set_cons_zero, List.set_cons_succ]
  refine take_to (i := 7) (v := ?_) 14 rfl rfl (by kernel_rfl) (by kernel_rfl) (by kernel_rfl) (fun _ _ _ h => h) (Or.inl ⟨by rfl, ?_⟩) hS ?_
  rotate_left
  · intro W hW
    obtain ⟨s0, s1⟩ := hW
    go_simp
    try with_reducible rfl
  simp only [List.setIfInBounds_toArray, List.set_cons_zero, List.set_cons_succ]
  refine take_to (i := 8) (v := ?_) 15 rfl rfl (by kernel_rfl) (by kernel_rfl) (by kernel_rfl) (fun _ _ _ h => h) (Or.inl ⟨by rfl, ?_⟩) hS ?_
  rotate_left
  · intro W hW
    obtain ⟨s0, s1⟩ := hW
    go_simp
    try with_reducible rfl
  simp only [List.setIfInBounds_toArray, List.set_cons_zero, List.set_cons_succ]
  refine wpAnyH_ready (rs := [2, 9]) (by kernel_rfl) (by simp) ?_
  refine AllReadyH.cons rfl (fun K hK => ?_) (AllReadyH.cons rfl (fun K hK => ?_) AllReadyH.nil)
  · go_simp
    obtain ⟨v1, hv1⟩ : ∃ x, x = Wd.alloc (Obj.cells #[] 40) := ⟨_, rfl⟩
    rw [← hv1]
    have o9 : OwnG PE 40 v1 Wd.heap.size (some ⟨Wd.heap.size, 0, none⟩) 0 0 [] := hv1 ▸ owng_lit PE Wd 40 [] #[] rfl 0 rfl (by omega) Enc.Ok.nil _ _ rfl (Nat.le_refl _)
    have hb1 : Below Wd.heap.size Wd v1 := hv1 ▸ below_alloc _ _
    have hB9 : W1.heap.size ≤ Wd.heap.size := hBd.size
    have l9 : Wd.heap.size < v1.heap.size := by rw [hv1]; simp
    replace hb1 := ext_trans hBd hb1
    refine hK.out _ _ (HC.out _ hb1) fun hS => ?_
    clear hK K hv1
    refine wpAnyH_ready (rs := [5, 9]) (by kernel_rfl) (by simp) ?_
    refine AllReadyH.cons rfl (fun K hK => ?_) (AllReadyH.cons rfl (fun K hK => ?_) AllReadyH.nil)
    · refine Eq.mpr (if_pos (by kernel_rfl)) ?_
      refine op_append_g (E := PE) _ (.tmp 9) (.tmp 11) 22 rfl 40 Try.underlying22 (.agg #[.int .u16 0, .int .u8 0]) 4 info29 rfl (by omega) (Wd.heap.size) 0 0 _ [] rfl o9 a n cap xs rfl (hr.below (ext_trans hbW1 hb1)) (by omega) (Nat.le_of_lt (own_block o9 _ rfl).2) _ (Below.refl _ _) ?_
      intro so12 co12 v2 o12 _ hg12
      rw [List.nil_append] at o12
      have o12z := o12
      rw [Nat.zero_add] at o12
      have hb2 : Below W1.heap.size W1 v2 := hb1.trans (below_of_grown hg12 hb1.size (fun x hx => by obtain rfl := Option.some.inj hx; exact hB9))
      refine hK.out _ _ (HC.out _ hb2) fun hS => ?_
      clear hK K
      refine wpAnyH_ready (rs := [9]) (by kernel_rfl) (by simp) ?_
      refine AllReadyH.cons rfl (fun K hK => ?_) AllReadyH.nil
      go_simp
      obtain ⟨v3, hv3⟩ : ∃ x, x = v2.alloc (Obj.cells #[Value.int IntKind.u16 c, Value.int IntKind.u8 lev] 40) := ⟨_, rfl⟩
      rw [← hv3]
      have r16 : RowG PE v3 (some ⟨v2.heap.size, 0, none⟩) 1 1 [(c, lev)] := hv3 ▸ (owng_lit PE v2 40 [(c, lev)] _ rfl 1 rfl (by omega) (Enc.Ok.one ⟨hc, hlev⟩) _ v2.heap.size rfl (Nat.le_refl _)).row
      have hb3 : Below v2.heap.size v2 v3 := hv3 ▸ below_alloc _ _
      have l16 : v2.heap.size < v3.heap.size := by rw [hv3]; simp
      replace o12 := o12.below hb3
      replace o12z := o12z.below hb3
      replace hb3 := ext_trans hb2 hb3
      refine hK.out _ _ (HC.out _ hb3) fun hS => ?_
      clear hK K hv3
      refine wpAnyH_ready (rs := [10]) (by kernel_rfl) (by simp) ?_
      refine AllReadyH.cons rfl (fun K hK => ?_) AllReadyH.nil
      refine Eq.mpr (if_pos (by kernel_rfl)) ?_
      first | refine op_append_g (E := PE) _ (.tmp 12) (.tmp 16) 22 rfl 40 Try.underlying22 (.agg #[.int .u16 0, .int .u8 0]) 4 info29 rfl (by omega) W1.heap.size n co12 so12 xs rfl (o12.mono hB9) _ 1 1 [(c, lev)] rfl r16 (by omega) hb3.size _ (Below.refl _ _) ?_ | refine op_append_g (E := PE) _ (.tmp 12) (.tmp 16) 22 rfl 40 Try.underlying22 (.agg #[.int .u16 0, .int .u8 0]) 4 info29 rfl (by omega) W1.heap.size (0 + n) co12 so12 xs rfl (o12z.mono hB9) _ 1 1 [(c, lev)] rfl r16 (by omega) hb3.size _ (Below.refl _ _) ?_
      intro so17 co17 v4 o17 _ hg17
      have hb4 : Below W1.heap.size W1 v4 := hb3.trans (below_of_grown hg17 hb3.size (fun x hx => by first | exact (own_block (o12.mono hB9) x hx).1 | exact (own_block (o12z.mono hB9) x hx).1))
      refine hK.out _ _ (HC.out _ hb4) fun hS => ?_
      clear hK K
      refine wpAnyH_ready (rs := [11]) (by kernel_rfl) (by simp) ?_
      refine AllReadyH.cons rfl (fun K hK => ?_) AllReadyH.nil
      go_simp
      refine (makeLabel_any d hd so17 (n + 1) co17 (xs ++ [(c, lev)]) _ (by simpa using o17.row) (by omega)).mono ?_
      rintro e w6 ⟨so6, k6, co6, zs6, rfl, hown6, hb6, hsrt6, hmem6⟩
      have hB6 := ext_trans hb4 hb6
      have hres := HR.out w6 so6 k6 co6 _ hB6 (hown6.mono hb4.size)
      refine hK.out _ _ (HC.out _ hB6) fun hS => ?_
      clear hK K
      have hR6 : w6.heap[w.heap.size + 1]? = some (.cells #[.int .u8 0, .slice none 0 0] 24 (0, 0)) := (hB6.block _ (Array.getElem?_eq_some_iff.1 hR1).1).trans hR1
      have r0 : w6.cell? ⟨w.heap.size + 1, 0, none⟩ = some (.int .u8 0) := cell_of_heap hR6 0 _ rfl
      have r1 : w6.cell? ⟨w.heap.size + 1, 1, none⟩ = some (.slice none 0 0) := cell_of_heap hR6 1 _ rfl
      have f0 : w6.frozen? ⟨w.heap.size + 1, 0, none⟩ = false := frozen_of_row w6 _ 0 _ 24 hR6
      have f1 : w6.frozen? ⟨w.heap.size + 1, 1, none⟩ = false := frozen_of_row w6 _ 1 _ 24 hR6
      refine wpAnyH_ready (rs := [12]) (by kernel_rfl) (by simp) ?_
      refine AllReadyH.cons rfl (fun K hK => ?_) AllReadyH.nil
      go_simp
      refine hK.out _ _ (HS2.out _ hS) fun _ => ?_
      clear hK K
      refine wpAnyH_done (by kernel_rfl) ?_ _
      refine NoPanic.normal ?_
      go_wp2_with fail
      obtain ⟨e1, e2, e3⟩ := hres
      try simp only [Exit.inBlock, Exit.then]
      refine bodyPost_ret (ret_lab rfl _ _ (w.heap.size + 1) d so6 k6 co6 rfl e1) rfl ?_
      first | exact ⟨so6, k6, co6, zs6, rfl, e2, e3, hsrt6, hmem6⟩ | exact ⟨so6, k6, co6, zs6, rfl, e2, e3, hsrt6, by simpa using hmem6⟩ | exact ⟨so6, k6, co6, rfl, zs6, e2, e3, hsrt6, by simpa using hmem6⟩
    · go_simp
      obtain ⟨v5, hv5⟩ : ∃ x, x = v1.alloc (Obj.cells #[Value.int IntKind.u16 c, Value.int IntKind.u8 lev] 40) := ⟨_, rfl⟩
      rw [← hv5]
      have r16 : RowG PE v5 (some ⟨v1.heap.size, 0, none⟩) 1 1 [(c, lev)] := hv5 ▸ (owng_lit PE v1 40 [(c, lev)] _ rfl 1 rfl (by omega) (Enc.Ok.one ⟨hc, hlev⟩) _ v1.heap.size rfl (Nat.le_refl _)).row
      have hb5 : Below v1.heap.size v1 v5 := hv5 ▸ below_alloc _ _
      have l16 : v1.heap.size < v5.heap.size := by rw [hv5]; simp
      replace o9 := o9.below hb5
      have ne : Wd.heap.size ≠ v1.heap.size := by have := l9; omega
      replace hb5 := ext_trans hb1 hb5
      refine hK.out _ _ (HC.out _ hb5) fun hS => ?_
      clear hK K hv5
      refine wpAnyH_ready (rs := [5]) (by kernel_rfl) (by simp) ?_
      refine AllReadyH.cons rfl (fun K hK => ?_) AllReadyH.nil
      refine Eq.mpr (if_pos (by kernel_rfl)) ?_
      refine op_append_g (E := PE) _ (.tmp 9) (.tmp 11) 22 rfl 40 Try.underlying22 (.agg #[.int .u16 0, .int .u8 0]) 4 info29 rfl (by omega) (Wd.heap.size) 0 0 _ [] rfl o9 a n cap xs rfl (hr.below (ext_trans hbW1 hb5)) (by omega) (Nat.le_of_lt (own_block o9 _ rfl).2) _ (Below.refl _ _) ?_
      intro so12 co12 v6 o12 _ hg12
      rw [List.nil_append] at o12
      have o12z := o12
      rw [Nat.zero_add] at o12
      have hb6 : Below W1.heap.size W1 v6 := hb5.trans (below_of_grown hg12 hb5.size (fun x hx => by obtain rfl := Option.some.inj hx; exact hB9))
      replace r16 := r16.grown hg12 (fun x hx e => by obtain rfl := Option.some.inj hx; simp [Value.ownBlock] at e; exact ne e)
      refine hK.out _ _ (HC.out _ hb6) fun hS => ?_
      clear hK K
      refine wpAnyH_ready (rs := [10]) (by kernel_rfl) (by simp) ?_
      refine AllReadyH.cons rfl (fun K hK => ?_) AllReadyH.nil
      refine Eq.mpr (if_pos (by kernel_rfl)) ?_
      first | refine op_append_g (E := PE) _ (.tmp 12) (.tmp 16) 22 rfl 40 Try.underlying22 (.agg #[.int .u16 0, .int .u8 0]) 4 info29 rfl (by omega) W1.heap.size n co12 so12 xs rfl (o12.mono hB9) _ 1 1 [(c, lev)] rfl r16 (by omega) hb6.size _ (Below.refl _ _) ?_ | refine op_append_g (E := PE) _ (.tmp 12) (.tmp 16) 22 rfl 40 Try.underlying22 (.agg #[.int .u16 0, .int .u8 0]) 4 info29 rfl (by omega) W1.heap.size (0 + n) co12 so12 xs rfl (o12z.mono hB9) _ 1 1 [(c, lev)] rfl r16 (by omega) hb6.size _ (Below.refl _ _) ?_
      intro so17 co17 v7 o17 _ hg17
      have hb7 : Below W1.heap.size W1 v7 := hb6.trans (below_of_grown hg17 hb6.size (fun x hx => by first | exact (own_block (o12.mono hB9) x hx).1 | exact (own_block (o12z.mono hB9) x hx).1))
      refine hK.out _ _ (HC.out _ hb7) fun hS => ?_
      clear hK K
      refine wpAnyH_ready (rs := [11]) (by kernel_rfl) (by simp) ?_
      refine AllReadyH.cons rfl (fun K hK => ?_) AllReadyH.nil
      go_simp
      refine (makeLabel_any d hd so17 (n + 1) co17 (xs ++ [(c, lev)]) _ (by simpa using o17.row) (by omega)).mono ?_
      rintro e w6 ⟨so6, k6, co6, zs6, rfl, hown6, hb6, hsrt6, hmem6⟩
      have hB6 := ext_trans hb7 hb6
      have hres := HR.out w6 so6 k6 co6 _ hB6 (hown6.mono hb7.size)
      refine hK.out _ _ (HC.out _ hB6) fun hS => ?_
      clear hK K
      have hR6 : w6.heap[w.heap.size + 1]? = some (.cells #[.int .u8 0, .slice none 0 0] 24 (0, 0)) := (hB6.block _ (Array.getElem?_eq_some_iff.1 hR1).1).trans hR1
      have r0 : w6.cell? ⟨w.heap.size + 1, 0, none⟩ = some (.int .u8 0) := cell_of_heap hR6 0 _ rfl
      have r1 : w6.cell? ⟨w.heap.size + 1, 1, none⟩ = some (.slice none 0 0) := cell_of_heap hR6 1 _ rfl
      have f0 : w6.frozen? ⟨w.heap.size + 1, 0, none⟩ = false := frozen_of_row w6 _ 0 _ 24 hR6
      have f1 : w6.frozen? ⟨w.heap.size + 1, 1, none⟩ = false := frozen_of_row w6 _ 1 _ 24 hR6
      refine wpAnyH_ready (rs := [12]) (by kernel_rfl) (by simp) ?_
      refine AllReadyH.cons rfl (fun K hK => ?_) AllReadyH.nil
      go_simp
      refine hK.out _ _ (HS2.out _ hS) fun _ => ?_
      clear hK K
      refine wpAnyH_done (by kernel_rfl) ?_ _
      refine NoPanic.normal ?_
      go_wp2_with fail
      obtain ⟨e1, e2, e3⟩ := hres
      try simp only [Exit.inBlock, Exit.then]
      refine bodyPost_ret (ret_lab rfl _ _ (w.heap.size + 1) d so6 k6 co6 rfl e1) rfl ?_
      first | exact ⟨so6, k6, co6, zs6, rfl, e2, e3, hsrt6, hmem6⟩ | exact ⟨so6, k6, co6, zs6, rfl, e2, e3, hsrt6, by simpa using hmem6⟩ | exact ⟨so6, k6, co6, rfl, zs6, e2, e3, hsrt6, by simpa using hmem6⟩
  · go_simp
    obtain ⟨v8, hv8⟩ : ∃ x, x = Wd.alloc (Obj.cells #[Value.int IntKind.u16 c, Value.int IntKind.u8 lev] 40) := ⟨_, rfl⟩
    rw [← hv8]
    have r16 : RowG PE v8 (some ⟨Wd.heap.size, 0, none⟩) 1 1 [(c, lev)] := hv8 ▸ (owng_lit PE Wd 40 [(c, lev)] _ rfl 1 rfl (by omega) (Enc.Ok.one ⟨hc, hlev⟩) _ Wd.heap.size rfl (Nat.le_refl _)).row
    have hb8 : Below Wd.heap.size Wd v8 := hv8 ▸ below_alloc _ _
    have l16 : Wd.heap.size < v8.heap.size := by rw [hv8]; simp
    replace hb8 := ext_trans hBd hb8
    refine hK.out _ _ (HC.out _ hb8) fun hS => ?_
    clear hK K hv8
    refine wpAnyH_ready (rs := [2]) (by kernel_rfl) (by simp) ?_
    refine AllReadyH.cons rfl (fun K hK => ?_) AllReadyH.nil
    go_simp
    obtain ⟨v9, hv9⟩ : ∃ x, x = v8.alloc (Obj.cells #[] 40) := ⟨_, rfl⟩
    rw [← hv9]
    have o9 : OwnG PE 40 v9 v8.heap.size (some ⟨v8.heap.size, 0, none⟩) 0 0 [] := hv9 ▸ owng_lit PE v8 40 [] #[] rfl 0 rfl (by omega) Enc.Ok.nil _ _ rfl (Nat.le_refl _)
    have hb9 : Below v8.heap.size v8 v9 := hv9 ▸ below_alloc _ _
    replace r16 := r16.below hb9
    have ne : v8.heap.size ≠ Wd.heap.size := by have := l16; omega
    have hB9 : W1.heap.size ≤ v8.heap.size := hb8.size
    have l9 : v8.heap.size < v9.heap.size := by rw [hv9]; simp
    replace hb9 := ext_trans hb8 hb9
    refine hK.out _ _ (HC.out _ hb9) fun hS => ?_
    clear hK K hv9
    refine wpAnyH_ready (rs := [5]) (by kernel_rfl) (by simp) ?_
    refine AllReadyH.cons rfl (fun K hK => ?_) AllReadyH.nil
    refine Eq.mpr (if_pos (by kernel_rfl)) ?_
    refine op_append_g (E := PE) _ (.tmp 9) (.tmp 11) 22 rfl 40 Try.underlying22 (.agg #[.int .u16 0, .int .u8 0]) 4 info29 rfl (by omega) (v8.heap.size) 0 0 _ [] rfl o9 a n cap xs rfl (hr.below (ext_trans hbW1 hb9)) (by omega) (Nat.le_of_lt (own_block o9 _ rfl).2) _ (Below.refl _ _) ?_
    intro so12 co12 v10 o12 _ hg12
    rw [List.nil_append] at o12
    have o12z := o12
    rw [Nat.zero_add] at o12
    have hb10 : Below W1.heap.size W1 v10 := hb9.trans (below_of_grown hg12 hb9.size (fun x hx => by obtain rfl := Option.some.inj hx; exact hB9))
    replace r16 := r16.grown hg12 (fun x hx e => by obtain rfl := Option.some.inj hx; simp [Value.ownBlock] at e; exact ne e)
    refine hK.out _ _ (HC.out _ hb10) fun hS => ?_
    clear hK K
    refine wpAnyH_ready (rs := [10]) (by kernel_rfl) (by simp) ?_
    refine AllReadyH.cons rfl (fun K hK => ?_) AllReadyH.nil
    refine Eq.mpr (if_pos (by kernel_rfl)) ?_
    first | refine op_append_g (E := PE) _ (.tmp 12) (.tmp 16) 22 rfl 40 Try.underlying22 (.agg #[.int .u16 0, .int .u8 0]) 4 info29 rfl (by omega) W1.heap.size n co12 so12 xs rfl (o12.mono hB9) _ 1 1 [(c, lev)] rfl r16 (by omega) hb10.size _ (Below.refl _ _) ?_ | refine op_append_g (E := PE) _ (.tmp 12) (.tmp 16) 22 rfl 40 Try.underlying22 (.agg #[.int .u16 0, .int .u8 0]) 4 info29 rfl (by omega) W1.heap.size (0 + n) co12 so12 xs rfl (o12z.mono hB9) _ 1 1 [(c, lev)] rfl r16 (by omega) hb10.size _ (Below.refl _ _) ?_
    intro so17 co17 v11 o17 _ hg17
    have hb11 : Below W1.heap.size W1 v11 := hb10.trans (below_of_grown hg17 hb10.size (fun x hx => by first | exact (own_block (o12.mono hB9) x hx).1 | exact (own_block (o12z.mono hB9) x hx).1))
    refine hK.out _ _ (HC.out _ hb11) fun hS => ?_
    clear hK K
    refine wpAnyH_ready (rs := [11]) (by kernel_rfl) (by simp) ?_
    refine AllReadyH.cons rfl (fun K hK => ?_) AllReadyH.nil
    go_simp
    refine (makeLabel_any d hd so17 (n + 1) co17 (xs ++ [(c, lev)]) _ (by simpa using o17.row) (by omega)).mono ?_
    rintro e w6 ⟨so6, k6, co6, zs6, rfl, hown6, hb6, hsrt6, hmem6⟩
    have hB6 := ext_trans hb11 hb6
    have hres := HR.out w6 so6 k6 co6 _ hB6 (hown6.mono hb11.size)
    refine hK.out _ _ (HC.out _ hB6) fun hS => ?_
    clear hK K
    have hR6 : w6.heap[w.heap.size + 1]? = some (.cells #[.int .u8 0, .slice none 0 0] 24 (0, 0)) := (hB6.block _ (Array.getElem?_eq_some_iff.1 hR1).1).trans hR1
    have r0 : w6.cell? ⟨w.heap.size + 1, 0, none⟩ = some (.int .u8 0) := cell_of_heap hR6 0 _ rfl
    have r1 : w6.cell? ⟨w.heap.size + 1, 1, none⟩ = some (.slice none 0 0) := cell_of_heap hR6 1 _ rfl
    have f0 : w6.frozen? ⟨w.heap.size + 1, 0, none⟩ = false := frozen_of_row w6 _ 0 _ 24 hR6
    have f1 : w6.frozen? ⟨w.heap.size + 1, 1, none⟩ = false := frozen_of_row w6 _ 1 _ 24 hR6
    refine wpAnyH_ready (rs := [12]) (by kernel_rfl) (by simp) ?_
    refine AllReadyH.cons rfl (fun K hK => ?_) AllReadyH.nil
    go_simp
    refine hK.out _ _ (HS2.out _ hS) fun _ => ?_
    clear hK K
    refine wpAnyH_done (by kernel_rfl) ?_ _
    refine NoPanic.normal ?_
    go_wp2_with fail
    obtain ⟨e1, e2, e3⟩ := hres
    try simp only [Exit.inBlock, Exit.then]
    refine bodyPost_ret (ret_lab rfl _ _ (w.heap.size + 1) d so6 k6 co6 rfl e1) rfl ?_
    first | exact ⟨so6, k6, co6, zs6, rfl, e2, e3, hsrt6, hmem6⟩ | exact ⟨so6, k6, co6, zs6, rfl, e2, e3, hsrt6, by simpa using hmem6⟩ | exact ⟨so6, k6, co6, rfl, zs6, e2, e3, hsrt6, by simpa using hmem6⟩
end Go.Proofs.Ytdoemkncgfgkhaa
