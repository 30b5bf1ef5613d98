/- What the document's own RiseAll answers of labels: a contract. -/
import Derived.Test.YthhpfpihgmhlbaaLabBoth
import Derived.Test.YthhpfpihgmhlbaaLabRise
namespace Go.Proofs.Ythhpfpihgmhlbaa
open Go.RowKit

theorem rise_all_at (d : Int) {xs : List (Int × Int)} (h : UpL xs) (c : Int) : atL (riseL d) (xs.map fun p => (p.1, riseL p.2)).reverse c = riseL (atL d xs c) := by
  have hu : UpL (xs.map fun p => (p.1, riseL p.2)) := List.pairwise_map.2 h
  rw [at_rev _ hu]
  clear h hu
  induction xs with
  | nil => rfl
  | cons p xs ih =>
    rw [List.map_cons, atL_cons, atL_cons]
    by_cases hc : p.1 = c
    · rw [if_pos hc, if_pos hc]
    · rw [if_neg hc, if_neg hc, ih]

set_option maxHeartbeats 4000000 in
theorem riseAll_any (d : Int) (a : Option Addr) (n cap : Nat) (xs : List (Int × Int)) (w : World) (hr : RowG PE w a n cap xs) (hlx : LvL d xs) (hux : UpL xs) (hbd : n ≤ 1000) :
    Calls Try.prog 42 #[.agg #[.int .u8 d, .slice a n cap]] w fun e w' => ∃ so k co, e = .returned (.agg #[.int .u8 (riseL d), .slice so k co]) ∧ OwnG PE 51 w' w.heap.size so k co (riseP d xs) ∧ Below w.heap.size w w' := by
  have hxl : Hid (xs.length = n) := hr.len
  have hcap := hr.cap_le
  have HU : Hid (UpL xs) := hux
  have HLV : Hid (∀ p ∈ xs, 0 ≤ p.2 ∧ p.2 ≤ 5) := hlx.2
  clear hux
  go_enter Try.func42, Try.ntmps42
  go_wp2_with fail
  obtain ⟨W0, hW0⟩ : ∃ x, x = (w.alloc (Obj.cells #[Value.int IntKind.u8 d, Value.slice a n cap] 41)).alloc (Obj.cells #[Value.int IntKind.u8 0, Value.slice none 0 0] 41) := ⟨_, rfl⟩
  rw [← hW0]
  have hR : W0.heap[w.heap.size + 1]? = some (.cells #[.int .u8 0, .slice none 0 0] 41 (0, 0)) := by rw [hW0]; exact heap_new_at _ _ _ (by simp)
  have hbW : Below w.heap.size w W0 := hW0 ▸ two_allocs _ _ _
  have k0 : W0.cell? ⟨w.heap.size, 0, none⟩ = some (.int .u8 d) := by rw [hW0]; simp
  have k1 : W0.cell? ⟨w.heap.size, 1, none⟩ = some (.slice a n cap) := by rw [hW0]; simp
  clear hW0
  go_loopw [3, 4] (fun o i wr => ∃ (j : Nat) (so : Option Addr) (no co : Nat), j ≤ n ∧ o = .slice so no co ∧ i = .int .i64 j ∧ Below W0.heap.size W0 wr ∧ OwnG PE 51 wr W0.heap.size so no co ((xs.take j).map fun p => (p.1, riseL p.2)) ∧ no ≤ j) (fun _ i _ => n - (intOf i).toNat)
  case atStart => exact ⟨0, none, 0, 0, by omega, rfl, rfl, Below.refl _ _, OwnG.of_nil _ _ _ _, by omega⟩
  case round =>
    obtain ⟨j, so, no, co, hj, rfl, rfl, hbr0, hown, hno⟩ := hrel
    have hbr := ext_trans hbW hbr0
    have k0' : wr.cell? ⟨w.heap.size, 0, none⟩ = some (.int .u8 d) := by rw [hbr0.cell (lt_of_cell k0)]; exact k0
    have k1' : wr.cell? ⟨w.heap.size, 1, none⟩ = some (.slice a n cap) := by rw [hbr0.cell (lt_of_cell k1)]; exact k1
    by_cases hlt : j < n
    · have hp : (j : Int) < (n : Int) := by omega
      obtain ⟨rb, roff, rfl, _⟩ := hr.at (by omega)
      obtain ⟨X, Y, hX, HXb⟩ := hr.get2 j hlt
      have hlvk := HLV.out _ (List.mem_of_getElem? hX)
      simp only at hlvk
      have hrl2 : 0 ≤ riseL Y ∧ riseL Y < 256 := by have := riseL_lv hlvk; omega
      obtain ⟨t1, t2⟩ := (hr.below hbr).pair hX
      have HX : Hid (xs[j]? = some (X, Y)) := hX
      have HC : Hid (∀ W, (fun W => Below W0.heap.size W0 W) W → W.cell? ⟨w.heap.size, 1, none⟩ = some (.slice (some ⟨rb, roff, none⟩) n cap) ∧ W.cell? ⟨rb, roff + j * 2, none⟩ = some (.int .u16 X) ∧ W.cell? ⟨rb, roff + j * 2 + 1, none⟩ = some (.int .u8 Y)) := fun W h => ⟨by rw [h.cell (lt_of_cell k1)]; exact k1, ((hr.below (ext_trans hbW h)).pair hX).1, ((hr.below (ext_trans hbW h)).pair hX).2⟩
      clear hX
      obtain ⟨Wb, hWb⟩ : ∃ x, x = (wr.alloc (.cells #[.int .u16 X, .int .u8 (riseL Y)] 51)).drew := ⟨_, rfl⟩
      have HWb : Hid (Wb = (wr.alloc (.cells #[.int .u16 X, .int .u8 (riseL Y)] 51)).drew) := hWb
      have hB5 : Below wr.heap.size wr Wb := hWb ▸ (below_alloc _ _).drew
      have hrow5 : RowG PE Wb (some ⟨wr.heap.size, 0, none⟩) 1 1 [(X, riseL Y)] := hWb ▸ ((owng_lit PE wr 51 [(X, riseL Y)] _ rfl 1 rfl (by omega) (Enc.Ok.one ⟨HXb.1, hrl2⟩) _ wr.heap.size (by simp) (by omega)).below (ext_drew _)).row
      clear hWb
      clear t1 t2
      go_wp2_with fail
      refine wp_region_noPanic ?_
      refine wp_region_held_drew (S := fun W => Below W0.heap.size W0 W) (by kernel_rfl) hbr0.drew fun hS => ?_
      refine take_to (i := 0) (v := ?_) 12 rfl rfl (by kernel_rfl) (by kernel_rfl) (by kernel_rfl) (fun _ _ _ h => h) (Or.inl ⟨by rfl, ?_⟩) hS ?_
      rotate_left
      · intro W hW
        obtain ⟨s0, s1, s2⟩ := HC.out W hW
        go_simp
        try with_reducible rfl
      simp only [List.setIfInBounds_toArray, List.set_cons_zero, List.set_cons_succ]
      refine take_to (i := 1) (v := ?_) 13 rfl rfl (by kernel_rfl) (by kernel_rfl) (by kernel_rfl) (fun _ _ _ h => h) (Or.inl ⟨by rfl, ?_⟩) hS ?_
      rotate_left
      · intro W hW
        obtain ⟨s0, s1, s2⟩ := HC.out W hW
        go_simp
        try with_reducible rfl
      simp only [List.setIfInBounds_toArray, List.set_cons_zero, List.set_cons_succ]
      refine take_to (i := 2) (v := ?_) 14 rfl rfl (by kernel_rfl) (by kernel_rfl) (by kernel_rfl) (fun _ _ _ h => h) (Or.inl ⟨by rfl, ?_⟩) hS ?_
      rotate_left
      · intro W hW
        obtain ⟨s0, s1, s2⟩ := HC.out W hW
        go_simp
        try with_reducible rfl
      simp only [List.setIfInBounds_toArray, List.set_cons_zero, List.set_cons_succ]
      refine take_to (i := 3) (v := ?_) 15 rfl rfl (by kernel_rfl) (by kernel_rfl) (by kernel_rfl) (fun _ _ _ h => h) (Or.inl ⟨by rfl, ?_⟩) hS ?_
      rotate_left
      · intro W hW
        obtain ⟨s0, s1, s2⟩ := HC.out W hW
        go_simp
        try with_reducible rfl
      simp only [List.setIfInBounds_toArray, List.set_cons_zero, List.set_cons_succ]
      refine take_to (i := 4) (v := ?_) 16 rfl rfl (by kernel_rfl) (by kernel_rfl) (by kernel_rfl) (fun _ _ _ h => h) (Or.inl ⟨by rfl, ?_⟩) hS ?_
      rotate_left
      · intro W hW
        obtain ⟨s0, s1, s2⟩ := HC.out W hW
        go_simp
        try with_reducible rfl
      simp only [List.setIfInBounds_toArray, List.set_cons_zero, List.set_cons_succ]
      refine take_to (i := 5) (v := ?_) 17 rfl rfl (by kernel_rfl) (by kernel_rfl) (by kernel_rfl) (fun _ _ _ h => h) (Or.inl ⟨by rfl, ?_⟩) hS ?_
      rotate_left
      · intro W hW
        obtain ⟨s0, s1, s2⟩ := HC.out W hW
        go_simp
        try with_reducible rfl
      simp only [List.setIfInBounds_toArray, List.set_cons_zero, List.set_cons_succ]
      refine take_to (i := 6) (v := ?_) 18 rfl rfl (by kernel_rfl) (by kernel_rfl) (by kernel_rfl) (fun _ _ _ h => h) (Or.inl ⟨by rfl, ?_⟩) hS ?_
      rotate_left
      · intro W hW
        obtain ⟨s0, s1, s2⟩ := HC.out W hW
        go_simp
        try with_reducible rfl
      simp only [List.setIfInBounds_toArray, List.set_cons_zero, List.set_cons_succ]
      refine take_to (i := 7) (v := ?_) 19 rfl rfl (by kernel_rfl) (by kernel_rfl) (by kernel_rfl) (fun _ _ _ h => h) (Or.inl ⟨by rfl, ?_⟩) hS ?_
      rotate_left
      · intro W hW
        obtain ⟨s0, s1, s2⟩ := HC.out W hW
        go_simp
        try with_reducible rfl
      simp only [List.setIfInBounds_toArray, List.set_cons_zero, List.set_cons_succ]
      refine take_to (i := 8) (v := ?_) 20 rfl rfl (by kernel_rfl) (by kernel_rfl) (by kernel_rfl) (fun _ _ _ h => h) (Or.inl ⟨by rfl, ?_⟩) hS ?_
      rotate_left
      · intro W hW
        obtain ⟨s0, s1, s2⟩ := HC.out W hW
        go_simp
        try with_reducible rfl
      simp only [List.setIfInBounds_toArray, List.set_cons_zero, List.set_cons_succ]
      refine take_to (i := 9) (v := ?_) 21 rfl rfl (by kernel_rfl) (by kernel_rfl) (by kernel_rfl) (fun _ _ _ h => h) (Or.inl ⟨by rfl, ?_⟩) hS ?_
      rotate_left
      · intro W hW
        obtain ⟨s0, s1, s2⟩ := HC.out W hW
        go_simp
        try with_reducible rfl
      simp only [List.setIfInBounds_toArray, List.set_cons_zero, List.set_cons_succ]
      refine take_to (i := 10) (v := ?_) 22 rfl rfl (by kernel_rfl) (by kernel_rfl) (by kernel_rfl) (fun _ _ _ h => h) (Or.inl ⟨by rfl, ?_⟩) hS ?_
      rotate_left
      · intro W hW
        obtain ⟨s0, s1, s2⟩ := HC.out W hW
        go_simp
        try with_reducible rfl
      simp only [List.setIfInBounds_toArray, List.set_cons_zero, List.set_cons_succ]
      refine take_to (i := 11) (v := ?_) 23 rfl rfl (by kernel_rfl) (by kernel_rfl) (by kernel_rfl) (fun _ _ _ h => h) (Or.inl ⟨by rfl, ?_⟩) hS ?_
      rotate_left
      · intro W hW
        obtain ⟨s0, s1, s2⟩ := HC.out W hW
        go_simp
        try with_reducible rfl
      simp only [List.setIfInBounds_toArray, List.set_cons_zero, List.set_cons_succ]
      refine take_to (i := 12) (v := ?_) 24 rfl rfl (by kernel_rfl) (by kernel_rfl) (by kernel_rfl) (fun _ _ _ h => h) (Or.inl ⟨by rfl, ?_⟩) hS ?_
      rotate_left
      · intro W hW
        obtain ⟨s0, s1, s2⟩ := HC.out W hW
        go_simp
        try with_reducible rfl
      simp only [List.setIfInBounds_toArray, List.set_cons_zero, List.set_cons_succ]
      refine wpAnyH_ready (rs := [13]) (by kernel_rfl) (by simp) ?_
      refine AllReadyH.cons rfl (fun K hK => ?_) AllReadyH.nil
      go_simp
      refine (refRise_any Y _).mono ?_
      rintro e w3 ⟨rfl, rfl⟩
      refine hK.out _ _ hbr0.drew fun _ => ?_
      clear hK K
      refine take_to (i := 14) (v := ?_) 26 rfl rfl (by kernel_rfl) (by kernel_rfl) (by kernel_rfl) (fun _ _ _ h => h) (Or.inl ⟨by rfl, ?_⟩) hS ?_
      rotate_left
      · intro W hW
        obtain ⟨s0, s1, s2⟩ := HC.out W hW
        go_simp
        try with_reducible rfl
      simp only [List.setIfInBounds_toArray, List.set_cons_zero, List.set_cons_succ]
      refine wpAnyH_ready (rs := [15]) (by kernel_rfl) (by simp) ?_
      refine AllReadyH.cons rfl (fun K hK => ?_) AllReadyH.nil
      go_simp
      rw [← HWb.out]
      refine hK.out _ _ (ext_trans hbr0 hB5) fun _ => ?_
      clear hK K
      refine wpAnyH_ready (rs := [16]) (by kernel_rfl) (by simp) ?_
      refine AllReadyH.cons rfl (fun K hK => ?_) AllReadyH.nil
      refine Eq.mpr (if_pos (by kernel_rfl)) ?_
      refine op_append_g (E := PE) _ (.tmp 12) (.tmp 27) 39 rfl 51 Try.underlying39 (.agg #[.int .u16 0, .int .u8 0]) 4 info29 rfl (by omega) W0.heap.size no co so _ rfl (hown.below hB5) (some ⟨wr.heap.size, 0, none⟩) 1 1 [(X, riseL Y)] rfl hrow5 (by omega) (Nat.le_trans hbr0.size hB5.size) W0 (ext_trans hbr0 hB5) ?_
      intro so' co' w6 hown6 hb6 _
      refine hK.out _ _ hb6 fun _ => ?_
      clear hK K
      refine wpAnyH_ready (rs := [17]) (by kernel_rfl) (by simp) ?_
      refine AllReadyH.cons rfl (fun K hK => ?_) AllReadyH.nil
      go_simp
      refine hK.out _ _ hb6 fun _ => ?_
      clear hK K
      refine wpAnyH_done (by kernel_rfl) ?_ _
      refine NoPanic.normal ?_
      go_wp2_with fail
      go_roundw
      case rel =>
        refine ⟨j + 1, so', no + 1, co', by omega, rfl, by go_num, hb6, ?_, by omega⟩
        rw [take_snoc HX.out, List.map_append, List.map_singleton]
        exact hown6
      case measure => simp [intOf]; omega
    · obtain rfl : n = j := by omega
      rw [List.take_of_length_le (by rw [hxl.out]; exact Nat.le_refl _)] at hown
      have hD : 0 ≤ riseL d ∧ riseL d < 256 := by have := riseL_lv hlx.1; omega
      obtain ⟨D, HD⟩ : ∃ D, Hid (D = riseL d) := ⟨_, rfl⟩
      rw [← HD.out] at hD
      go_wp2_with fail
      refine (refRise_any d _).mono ?_
      rintro e w3 ⟨rfl, rfl⟩
      rw [← HD.out]
      go_wp2_with fail
      refine (makeLabel_any D hD so no co _ _ hown.row (by omega)).mono ?_
      rintro e w6 ⟨so6, k6, co6, zs6, rfl, hown6, hb6, hsrt6, hmem6⟩
      have hR6 : w6.heap[w.heap.size + 1]? = some (.cells #[.int .u8 0, .slice none 0 0] 41 (0, 0)) := by
        rw [hb6.block _ (Nat.lt_of_lt_of_le (Array.getElem?_eq_some_iff.1 hR).1 hbr0.size), hbr0.block _ (Array.getElem?_eq_some_iff.1 hR).1]; exact hR
      have r0 : w6.cell? ⟨w.heap.size + 1, 0, none⟩ = some (.int .u8 0) := cell_of_heap hR6 0 _ rfl
      have r1 : w6.cell? ⟨w.heap.size + 1, 1, none⟩ = some (.slice none 0 0) := cell_of_heap hR6 1 _ rfl
      have f0 : w6.frozen? ⟨w.heap.size + 1, 0, none⟩ = false := frozen_of_row w6 _ 0 _ 41 hR6
      have f1 : w6.frozen? ⟨w.heap.size + 1, 1, none⟩ = false := frozen_of_row w6 _ 1 _ 41 hR6
      have hres := ret_store (D := D) hR6 (show w.heap.size ≤ w.heap.size + 1 by omega) (Nat.lt_of_lt_of_le (Array.getElem?_eq_some_iff.1 hR).1 hbr0.size) (ext_trans hbr hb6) hown6
      have HS6 : Hid (mkP D (xs.map fun p => (p.1, riseL p.2)) zs6 = riseP d xs) := by
        show _ = _
        refine can_ext (d := D) (mkP_can _ _ hsrt6) (HD.out ▸ rise_can d HU.out) fun c => ?_
        rw [mkP_at _ _ hsrt6 hmem6, HD.out, rise_all_at d HU.out, rise_at d HU.out]
      clear hsrt6 hmem6 hown6
      go_wp2_with fail
      obtain ⟨e1, e2, e3⟩ := hres
      try simp only [Exit.inBlock, Exit.then]
      refine bodyPost_ret (ret_lab rfl _ _ (w.heap.size + 1) D so6 k6 co6 rfl e1) rfl ?_
      exact ⟨so6, k6, co6, by rw [HD.out], HS6.out ▸ e2, e3⟩
end Go.Proofs.Ythhpfpihgmhlbaa
