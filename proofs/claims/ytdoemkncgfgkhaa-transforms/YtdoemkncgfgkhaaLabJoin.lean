/- What Join and Meet answer: contracts, over what goes through two labels at once. -/
import Derived.Test.YtdoemkncgfgkhaaLabMerge
import Derived.Test.YtdoemkncgfgkhaaLabOut
namespace Go.Proofs.Ytdoemkncgfgkhaa
open Go.RowKit
set_option maxRecDepth 100000

theorem cmb_snoc (D : Int) (f : Int → Int → Int) (rs : List (Int × Int × Int)) (r : Int × Int × Int) : cmb D f (rs ++ [r]) = cmb D f rs ++ unl r.1 (f r.2.1 r.2.2) D := by
  induction rs with
  | nil => simp [cmb, unl]
  | cons q rs ih =>
    rw [List.cons_append, cmb, cmb, ih]
    split <;> simp
theorem mg_lv (d e : Int) (xs ys : List (Int × Int)) (hx : LvL d xs) (hy : LvL e ys) : ∀ r ∈ mg d e xs ys, (0 ≤ r.2.1 ∧ r.2.1 ≤ 5) ∧ 0 ≤ r.2.2 ∧ r.2.2 ≤ 5 := by
  have hd := hx.1; have he := hy.1
  replace hx := hx.2; replace hy := hy.2
  fun_induction mg d e xs ys with
  | case1 => simp
  | case2 p ps ih =>
    intro r hr
    rcases List.mem_cons.1 hr with rfl | hr
    · exact ⟨hx p (by simp), he⟩
    · exact ih (fun q hq => hx q (by simp [hq])) hy r hr
  | case3 q qs ih =>
    intro r hr
    rcases List.mem_cons.1 hr with rfl | hr
    · exact ⟨hd, hy q (by simp)⟩
    · exact ih hx (fun q' hq => hy q' (by simp [hq])) r hr
  | case4 p ps q qs h ih =>
    intro r hr
    rcases List.mem_cons.1 hr with rfl | hr
    · exact ⟨hx p (by simp), he⟩
    · exact ih (fun q hq => hx q (by simp [hq])) hy r hr
  | case5 p ps q qs h h' ih =>
    intro r hr
    rcases List.mem_cons.1 hr with rfl | hr
    · exact ⟨hd, hy q (by simp)⟩
    · exact ih hx (fun q' hq => hy q' (by simp [hq])) r hr
  | case6 p ps q qs h h' ih =>
    intro r hr
    rcases List.mem_cons.1 hr with rfl | hr
    · exact ⟨hx p (by simp), hy q (by simp)⟩
    · exact ih (fun q hq => hx q (by simp [hq])) (fun q' hq => hy q' (by simp [hq])) r hr

set_option maxHeartbeats 4000000 in
theorem join_comb_at (D : Int) (rs : List (Int × Int × Int)) (d d' : Int) (a1 a2 : Option Addr) (n1 c1 n2 c2 : Nat) (xs ys : List (Int × Int)) (hDD : Hid (max d d' = D)) (hrs : Hid (mg d d' xs ys = rs)) (w : World) (hr : RowG PE w a1 n1 c1 xs) (hs : RowG PE w a2 n2 c2 ys) (hlx : LvL d xs) (hly : LvL d' ys) (hbd : n1 + n2 ≤ 100000000) :
    Calls Try.prog 57 #[.agg #[.int .u8 d, .slice a1 n1 c1], .agg #[.int .u8 d', .slice a2 n2 c2], .func (.func 58) #[] #[]] w fun e w' => ∃ so k co, e = .returned (.agg #[.int .u8 D, .slice so k co]) ∧ OwnG PE 40 w' w.heap.size so k co (cmb D max rs) ∧ Below w.heap.size w w' := by
  have hD : 0 ≤ D ∧ D ≤ 5 := by have := hlx.1; have := hly.1; have := hDD.out; omega
  have hcap1 := hr.cap_le
  have hcap2 := hs.cap_le
  have hlv := mg_lv d d' xs ys hlx hly
  rw [hrs.out] at hlv
  go_enter Try.func57, Try.ntmps57
  go_wp2_with fail
  refine (lmax_num d d' hlx.1 hly.1 _).mono ?_
  rintro e w1 ⟨rfl, rfl⟩
  rw [hDD.out]
  go_wp2_with fail
  refine (mergeL_any d d' a1 a2 n1 c1 n2 c2 xs ys _ (hr.below (by repeat (first | exact Below.refl _ _ | refine Below.alloc ?_ (by simp <;> omega) _))) (hs.below (by repeat (first | exact Below.refl _ _ | refine Below.alloc ?_ (by simp <;> omega) _))) (by have := hlx.1; omega) (by have := hly.1; omega) hbd).mono ?_
  rintro e W0 ⟨ro, k, rc, rfl, hrow, hk, hb⟩
  rw [hrs.out] at hrow
  have hG : W0.heap[w.heap.size + 1 + 1 + 1]? = some (.cells #[.int .u8 D, .slice none 0 0] 24 (0, 0)) := by
    rw [hb.block _ (by simp)]; exact heap_new_at _ _ _ (by simp)
  have hR : W0.heap[w.heap.size + 1 + 1]? = some (.cells #[.int .u8 0, .slice none 0 0] 24 (0, 0)) := by
    rw [hb.block _ (by simp), Below.heap_alloc _ _ _ (by simp)]; exact heap_new_at _ _ _ (by simp)
  have hbW : Below w.heap.size w W0 := Below.trans (by repeat (first | exact Below.refl _ _ | refine Below.alloc ?_ (by simp <;> omega) _)) (hb.mono (by simp <;> omega))
  have hrl : Hid (rs.length = k) := hrow.1
  have hro : Hid (∀ x, ro = some x → x.block ≠ w.heap.size + 1 + 1 + 1) := fun x hx => by
    subst hx
    have := own_block hrow x.block (by simp [Value.ownBlock])
    simp at this
    omega
  replace hrow := hrow.row
  have hrc := hrow.cap_le
  have HLV : Hid (∀ r ∈ rs, (0 ≤ r.2.1 ∧ r.2.1 ≤ 5) ∧ 0 ≤ r.2.2 ∧ r.2.2 ≤ 5) := hlv
  clear hlv hb
  go_wp2_with fail
  go_loopw [21] (fun i wr => ∃ (j : Nat) (so : Option Addr) (no co : Nat), j ≤ k ∧ i = .int .i64 j ∧ OutAt W0 (w.heap.size + 1 + 1 + 1) D wr so no co (cmb D max (rs.take j)) ∧ no ≤ j) (fun i _ => k - (intOf i).toNat)
  case atStart => exact ⟨0, none, 0, 0, by omega, rfl, OutAt.init hG, by omega⟩
  case round =>
    obtain ⟨j, so, no, co, hj, rfl, hout, hno⟩ := hrel
    by_cases hlt : j < k
    · have hp : (j : Int) < (k : Int) := by omega
      obtain ⟨rb, roff, rfl, _⟩ := hrow.at (by omega)
      obtain ⟨X, Y, Z, hX, HX3⟩ := hrow.get3 j hlt
      have hlvk := HLV.out _ (List.mem_of_getElem? hX)
      simp only at hlvk
      obtain ⟨t1, t2, t3⟩ := (hout.row hrow hro.out).three hX
      have HX : Hid (rs[j]? = some (X, Y, Z)) := hX
      clear hX
      go_wp2_with fail
      obtain ⟨W2, hW2⟩ : ∃ x, x = wr.alloc (.cells #[.int .u16 X, .int .u8 Y, .int .u8 Z] 72) := ⟨_, rfl⟩
      rw [← hW2]
      have hout2 : OutAt W0 (w.heap.size + 1 + 1 + 1) D W2 so no co (cmb D max (rs.take j)) := hW2 ▸ hout.below (below_alloc wr _)
      have hsz2 : W0.heap.size ≤ W2.drew.heap.size := hout2.gr.size
      have hS0 : Hid ((fun W => W.cell? ⟨w.heap.size + 1 + 1 + 1, 0, none⟩ = some (.int .u8 D) ∧ W.cell? ⟨wr.heap.size, 0, none⟩ = some (.int .u16 X) ∧ W.cell? ⟨wr.heap.size, 1, none⟩ = some (.int .u8 Y) ∧ W.cell? ⟨wr.heap.size, 2, none⟩ = some (.int .u8 Z)) W2.drew) :=
        ⟨hout2.c0, by rw [hW2]; simp, by rw [hW2]; simp, by rw [hW2]; simp⟩
      clear hW2
      replace hout2 := hout2.below (ext_drew _)
      have hc1 : W2.cell? ⟨w.heap.size + 1 + 1 + 1, 1, none⟩ = some (.slice so no co) := hout2.c1
      have hne : ∀ x, (Value.slice so no co).ownBlock = some x → x ≠ wr.heap.size := fun x hx => by have := own_block hout.own x hx; omega
      have HS3 : Hid (∀ w3, W2.drew.grownBy w3 (Value.slice so no co).ownBlock → (fun W => W.cell? ⟨w.heap.size + 1 + 1 + 1, 0, none⟩ = some (.int .u8 D) ∧ W.cell? ⟨wr.heap.size, 0, none⟩ = some (.int .u16 X) ∧ W.cell? ⟨wr.heap.size, 1, none⟩ = some (.int .u8 Y) ∧ W.cell? ⟨wr.heap.size, 2, none⟩ = some (.int .u8 Z)) w3) := fun w3 hg =>
        ⟨(hout2.mid hg).2.2.2.2, hg.cell hS0.out.2.1 (fun e => hne _ e.symm rfl), hg.cell hS0.out.2.2.1 (fun e => hne _ e.symm rfl), hg.cell hS0.out.2.2.2 (fun e => hne _ e.symm rfl)⟩
      have hGne : wr.heap.size ≠ w.heap.size + 1 + 1 + 1 := by have := hout.lt; have := hout.gr.size; omega
      have HS4 : Hid (∀ (w3 : World) (v : Value), (fun W => W.cell? ⟨w.heap.size + 1 + 1 + 1, 0, none⟩ = some (.int .u8 D) ∧ W.cell? ⟨wr.heap.size, 0, none⟩ = some (.int .u16 X) ∧ W.cell? ⟨wr.heap.size, 1, none⟩ = some (.int .u8 Y) ∧ W.cell? ⟨wr.heap.size, 2, none⟩ = some (.int .u8 Z)) w3 → (w3.setCell ⟨w.heap.size + 1 + 1 + 1, 1, none⟩ v).cell? ⟨wr.heap.size, 0, none⟩ = some (.int .u16 X) ∧ (w3.setCell ⟨w.heap.size + 1 + 1 + 1, 1, none⟩ v).cell? ⟨wr.heap.size, 1, none⟩ = some (.int .u8 Y) ∧ (w3.setCell ⟨w.heap.size + 1 + 1 + 1, 1, none⟩ v).cell? ⟨wr.heap.size, 2, none⟩ = some (.int .u8 Z)) := fun w3 v h =>
        ⟨by rw [World.cell?_setCell_far _ _ _ _ (Ne.symm hGne)]; exact h.2.1, by rw [World.cell?_setCell_far _ _ _ _ (Ne.symm hGne)]; exact h.2.2.1, by rw [World.cell?_setCell_far _ _ _ _ (Ne.symm hGne)]; exact h.2.2.2⟩
      clear t1 t2 t3
      refine wp_region_noPanic ?_
      refine wp_region_held_drew (S := fun W => W.cell? ⟨w.heap.size + 1 + 1 + 1, 0, none⟩ = some (.int .u8 D) ∧ W.cell? ⟨wr.heap.size, 0, none⟩ = some (.int .u16 X) ∧ W.cell? ⟨wr.heap.size, 1, none⟩ = some (.int .u8 Y) ∧ W.cell? ⟨wr.heap.size, 2, none⟩ = some (.int .u8 Z)) (by kernel_rfl) hS0.out fun hS => ?_
      refine take_to (i := 0) (v := ?_) 25 rfl rfl (by kernel_rfl) (by kernel_rfl) (by kernel_rfl) (fun _ _ _ h => h) (Or.inl ⟨by rfl, ?_⟩) hS ?_
      rotate_left
      · intro W hW
        obtain ⟨s0, s1, s2, s3⟩ := hW
        go_simp
        try with_reducible rfl
      simp only [List.setIfInBounds_toArray, List.set_cons_zero, List.set_cons_succ]
      refine take_to (i := 2) (v := ?_) 27 rfl rfl (by kernel_rfl) (by kernel_rfl) (by kernel_rfl) (fun _ _ _ h => h) (Or.inl ⟨by rfl, ?_⟩) hS ?_
      rotate_left
      · intro W hW
        obtain ⟨s0, s1, s2, s3⟩ := hW
        go_simp
        try with_reducible rfl
      simp only [List.setIfInBounds_toArray, List.set_cons_zero, List.set_cons_succ]
      refine take_to (i := 3) (v := ?_) 28 rfl rfl (by kernel_rfl) (by kernel_rfl) (by kernel_rfl) (fun _ _ _ h => h) (Or.inl ⟨by rfl, ?_⟩) hS ?_
      rotate_left
      · intro W hW
        obtain ⟨s0, s1, s2, s3⟩ := hW
        go_simp
        try with_reducible rfl
      simp only [List.setIfInBounds_toArray, List.set_cons_zero, List.set_cons_succ]
      refine take_to (i := 4) (v := ?_) 29 rfl rfl (by kernel_rfl) (by kernel_rfl) (by kernel_rfl) (fun _ _ _ h => h) (Or.inl ⟨by rfl, ?_⟩) hS ?_
      rotate_left
      · intro W hW
        obtain ⟨s0, s1, s2, s3⟩ := hW
        go_simp
        try with_reducible rfl
      simp only [List.setIfInBounds_toArray, List.set_cons_zero, List.set_cons_succ]
      refine take_to (i := 5) (v := ?_) 30 rfl rfl (by kernel_rfl) (by kernel_rfl) (by kernel_rfl) (fun _ _ _ h => h) (Or.inl ⟨by rfl, ?_⟩) hS ?_
      rotate_left
      · intro W hW
        obtain ⟨s0, s1, s2, s3⟩ := hW
        go_simp
        try with_reducible rfl
      simp only [List.setIfInBounds_toArray, List.set_cons_zero, List.set_cons_succ]
      refine take_to (i := 6) (v := ?_) 31 rfl rfl (by kernel_rfl) (by kernel_rfl) (by kernel_rfl) (fun _ _ _ h => h) (Or.inl ⟨by rfl, ?_⟩) hS ?_
      rotate_left
      · intro W hW
        obtain ⟨s0, s1, s2, s3⟩ := hW
        go_simp
        try with_reducible rfl
      simp only [List.setIfInBounds_toArray, List.set_cons_zero, List.set_cons_succ]
      refine take_to (i := 7) (v := ?_) 32 rfl rfl (by kernel_rfl) (by kernel_rfl) (by kernel_rfl) (fun _ _ _ h => h) (Or.inl ⟨by rfl, ?_⟩) hS ?_
      rotate_left
      · intro W hW
        obtain ⟨s0, s1, s2, s3⟩ := hW
        go_simp
        try with_reducible rfl
      simp only [List.setIfInBounds_toArray, List.set_cons_zero, List.set_cons_succ]
      refine take_to (i := 8) (v := ?_) 33 rfl rfl (by kernel_rfl) (by kernel_rfl) (by kernel_rfl) (fun _ _ _ h => h) (Or.inl ⟨by rfl, ?_⟩) hS ?_
      rotate_left
      · intro W hW
        obtain ⟨s0, s1, s2, s3⟩ := hW
        go_simp
        try with_reducible rfl
      simp only [List.setIfInBounds_toArray, List.set_cons_zero, List.set_cons_succ]
      refine take_to (i := 11) (v := ?_) 36 rfl rfl (by kernel_rfl) (by kernel_rfl) (by kernel_rfl) (fun _ _ _ h => h) (Or.inl ⟨by rfl, ?_⟩) hS ?_
      rotate_left
      · intro W hW
        obtain ⟨s0, s1, s2, s3⟩ := hW
        go_simp
        try with_reducible rfl
      simp only [List.setIfInBounds_toArray, List.set_cons_zero, List.set_cons_succ]
      refine take_to (i := 12) (v := ?_) 37 rfl rfl (by kernel_rfl) (by kernel_rfl) (by kernel_rfl) (fun _ _ _ h => h) (Or.inl ⟨by rfl, ?_⟩) hS ?_
      rotate_left
      · intro W hW
        obtain ⟨s0, s1, s2, s3⟩ := hW
        go_simp
        try with_reducible rfl
      simp only [List.setIfInBounds_toArray, List.set_cons_zero, List.set_cons_succ]
      refine wpAnyH_ready (rs := [1, 9]) (by kernel_rfl) (by simp) ?_
      refine AllReadyH.cons rfl (fun K hK => ?_) (AllReadyH.cons rfl (fun K hK => ?_) AllReadyH.nil)
      · go_simp
        refine hK.out _ _ hS fun _ => ?_
        clear hK K
        refine wpAnyH_ready (rs := [9]) (by kernel_rfl) (by simp) ?_
        refine AllReadyH.cons rfl (fun K hK => ?_) AllReadyH.nil
        go_simp
        refine (lmax_num Y Z hlvk.1 hlvk.2 _).mono ?_
        rintro e w4 ⟨rfl, rfl⟩
        refine hK.out _ _ hS fun _ => ?_
        clear hK K
        refine take_to (i := 10) (v := ?_) 35 rfl rfl (by kernel_rfl) (by kernel_rfl) (by kernel_rfl) (fun _ _ _ h => h) (Or.inl ⟨by rfl, ?_⟩) hS ?_
        rotate_left
        · intro W hW
          obtain ⟨s0, s1, s2, s3⟩ := hW
          go_simp
          try with_reducible rfl
        simp only [List.setIfInBounds_toArray, List.set_cons_zero, List.set_cons_succ]
        refine wpAnyH_ready (rs := [13]) (by kernel_rfl) (by simp) ?_
        refine AllReadyH.cons rfl (fun K hK => ?_) AllReadyH.nil
        go_simp
        refine (appendUnlike_any so no co _ X (max Y Z) D ⟨HX3.1, by omega⟩ _ W0.heap.size hsz2 hout2.own (by omega)).mono ?_
        rintro e w3 ⟨so', co', no', rfl, hown3, hno3, hg3⟩
        obtain ⟨_, _, m1, m2, m3⟩ := hout2.mid hg3
        have hS3 := HS3.out w3 hg3
        refine hK.out _ _ hS3 fun _ => ?_
        clear hK K
        refine take_to (i := 14) (v := ?_) 39 rfl rfl (by kernel_rfl) (by kernel_rfl) (by kernel_rfl) (fun _ _ _ h => h) (Or.inl ⟨by rfl, ?_⟩) hS3 ?_
        rotate_left
        · intro W hW
          obtain ⟨s0, s1, s2, s3⟩ := hW
          go_simp
          try with_reducible rfl
        simp only [List.setIfInBounds_toArray, List.set_cons_zero, List.set_cons_succ]
        refine wpAnyH_ready (rs := [15]) (by kernel_rfl) (by simp) ?_
        refine AllReadyH.cons rfl (fun K hK => ?_) AllReadyH.nil
        go_simp
        have hout3 := hout2.store hg3 hown3
        refine hK.out _ _ ⟨hout3.c0, HS4.out _ _ hS3⟩ fun _ => ?_
        clear hK K
        refine wpAnyH_done (by kernel_rfl) ?_ _
        refine NoPanic.normal ?_
        go_wp2_with fail
        go_roundw
        case rel =>
          refine ⟨j + 1, so', no', co', by omega, by go_num, ?_, by omega⟩
          rw [take_snoc HX.out, cmb_snoc]
          exact hout3
        case measure => simp [intOf]; omega
      · go_simp
        refine (lmax_num Y Z hlvk.1 hlvk.2 _).mono ?_
        rintro e w4 ⟨rfl, rfl⟩
        refine hK.out _ _ hS fun _ => ?_
        clear hK K
        refine take_to (i := 10) (v := ?_) 35 rfl rfl (by kernel_rfl) (by kernel_rfl) (by kernel_rfl) (fun _ _ _ h => h) (Or.inl ⟨by rfl, ?_⟩) hS ?_
        rotate_left
        · intro W hW
          obtain ⟨s0, s1, s2, s3⟩ := hW
          go_simp
          try with_reducible rfl
        simp only [List.setIfInBounds_toArray, List.set_cons_zero, List.set_cons_succ]
        refine wpAnyH_ready (rs := [1]) (by kernel_rfl) (by simp) ?_
        refine AllReadyH.cons rfl (fun K hK => ?_) AllReadyH.nil
        go_simp
        refine hK.out _ _ hS fun _ => ?_
        clear hK K
        refine wpAnyH_ready (rs := [13]) (by kernel_rfl) (by simp) ?_
        refine AllReadyH.cons rfl (fun K hK => ?_) AllReadyH.nil
        go_simp
        refine (appendUnlike_any so no co _ X (max Y Z) D ⟨HX3.1, by omega⟩ _ W0.heap.size hsz2 hout2.own (by omega)).mono ?_
        rintro e w3 ⟨so', co', no', rfl, hown3, hno3, hg3⟩
        obtain ⟨_, _, m1, m2, m3⟩ := hout2.mid hg3
        have hS3 := HS3.out w3 hg3
        refine hK.out _ _ hS3 fun _ => ?_
        clear hK K
        refine take_to (i := 14) (v := ?_) 39 rfl rfl (by kernel_rfl) (by kernel_rfl) (by kernel_rfl) (fun _ _ _ h => h) (Or.inl ⟨by rfl, ?_⟩) hS3 ?_
        rotate_left
        · intro W hW
          obtain ⟨s0, s1, s2, s3⟩ := hW
          go_simp
          try with_reducible rfl
        simp only [List.setIfInBounds_toArray, List.set_cons_zero, List.set_cons_succ]
        refine wpAnyH_ready (rs := [15]) (by kernel_rfl) (by simp) ?_
        refine AllReadyH.cons rfl (fun K hK => ?_) AllReadyH.nil
        go_simp
        have hout3 := hout2.store hg3 hown3
        refine hK.out _ _ ⟨hout3.c0, HS4.out _ _ hS3⟩ fun _ => ?_
        clear hK K
        refine wpAnyH_done (by kernel_rfl) ?_ _
        refine NoPanic.normal ?_
        go_wp2_with fail
        go_roundw
        case rel =>
          refine ⟨j + 1, so', no', co', by omega, by go_num, ?_, by omega⟩
          rw [take_snoc HX.out, cmb_snoc]
          exact hout3
        case measure => simp [intOf]; omega
    · obtain rfl : j = k := by omega
      have hRr := hout.heap hR (by omega)
      have r0 := cell_of_heap hRr 0 _ rfl
      have r1 := cell_of_heap hRr 1 _ rfl
      have f0 : wr.frozen? ⟨w.heap.size + 1 + 1, 0, none⟩ = false := frozen_of_row wr _ 0 _ 24 hRr
      have f1 : wr.frozen? ⟨w.heap.size + 1 + 1, 1, none⟩ = false := frozen_of_row wr _ 1 _ 24 hRr
      have g0 := hout.c0
      have g1 := hout.c1
      go_wp2_with fail
      obtain ⟨e1, e2, e3⟩ := hout.ret hR (by omega) (by omega) (by omega) hbW
      try simp only [Exit.inBlock, Exit.then]
      refine bodyPost_ret (ret_lab rfl _ _ (w.heap.size + 1 + 1) D so no co rfl e1) rfl ?_
      refine ⟨so, no, co, rfl, ?_, e3⟩
      rwa [List.take_of_length_le (by rw [hrl.out]; exact Nat.le_refl _)] at e2
theorem join_comb (d d' : Int) (a1 a2 : Option Addr) (n1 c1 n2 c2 : Nat) (xs ys : List (Int × Int)) (w : World) (hr : RowG PE w a1 n1 c1 xs) (hs : RowG PE w a2 n2 c2 ys) (hlx : LvL d xs) (hly : LvL d' ys) (hbd : n1 + n2 ≤ 100000000) :
    Calls Try.prog 57 #[.agg #[.int .u8 d, .slice a1 n1 c1], .agg #[.int .u8 d', .slice a2 n2 c2], .func (.func 58) #[] #[]] w fun e w' => ∃ so k co, e = .returned (.agg #[.int .u8 (max d d'), .slice so k co]) ∧ OwnG PE 40 w' w.heap.size so k co (comb max d d' xs ys) ∧ Below w.heap.size w w' :=
  join_comb_at _ _ d d' a1 a2 n1 c1 n2 c2 xs ys rfl rfl w hr hs hlx hly hbd
set_option maxHeartbeats 400000 in
theorem joinL_any (d d' : Int) (a1 a2 : Option Addr) (n1 c1 n2 c2 : Nat) (xs ys : List (Int × Int)) (w : World) (hr : RowG PE w a1 n1 c1 xs) (hs : RowG PE w a2 n2 c2 ys) (hlx : LvL d xs) (hly : LvL d' ys) (hbd : n1 + n2 ≤ 100000000) :
    Calls Try.prog 29 #[.agg #[.int .u8 d, .slice a1 n1 c1], .agg #[.int .u8 d', .slice a2 n2 c2]] w fun e w' => ∃ so k co, e = .returned (.agg #[.int .u8 (max d d'), .slice so k co]) ∧ OwnG PE 40 w' w.heap.size so k co (comb max d d' xs ys) ∧ Below w.heap.size w w' := by
  have hc := fun W (h : Below w.heap.size w W) => join_comb d d' a1 a2 n1 c1 n2 c2 xs ys W (hr.below h) (hs.below h) hlx hly hbd
  generalize max d d' = D at hc ⊢
  generalize comb max d d' xs ys = zs at hc ⊢
  go_enter Try.func29, Try.ntmps29
  go_wp2_with fail
  refine (hc _ (by repeat (first | exact Below.refl _ _ | refine Below.alloc ?_ (by simp <;> omega) _))).mono ?_
  rintro e w1 ⟨so, k, co, rfl, hown, hb⟩
  have hR : w1.heap[w.heap.size + 1 + 1]? = some (.cells #[.int .u8 0, .slice none 0 0] 24 (0, 0)) := by rw [hb.block _ (by simp)]; exact heap_new_at _ _ _ (by simp)
  have hbW : Below w.heap.size w w1 := Below.trans (by repeat (first | exact Below.refl _ _ | refine Below.alloc ?_ (by simp <;> omega) _)) (hb.mono (by simp <;> omega))
  have r0 : w1.cell? ⟨w.heap.size + 1 + 1, 0, none⟩ = some (.int .u8 0) := cell_of_heap hR 0 _ rfl
  have r1 : w1.cell? ⟨w.heap.size + 1 + 1, 1, none⟩ = some (.slice none 0 0) := cell_of_heap hR 1 _ rfl
  have f0 : w1.frozen? ⟨w.heap.size + 1 + 1, 0, none⟩ = false := frozen_of_row w1 _ 0 _ 24 hR
  have f1 : w1.frozen? ⟨w.heap.size + 1 + 1, 1, none⟩ = false := frozen_of_row w1 _ 1 _ 24 hR
  have hres := ret_store (D := D) hR (show w.heap.size ≤ w.heap.size + 1 + 1 by omega) (by simp) hbW hown
  clear hc hb
  go_wp2_with fail
  obtain ⟨e1, e2, e3⟩ := hres
  try simp only [Exit.inBlock, Exit.then]
  refine bodyPost_ret (ret_lab rfl _ _ (w.heap.size + 1 + 1) D so k co rfl e1) rfl ?_
  exact ⟨so, k, co, rfl, e2, e3⟩
end Go.Proofs.Ytdoemkncgfgkhaa
