/- What trans.Back answers: a contract. What the document's own Split answers: a contract. What two answers of Split come to, and that trans does something: what the statements ask first. What the walks over trans' laws share. -/
import Derived.Test.YtdoemkncgfgkhaaBkRef
import Derived.Test.YtdoemkncgfgkhaaLabMake
import Derived.Test.YtdoemkncgfgkhaaTr1
import Derived.Test.YtdoemkncgfgkhaaM1Laws
namespace Go.Proofs.Ytdoemkncgfgkhaa
open Go.RowKit
set_option maxRecDepth 100000

set_option maxHeartbeats 4000000 in
theorem appendAt_any (i : Fin 6) (W0 : World) (so : Option Addr) (no co : Nat) (ps : List (Int × Int)) (a : Option Addr) (n cap : Nat) (xs : List Int) (w : World) (hb : Below W0.heap.size W0 w) (hown : OwnG PE 40 w W0.heap.size so no co ps) (hr : RowW W0 a n cap xs) (hbd : no + n ≤ 3000) :
    Calls Try.prog 44 #[.slice so no co, .slice a n cap, pt i] w fun e w' => ∃ so' k co', e = .returned (.slice so' k co') ∧ OwnG PE 40 w' W0.heap.size so' k co' (ps ++ lvP (lev i) xs) ∧ k = no + n ∧ Below W0.heap.size W0 w' := by
  have hl : Hid (xs.length = n) := hr.len
  have hlv : 0 ≤ lev i ∧ lev i ≤ 5 := by revert i; decide
  go_enter Try.func44, Try.ntmps44
  go_wp2_with fail
  refine (of_pt i _).mono ?_
  rintro e w1 ⟨rfl, rfl⟩
  obtain ⟨L, hL⟩ : ∃ L, lev i = L := ⟨_, rfl⟩
  have HV : Hid (lev i = L) := hL
  rw [hL] at hlv ⊢
  clear hL
  go_wp2_with fail
  go_loopw [0, 18] (fun o iv wr => ∃ (j : Nat) (so' : Option Addr) (k co' : Nat), j ≤ n ∧ k = no + j ∧ o = .slice so' k co' ∧ iv = .int .i64 j ∧ Below W0.heap.size W0 wr ∧ OwnG PE 40 wr W0.heap.size so' k co' (ps ++ lvP L (xs.take j))) (fun _ iv _ => n - (intOf iv).toNat)
  case atStart => exact ⟨0, so, no, co, by omega, by omega, rfl, rfl, hb, by simpa [lvP] using hown⟩
  case round =>
    obtain ⟨j, so', k, co', hj, hno, rfl, rfl, hbr, hown'⟩ := hrel
    have HN : Hid (k = no + j) := hno
    have hnb : k ≤ 3000 := by omega
    clear hno
    have hsz := hbr.size
    by_cases hlt : j < n
    · have hp : (j : Int) < (n : Int) := by omega
      obtain ⟨C, zb, zoff, rfl, hC, hCb, z0⟩ := (hr.below hbr).at' j hlt
      have HX : Hid (xs[j]? = some C) := hC
      clear hC
      go_wp2_with (at_builtin; refine wp_append_g (E := PE) _ rfl (.tmp 22) (.tmp 26) 22 rfl 40 Try.underlying22 (.agg #[.int .u16 0, .int .u8 0]) 4 info29 rfl (by omega) W0.heap.size k co' so' _ rfl (hown'.below (below_alloc _ _)) (some ⟨wr.heap.size, 0, none⟩) 1 1 [(C, L)] rfl (owng_lit PE _ 40 [(C, L)] _ rfl 1 rfl (by omega) (Enc.Ok.one ⟨hCb, by omega⟩) _ wr.heap.size (by simp) (by omega)).row (by omega) (by simp; omega) W0 (hbr.alloc hsz _) ?_; intro so2 co2 w5 hown5 hb5 _)
      go_roundw
      case rel =>
        refine ⟨j + 1, so2, k + 1, co2, by omega, by have := HN.out; omega, rfl, by go_num, hb5, ?_⟩
        rw [take_snoc HX.out, lvP_snoc]
        simpa using hown5
      case measure => simp [intOf]; omega
    · obtain rfl : n = j := by omega
      rw [List.take_of_length_le (by rw [hl.out]; exact Nat.le_refl _)] at hown'
      go_wp2_with fail
      go_ret
      exact ⟨so', k, co', rfl, by rw [HV.out]; exact hown', HN.out, hbr⟩
theorem pt_four : pt 4 = .complex .f64 4607182418800017408 0 := rfl
theorem pt_one : pt 1 = .complex .f64 0 4607182418800017408 := rfl
theorem appendAt_4 (W0 : World) (a : Option Addr) (n cap : Nat) (xs : List Int) (w : World) (hb : Below W0.heap.size W0 w) (hr : RowW W0 a n cap xs) (hbd : n ≤ 1000) :
    Calls Try.prog 44 #[.slice none 0 0, .slice a n cap, .complex .f64 4607182418800017408 0] w fun e w' => ∃ so' k co', e = .returned (.slice so' k co') ∧ OwnG PE 40 w' W0.heap.size so' k co' (lvP 4 xs) ∧ k = n ∧ Below W0.heap.size W0 w' := by
  have h := appendAt_any 4 W0 none 0 0 [] a n cap xs w hb (OwnG.of_nil _ _ _ _) hr (by omega)
  rw [pt_four] at h
  exact h.mono fun e w' ⟨so, k, co, h1, h2, h3, h4⟩ => ⟨so, k, co, h1, h2, by omega, h4⟩
theorem appendAt_1 (W0 : World) (so : Option Addr) (no co : Nat) (ps : List (Int × Int)) (a : Option Addr) (n cap : Nat) (xs : List Int) (w : World) (hb : Below W0.heap.size W0 w) (hown : OwnG PE 40 w W0.heap.size so no co ps) (hr : RowW W0 a n cap xs) (hbd : no + n ≤ 3000) :
    Calls Try.prog 44 #[.slice so no co, .slice a n cap, .complex .f64 0 4607182418800017408] w fun e w' => ∃ so' k co', e = .returned (.slice so' k co') ∧ OwnG PE 40 w' W0.heap.size so' k co' (ps ++ lvP 1 xs) ∧ k = no + n ∧ Below W0.heap.size W0 w' := by
  have h := appendAt_any 1 W0 so no co ps a n cap xs w hb hown hr hbd
  rw [pt_one] at h
  exact h
set_option maxHeartbeats 4000000 in
theorem trBack_is (x : Sv) (w : World) (hx : x.In w) (hm : Hid (MayP x.xs x.ys x.zs)) :
    Calls Try.prog 16 #[.agg #[.slice x.a1 x.n1 x.c1, .slice x.a2 x.n2 x.c2, .slice x.a3 x.n3 x.c3]] w fun e w' => ∃ so k co ps, e = .returned (.agg #[.int .u8 2, .slice so k co]) ∧ Lb w' 2 so k co ps ∧ Hid (Bk x.xs x.ys x.zs ps) ∧ Below w.heap.size w w' := by
  have hl := hm.out.2.2
  rw [hx.r1.len, hx.r2.len, hx.r3.len] at hl
  have HC : Hid _ := back_sv w (.slice x.a1 x.n1 x.c1) (.slice x.a2 x.n2 x.c2) (.slice x.a3 x.n3 x.c3)
  go_enter Try.func16, Try.ntmps16
  go_wp2_with fail
  obtain ⟨W0, hW0⟩ : ∃ V, V = (w.alloc (Obj.cells #[.slice x.a1 x.n1 x.c1, .slice x.a2 x.n2 x.c2, .slice x.a3 x.n3 x.c3] 27)).alloc (Obj.cells #[.int .u8 0, .slice none 0 0] 24) := ⟨_, rfl⟩
  rw [← hW0] at HC ⊢
  have hR : W0.heap[w.heap.size + 1]? = some (.cells #[.int .u8 0, .slice none 0 0] 24 (0, 0)) := by rw [hW0]; exact heap_new_at _ _ _ (by simp)
  have hbW : Below w.heap.size w W0 := hW0 ▸ two_allocs _ _ _
  clear hW0
  refine (appendAt_4 W0 x.a1 x.n1 x.c1 x.xs W0 (Below.refl _ _) (hx.r1.below hbW) (by omega)).mono ?_
  rintro e w1 ⟨so1, k1, co1, rfl, ho1, hk1, hb1⟩
  have n1 : k1 ≤ 16 := by omega
  have n2 : k1 + x.n2 ≤ 16 := by omega
  have HK1 : Hid (k1 = x.n1) := hk1
  clear hk1
  obtain ⟨⟨s0, s1, s2⟩, _⟩ := HC.out _ hb1
  go_wp2_with fail
  refine (appendAt_1 W0 so1 k1 co1 _ x.a2 x.n2 x.c2 x.ys w1 hb1 ho1 (hx.r2.below hbW) (by omega)).mono ?_
  rintro e w2 ⟨so2, k2, co2, rfl, ho2, hk2, hb2⟩
  have n3 : k2 + x.n3 ≤ 16 := by have := HK1.out; omega
  have HK2 : Hid (k2 = k1 + x.n2) := hk2
  clear hk2
  clear s0 s1 s2 ho1 hb1
  go_wp2_with fail
  have hB2 : Below W0.heap.size W0 w2.drew := ext_trans hb2 (ext_drew _)
  have ho2' := ho2.below (ext_drew w2)
  refine wp_region_noPanic ?_
  refine wp_region_held_drew (S := fun W => Below W0.heap.size W0 W) (by kernel_rfl) hB2 fun hS => ?_
  refine take_to (i := 0) (v := ?_) 11 rfl rfl (by kernel_rfl) (by kernel_rfl) (by kernel_rfl) (fun _ _ _ h => h) (Or.inl ⟨by rfl, ?_⟩) hS ?_
  rotate_left
  · intro W hW
    obtain ⟨⟨s0, s1, s2⟩, _⟩ := HC.out W hW
    go_simp
    try with_reducible rfl
  simp only [List.setIfInBounds_toArray, List.set_cons_zero, List.set_cons_succ]
  refine take_to (i := 1) (v := ?_) 12 rfl rfl (by kernel_rfl) (by kernel_rfl) (by kernel_rfl) (fun _ _ _ h => h) (Or.inl ⟨by rfl, ?_⟩) hS ?_
  rotate_left
  · intro W hW
    obtain ⟨⟨s0, s1, s2⟩, _⟩ := HC.out W hW
    go_simp
    try with_reducible rfl
  simp only [List.setIfInBounds_toArray, List.set_cons_zero, List.set_cons_succ]
  refine take_to (i := 2) (v := ?_) 13 rfl rfl (by kernel_rfl) (by kernel_rfl) (by kernel_rfl) (fun _ _ _ h => h) (Or.inl ⟨by rfl, ?_⟩) hS ?_
  rotate_left
  · intro W hW
    obtain ⟨⟨s0, s1, s2⟩, _⟩ := HC.out W hW
    go_simp
    try with_reducible rfl
  simp only [List.setIfInBounds_toArray, List.set_cons_zero, List.set_cons_succ]
  refine wpAnyH_ready (rs := [3]) (by kernel_rfl) (by simp) ?_
  refine AllReadyH.cons rfl (fun K hK => ?_) AllReadyH.nil
  go_simp
  refine (point_lev 0 _).mono ?_
  rintro e w3 ⟨rfl, rfl⟩
  refine hK.out _ _ hS fun hS => ?_
  clear hK K
  refine wpAnyH_ready (rs := [4]) (by kernel_rfl) (by simp) ?_
  refine AllReadyH.cons rfl (fun K hK => ?_) AllReadyH.nil
  go_simp
  refine (appendAt_any 0 W0 so2 k2 co2 _ x.a3 x.n3 x.c3 x.zs _ hS ho2' (hx.r3.below hbW) (by omega)).mono ?_
  rintro e w4 ⟨so4, k4, co4, rfl, ho4, hk4, hb4⟩
  have n4 : k4 ≤ 16 := by omega
  clear hk4
  refine hK.out _ _ hb4 fun hS => ?_
  clear hK K
  refine take_to (i := 5) (v := ?_) 3 rfl rfl (by kernel_rfl) (by kernel_rfl) (by kernel_rfl) (fun _ _ _ h => h) (Or.inl ⟨by rfl, ?_⟩) hS ?_
  rotate_left
  · intro W hW
    obtain ⟨⟨s0, s1, s2⟩, _⟩ := HC.out W hW
    go_simp
    try with_reducible rfl
  simp only [List.setIfInBounds_toArray, List.set_cons_zero, List.set_cons_succ]
  refine wpAnyH_done (by kernel_rfl) ?_ _
  refine NoPanic.normal ?_
  go_wp2_with fail
  refine (make_any 19 sort_small (by omega) 2 so4 k4 co4 _ _ ho4.row (by omega)).mono ?_
  rintro e w6 ⟨so6, k6, co6, zs, rfl, hown6, hb6, hcan6, hat6, hk6, _⟩
  have HBk : Hid (Bk x.xs x.ys x.zs zs) := ⟨hcan6, fun c => (hat6 c).trans (bkP_at _ _ _ c)⟩
  clear hcan6 hat6
  have hB6 := ext_trans hb4 hb6
  have hR6 := (hB6.block _ (Array.getElem?_eq_some_iff.1 hR).1).trans hR
  obtain ⟨e1, e2, e3⟩ := ret_store (D := 2) hR6 (show w.heap.size ≤ w.heap.size + 1 by omega) (Array.getElem?_eq_some_iff.1 hR).1 (ext_trans hbW hB6) (hown6.mono hb4.size)
  have q0 : w6.cell? ⟨w.heap.size + 1, 0, none⟩ = some (.int .u8 0) := cell_of_heap hR6 0 _ rfl
  have q1 : w6.cell? ⟨w.heap.size + 1, 1, none⟩ = some (.slice none 0 0) := cell_of_heap hR6 1 _ rfl
  have f0 : w6.frozen? ⟨w.heap.size + 1, 0, none⟩ = false := frozen_of_row w6 _ 0 _ 24 hR6
  have f1 : w6.frozen? ⟨w.heap.size + 1, 1, none⟩ = false := frozen_of_row w6 _ 1 _ 24 hR6
  go_wp2_with fail
  refine bodyPost_ret (ret_lab rfl _ _ (w.heap.size + 1) 2 so6 k6 co6 rfl e1) rfl ?_
  exact ⟨so6, k6, co6, zs, rfl, ⟨e2.row, HBk.out.lvl', HBk.out.can.1, by omega⟩, HBk, e3⟩
end Go.Proofs.Ytdoemkncgfgkhaa

namespace Go.Proofs.Ytdoemkncgfgkhaa
open Go.RowKit
set_option maxRecDepth 100000

theorem rsplit_sv (w : World) (d : Int) (a : Option Addr) (n cap : Nat) : ∀ W, Below ((w.alloc (Obj.cells #[.int .u8 d, .slice a n cap] 24)).alloc (Obj.cells #[.slice none 0 0, .slice none 0 0, .slice none 0 0] 27)).heap.size ((w.alloc (Obj.cells #[.int .u8 d, .slice a n cap] 24)).alloc (Obj.cells #[.slice none 0 0, .slice none 0 0, .slice none 0 0] 27)) W →
    (W.cell? ⟨w.heap.size, 0, none⟩ = some (.int .u8 d) ∧ W.cell? ⟨w.heap.size, 1, none⟩ = some (.slice a n cap)) ∧ W.heap[w.heap.size + 1]? = some (.cells #[.slice none 0 0, .slice none 0 0, .slice none 0 0] 27 (0, 0)) ∧ Below w.heap.size w W := fun W h =>
  ⟨⟨by rw [h.cell (by simp <;> omega)]; simp, by rw [h.cell (by simp <;> omega)]; simp⟩, (h.block _ (by simp)).trans (heap_new_at _ _ _ (by simp)), ext_trans (two_allocs _ _ _) h⟩
set_option maxHeartbeats 8000000 in
theorem refSplit_any (d : Int) (a : Option Addr) (n cap : Nat) (xs : List (Int × Int)) (w : World) (hl : Lb w d a n cap xs) :
    Calls Try.prog 13 #[.agg #[.int .u8 d, .slice a n cap]] w fun e w' => ∃ (r : Sv) (E : Int), e = .returned (.tuple #[.agg #[.slice r.a1 r.n1 r.c1, .slice r.a2 r.n2 r.c2, .slice r.a3 r.n3 r.c3], .int .i64 E]) ∧ r.In w' ∧ Hid (SpP d xs r E) ∧ Below w.heap.size w w' := by
  have HC : Hid _ := rsplit_sv w d a n cap
  have hr := hl.row
  have hle := hl.le
  go_enter Try.func13, Try.ntmps13
  go_wp2_with fail
  obtain ⟨W0, hW0⟩ : ∃ V, V = (w.alloc (Obj.cells #[.int .u8 d, .slice a n cap] 24)).alloc (Obj.cells #[.slice none 0 0, .slice none 0 0, .slice none 0 0] 27) := ⟨_, rfl⟩
  rw [← hW0] at HC ⊢
  have hR0 : w.heap.size + 1 < W0.heap.size := by rw [hW0]; simp
  clear hW0
  have hbW := (HC.out _ (Below.refl _ _)).2.2
  refine (refNames_any d a n cap xs _ (hr.below hbW) (by omega)).mono ?_
  rintro e w1 ⟨rfl, hb1⟩
  obtain ⟨q, hq⟩ : ∃ q, nameB d xs = q := ⟨_, rfl⟩
  have HQ : Hid (nameB d xs = q) := hq
  rw [hq]
  clear hq
  obtain ⟨⟨c0, c1⟩, hR1, hbw1⟩ := HC.out _ hb1
  cases q
  · have k0 := cell_of_heap hR1 0 _ rfl
    have k1 := cell_of_heap hR1 1 _ rfl
    have k2 := cell_of_heap hR1 2 _ rfl
    have f0 := frozen_of_row _ _ 0 _ 27 hR1
    have f1 := frozen_of_row _ _ 1 _ 27 hR1
    have f2 := frozen_of_row _ _ 2 _ 27 hR1
    go_wp2_with fail
    refine bodyPost_ret (ret_sv2 rfl _ _ (w.heap.size + 1) Sv.none rfl (put3_heap hR1 Sv.none)) rfl ?_
    exact ⟨Sv.none, 14, rfl, Sv.none_in _, .inr ⟨HQ.out, rfl, rfl⟩, put3_below hbw1 (by omega) Sv.none⟩
  · go_wp2_with fail
    clear c0 c1 hR1 hbw1
    have hB1 := ext_trans hb1 (ext_drew w1)
    refine wp_region_noPanic ?_
    refine wp_region_held_drew (S := fun W => W.cell? ⟨w.heap.size, 0, none⟩ = some (.int .u8 d) ∧ W.cell? ⟨w.heap.size, 1, none⟩ = some (.slice a n cap)) (by kernel_rfl) (HC.out _ hB1).1 fun hS => ?_
    refine take_to (i := 0) (v := ?_) 8 rfl rfl (by kernel_rfl) (by kernel_rfl) (by kernel_rfl) (fun _ _ _ h => h) (Or.inl ⟨by rfl, ?_⟩) hS ?_
    rotate_left
    · intro W hW
      obtain ⟨c0, c1⟩ := hW
      go_simp
      try with_reducible rfl
    simp only [List.setIfInBounds_toArray, List.set_cons_zero, List.set_cons_succ]
    refine take_to (i := 2) (v := ?_) 10 rfl rfl (by kernel_rfl) (by kernel_rfl) (by kernel_rfl) (fun _ _ _ h => h) (Or.inl ⟨by rfl, ?_⟩) hS ?_
    rotate_left
    · intro W hW
      obtain ⟨c0, c1⟩ := hW
      go_simp
      try with_reducible rfl
    simp only [List.setIfInBounds_toArray, List.set_cons_zero, List.set_cons_succ]
    refine take_to (i := 4) (v := ?_) 12 rfl rfl (by kernel_rfl) (by kernel_rfl) (by kernel_rfl) (fun _ _ _ h => h) (Or.inl ⟨by rfl, ?_⟩) hS ?_
    rotate_left
    · intro W hW
      obtain ⟨c0, c1⟩ := hW
      go_simp
      try with_reducible rfl
    simp only [List.setIfInBounds_toArray, List.set_cons_zero, List.set_cons_succ]
    refine wpAnyH_ready (rs := [1]) (by kernel_rfl) (by simp) ?_
    refine AllReadyH.cons rfl (fun K hK => ?_) AllReadyH.nil
    go_simp
    obtain ⟨_, _, bw⟩ := HC.out _ hB1
    refine (levels_any d a n cap xs 4 _ (hr.below bw) (by omega)).mono ?_
    rintro e v1 ⟨so1, k1, co1, rfl, ho1, hv1⟩
    have hne1 := ownw_ne ho1 (show w.heap.size + 1 < _ from Nat.lt_of_lt_of_le hR0 hB1.size)
    have hw1 := ho1.row
    clear ho1 bw
    replace hv1 := ext_trans hB1 hv1
    refine hK.out _ _ (HC.out _ hv1).1 fun hS => ?_
    clear hK K
    refine wpAnyH_ready (rs := [3]) (by kernel_rfl) (by simp) ?_
    refine AllReadyH.cons rfl (fun K hK => ?_) AllReadyH.nil
    go_simp
    obtain ⟨_, _, bw⟩ := HC.out _ hv1
    refine (levels_any d a n cap xs 1 _ (hr.below bw) (by omega)).mono ?_
    rintro e v2 ⟨so2, k2, co2, rfl, ho2, hv2⟩
    have hne2 := ownw_ne ho2 (show w.heap.size + 1 < _ from Nat.lt_of_lt_of_le hR0 hv1.size)
    have hw2 := ho2.row
    clear ho2 bw
    replace hw1 := hw1.below hv2
    replace hv2 := ext_trans hv1 hv2
    refine hK.out _ _ (HC.out _ hv2).1 fun hS => ?_
    clear hK K
    refine wpAnyH_ready (rs := [5]) (by kernel_rfl) (by simp) ?_
    refine AllReadyH.cons rfl (fun K hK => ?_) AllReadyH.nil
    go_simp
    obtain ⟨_, _, bw⟩ := HC.out _ hv2
    refine (levels_any d a n cap xs 0 _ (hr.below bw) (by omega)).mono ?_
    rintro e v3 ⟨so3, k3, co3, rfl, ho3, hv3⟩
    have hne3 := ownw_ne ho3 (show w.heap.size + 1 < _ from Nat.lt_of_lt_of_le hR0 hv2.size)
    have hw3 := ho3.row
    clear ho3 bw
    replace hw1 := hw1.below hv3
    replace hw2 := hw2.below hv3
    replace hv3 := ext_trans hv2 hv3
    refine hK.out _ _ (HC.out _ hv3).1 fun hS => ?_
    clear hK K
    refine take_to (i := 6) (v := ?_) 14 rfl rfl (by kernel_rfl) (by kernel_rfl) (by kernel_rfl) (fun _ _ _ h => h) (Or.inl ⟨by rfl, ?_⟩) hS ?_
    rotate_left
    · intro W hW
      obtain ⟨c0, c1⟩ := hW
      go_simp
      try with_reducible rfl
    simp only [List.setIfInBounds_toArray, List.set_cons_zero, List.set_cons_succ]
    refine wpAnyH_ready (rs := [7]) (by kernel_rfl) (by simp) ?_
    refine AllReadyH.cons rfl (fun K hK => ?_) AllReadyH.nil
    obtain ⟨⟨s0, s1⟩, hR3, bw⟩ := HC.out _ hv3
    have r0 := sv_cell_of_heap hR3 0 _ rfl
    have r1 := sv_cell_of_heap hR3 1 _ rfl
    have r2 := sv_cell_of_heap hR3 2 _ rfl
    have f0 : v3.frozen? ⟨w.heap.size + 1, 0, none⟩ = false := frozen_of_row v3 _ 0 _ 27 hR3
    have f1 : v3.frozen? ⟨w.heap.size + 1, 1, none⟩ = false := frozen_of_row v3 _ 1 _ 27 hR3
    have f2 : v3.frozen? ⟨w.heap.size + 1, 2, none⟩ = false := frozen_of_row v3 _ 2 _ 27 hR3
    go_simp
    have e1 := put3_heap hR3 (⟨so1, k1, co1, starsL 4 xs, so2, k2, co2, starsL 1 xs, so3, k3, co3, starsL 0 xs⟩ : Sv)
    have e2 : Below w.heap.size w (put3 v3 (w.heap.size + 1) (⟨so1, k1, co1, starsL 4 xs, so2, k2, co2, starsL 1 xs, so3, k3, co3, starsL 0 xs⟩ : Sv)) := put3_below bw (by omega) _
    have e3 : RowW (put3 v3 (w.heap.size + 1) (⟨so1, k1, co1, starsL 4 xs, so2, k2, co2, starsL 1 xs, so3, k3, co3, starsL 0 xs⟩ : Sv)) so1 k1 co1 _ := put3_row hw1 hne1
    have e4 : RowW (put3 v3 (w.heap.size + 1) (⟨so1, k1, co1, starsL 4 xs, so2, k2, co2, starsL 1 xs, so3, k3, co3, starsL 0 xs⟩ : Sv)) so2 k2 co2 _ := put3_row hw2 hne2
    have e5 : RowW (put3 v3 (w.heap.size + 1) (⟨so1, k1, co1, starsL 4 xs, so2, k2, co2, starsL 1 xs, so3, k3, co3, starsL 0 xs⟩ : Sv)) so3 k3 co3 _ := put3_row hw3 hne3
    have hS2 : (put3 v3 (w.heap.size + 1) (⟨so1, k1, co1, starsL 4 xs, so2, k2, co2, starsL 1 xs, so3, k3, co3, starsL 0 xs⟩ : Sv)).cell? ⟨w.heap.size, 0, none⟩ = some (.int .u8 d) ∧ (put3 v3 (w.heap.size + 1) (⟨so1, k1, co1, starsL 4 xs, so2, k2, co2, starsL 1 xs, so3, k3, co3, starsL 0 xs⟩ : Sv)).cell? ⟨w.heap.size, 1, none⟩ = some (.slice a n cap) := ⟨put3_cell s0 (by simp) _, put3_cell s1 (by simp) _⟩
    change K _ (put3 v3 (w.heap.size + 1) (⟨so1, k1, co1, starsL 4 xs, so2, k2, co2, starsL 1 xs, so3, k3, co3, starsL 0 xs⟩ : Sv))
    obtain ⟨V, hV⟩ : ∃ V, V = put3 v3 (w.heap.size + 1) (⟨so1, k1, co1, starsL 4 xs, so2, k2, co2, starsL 1 xs, so3, k3, co3, starsL 0 xs⟩ : Sv) := ⟨_, rfl⟩
    rw [← hV] at e1 e2 e3 e4 e5 hS2 ⊢
    clear hV
    refine hK.out _ _ hS2 fun hS => ?_
    clear hK K
    refine take_to (i := 8) (v := ?_) 3 rfl rfl (by kernel_rfl) (by kernel_rfl) (by kernel_rfl) (fun _ _ _ h => h) (Or.inl ⟨by rfl, ?_⟩) hS ?_
    rotate_left
    · intro W hW
      obtain ⟨c0, c1⟩ := hW
      go_simp
      try with_reducible rfl
    simp only [List.setIfInBounds_toArray, List.set_cons_zero, List.set_cons_succ]
    refine wpAnyH_done (by kernel_rfl) ?_ _
    refine NoPanic.normal ?_
    go_wp2_with fail
    refine bodyPost_ret (ret_sv2 rfl _ _ (w.heap.size + 1) (⟨so1, k1, co1, starsL 4 xs, so2, k2, co2, starsL 1 xs, so3, k3, co3, starsL 0 xs⟩ : Sv) rfl e1) rfl ?_
    exact ⟨(⟨so1, k1, co1, starsL 4 xs, so2, k2, co2, starsL 1 xs, so3, k3, co3, starsL 0 xs⟩ : Sv), 0, rfl, ⟨e3, e4, e5⟩, .inl ⟨HQ.out, rfl, rfl, rfl, rfl⟩, e2⟩
end Go.Proofs.Ytdoemkncgfgkhaa

namespace Go.Proofs.Ytdoemkncgfgkhaa
open Go.RowKit
set_option maxRecDepth 100000

theorem SpP.ok {d : Int} {xs : List (Int × Int)} {r : Sv} {E : Int} (h : SpP d xs r E) (hq : nameB d xs = true) : E = 0 ∧ r.xs = starsL 4 xs ∧ r.ys = starsL 1 xs ∧ r.zs = starsL 0 xs := by
  rcases h with ⟨_, h⟩ | ⟨h, _⟩
  · exact h
  · rw [hq] at h; simp at h
theorem SpP.no {d : Int} {xs : List (Int × Int)} {r : Sv} {E : Int} (h : SpP d xs r E) (hq : nameB d xs = false) : E = 14 ∧ r = Sv.none := by
  rcases h with ⟨h, _⟩ | ⟨_, h⟩
  · rw [hq] at h; simp at h
  · exact h
theorem SpP.same {d : Int} {xs : List (Int × Int)} {r r2 : Sv} {E E2 : Int} (h : SpP d xs r E) (k : SpP d xs r2 E2) : E2 = E ∧ r.same r2 = true := by
  rcases h with ⟨hq, h⟩ | ⟨hq, h⟩
  · have k' := k.ok hq
    exact ⟨by omega, by rw [Sv.same_iff, h.2.1, h.2.2.1, h.2.2.2, k'.2.1, k'.2.2.1, k'.2.2.2]; exact ⟨rfl, rfl, rfl⟩⟩
  · have k' := k.no hq
    exact ⟨by omega, by rw [h.2, k'.2, Sv.same_iff]; exact ⟨rfl, rfl, rfl⟩⟩
theorem SpP.bk {d : Int} {xs : List (Int × Int)} {r : Sv} {E : Int} (h : SpP d xs r E) (hq : nameB d xs = true) (hm : mayB d xs = true) (hv : LvL d xs) : MayP r.xs r.ys r.zs ∧ Bk r.xs r.ys r.zs xs := by
  obtain ⟨_, h1, h2, h3⟩ := h.ok hq
  obtain ⟨rfl, hc, hl⟩ := name_levels hq hm hv
  rw [h1, h2, h3]
  exact ⟨stars_may hc.1 (mayB_iff.1 hm).2.1, Bk.of hc hl⟩
theorem SpP.back {A B C : List Int} {ps : List (Int × Int)} {r : Sv} {E : Int} (h : SpP 2 ps r E) (hB : Bk A B C ps) (hm : MayP A B C) : E = 0 ∧ r.xs = A ∧ r.ys = B ∧ r.zs = C := by
  obtain ⟨h0, h1, h2, h3⟩ := h.ok hB.names
  obtain ⟨k1, k2, k3⟩ := hB.split hm
  exact ⟨h0, h1.trans k1, h2.trans k2, h3.trans k3⟩
@[go_sem] theorem run_fieldL (w : World) (x : Int) (so : Option Addr) (n co : Nat) : (Instr.field 24 (.agg #[.int .u8 x, .slice so n co]) 1).run Try.prog w = .ok (.slice so n co) w := by kernel_rfl
theorem lb_nil (w : World) (d : Int) (hd : 0 ≤ d ∧ d ≤ 5) : Lb w d none 0 0 [] := ⟨RowG.nil _ _, ⟨hd, fun p hp => by simp at hp⟩, List.Pairwise.nil, by omega⟩
theorem bk_three : Bk [3] [] [] [(3, 4)] := by
  have h := Bk.of (ps := [(3, 4)]) ⟨List.pairwise_singleton _ _, by simp⟩ (by simp)
  have e1 : starsL 4 [((3 : Int), (4 : Int))] = [3] := by decide
  have e2 : starsL 1 [((3 : Int), (4 : Int))] = [] := by decide
  have e3 : starsL 0 [((3 : Int), (4 : Int))] = [] := by decide
  rwa [e1, e2, e3] at h
theorem may_three : MayP [3] [] [] := ⟨⟨srt_one _, Srt.nil, Srt.nil⟩, ⟨fun z _ h => by simp at h, fun z _ h => by simp at h, fun z _ h => by simp at h⟩, by decide⟩

set_option maxHeartbeats 4000000 in
theorem begun11_true (w : World) : Calls Try.prog 9 #[] w fun e w' => e = .returned (.bool true) ∧ Below w.heap.size w w' := by
  go_enter Try.func9, Try.ntmps9
  have HK : Hid _ := lit_lab w 4 (by omega) w.heap.size rfl
  go_wp2_with fail
  obtain ⟨W0, hW0⟩ : ∃ V, V = (w.alloc (Obj.cells #[.int .u16 3, .int .u8 4] 40)).alloc (Obj.cells #[.int .u8 2, .slice (some ⟨w.heap.size, 0, none⟩) 1 1] 24) := ⟨_, rfl⟩
  rw [← hW0] at HK ⊢
  clear hW0
  have hon := (HK.out _ (Below.refl _ _)).2.2.1
  have hbw := (HK.out _ (Below.refl _ _)).2.2.2
  refine (split_any 2 _ 1 1 [(3, 4)] _ hon.lb).mono ?_
  rintro e w1 ⟨⟨a1, n1, c1, l1, a2, n2, c2, l2, a3, n3, c3, l3⟩, E, rfl, hr, HS, hb1⟩
  obtain ⟨rfl, rfl, rfl, rfl⟩ := HS.out.back bk_three may_three
  obtain rfl : 1 = n1 := hr.r1.len
  clear HS hon
  have hbw1 := ext_trans hbw hb1
  go_wp2_with fail
  refine (split_any 3 none 0 0 [] _ (lb_nil _ 3 (by omega))).mono ?_
  rintro e w2 ⟨⟨d1, m1, f1, g1, d2, m2, f2, g2, d3, m3, f3, g3⟩, E2, rfl, hr2, HS2, hb2⟩
  obtain ⟨rfl, hnone⟩ := HS2.out.no (by decide)
  clear HS2 hr2 hnone
  have hb12 := ext_trans (below_alloc w1 (Obj.cells #[.slice a1 1 c1, .slice a2 n2 c2, .slice a3 n3 c3] 27)) hb2
  have q0 : w2.cell? ⟨w1.heap.size, 0, none⟩ = some (.slice a1 1 c1) := by rw [hb2.cell (by simp)]; simp
  have q1 : w2.cell? ⟨w1.heap.size, 1, none⟩ = some (.slice a2 n2 c2) := by rw [hb2.cell (by simp)]; simp
  have q2 : w2.cell? ⟨w1.heap.size, 2, none⟩ = some (.slice a3 n3 c3) := by rw [hb2.cell (by simp)]; simp
  have hx : (⟨a1, 1, c1, [3], a2, n2, c2, [], a3, n3, c3, []⟩ : Sv).In (w2.alloc (Obj.cells #[.slice d1 m1 f1, .slice d2 m2 f2, .slice d3 m3 f3] 27)) := hr.below (ext_trans hb12 (below_alloc _ _))
  have hlt : w1.heap.size < w2.heap.size := (Nat.lt_of_lt_of_le (by simp) hb2.size)
  go_wp2_with fail
  refine (trBack_is (⟨a1, 1, c1, [3], a2, n2, c2, [], a3, n3, c3, []⟩ : Sv) _ hx may_three).mono ?_
  rintro e w3 ⟨so, k, co, ps, rfl, hlb, HB, hb3⟩
  obtain rfl := HB.out.uniq bk_three
  obtain rfl : 1 = k := hlb.row.len
  go_wp2_with fail
  go_ret
  exact ⟨rfl, ext_trans hbw1 (ext_trans hb12 (ext_trans (below_alloc _ _) hb3))⟩
end Go.Proofs.Ytdoemkncgfgkhaa

namespace Go.Proofs.Ytdoemkncgfgkhaa
open Go.RowKit
set_option maxRecDepth 100000

theorem lab_sv (w : World) (d : Int) (a : Option Addr) (n cap : Nat) (x : Sv) : ∀ W, Below ((w.alloc (Obj.cells #[.int .u8 d, .slice a n cap] 24)).alloc (Obj.cells #[.slice x.a1 x.n1 x.c1, .slice x.a2 x.n2 x.c2, .slice x.a3 x.n3 x.c3] 27)).heap.size ((w.alloc (Obj.cells #[.int .u8 d, .slice a n cap] 24)).alloc (Obj.cells #[.slice x.a1 x.n1 x.c1, .slice x.a2 x.n2 x.c2, .slice x.a3 x.n3 x.c3] 27)) W →
    ((W.cell? ⟨w.heap.size, 0, none⟩ = some (.int .u8 d) ∧ W.cell? ⟨w.heap.size, 1, none⟩ = some (.slice a n cap)) ∧ (W.cell? ⟨w.heap.size + 1, 0, none⟩ = some (.slice x.a1 x.n1 x.c1) ∧ W.cell? ⟨w.heap.size + 1, 1, none⟩ = some (.slice x.a2 x.n2 x.c2) ∧ W.cell? ⟨w.heap.size + 1, 2, none⟩ = some (.slice x.a3 x.n3 x.c3))) ∧ Below w.heap.size w W := fun W h =>
  ⟨⟨⟨by rw [h.cell (by simp <;> omega)]; simp, by rw [h.cell (by simp <;> omega)]; simp⟩, ⟨by rw [h.cell (by simp <;> omega)]; simp, by rw [h.cell (by simp <;> omega)]; simp, by rw [h.cell (by simp <;> omega)]; simp⟩⟩, ext_trans (two_allocs _ _ _) h⟩
theorem lab_lab (w : World) (d : Int) (a : Option Addr) (n cap : Nat) (d' : Int) (b : Option Addr) (m cap2 : Nat) : ∀ W, Below ((w.alloc (Obj.cells #[.int .u8 d, .slice a n cap] 24)).alloc (Obj.cells #[.int .u8 d', .slice b m cap2] 24)).heap.size ((w.alloc (Obj.cells #[.int .u8 d, .slice a n cap] 24)).alloc (Obj.cells #[.int .u8 d', .slice b m cap2] 24)) W →
    ((W.cell? ⟨w.heap.size, 0, none⟩ = some (.int .u8 d) ∧ W.cell? ⟨w.heap.size, 1, none⟩ = some (.slice a n cap)) ∧ (W.cell? ⟨w.heap.size + 1, 0, none⟩ = some (.int .u8 d') ∧ W.cell? ⟨w.heap.size + 1, 1, none⟩ = some (.slice b m cap2))) ∧ Below w.heap.size w W := fun W h =>
  ⟨⟨⟨by rw [h.cell (by simp <;> omega)]; simp, by rw [h.cell (by simp <;> omega)]; simp⟩, ⟨by rw [h.cell (by simp <;> omega)]; simp, by rw [h.cell (by simp <;> omega)]; simp⟩⟩, ext_trans (two_allocs _ _ _) h⟩
theorem one_lab (w : World) (d : Int) (a : Option Addr) (n cap : Nat) : ∀ W, Below (w.alloc (Obj.cells #[.int .u8 d, .slice a n cap] 24)).heap.size (w.alloc (Obj.cells #[.int .u8 d, .slice a n cap] 24)) W →
    (W.cell? ⟨w.heap.size, 0, none⟩ = some (.int .u8 d) ∧ W.cell? ⟨w.heap.size, 1, none⟩ = some (.slice a n cap)) ∧ Below w.heap.size w W := fun W h =>
  ⟨⟨by rw [h.cell (by simp)]; simp, by rw [h.cell (by simp)]; simp⟩, ext_trans (below_alloc _ _) h⟩
/-- A label of sets that a call answered is put into a variable of its own: all that was known stays known. -/
theorem more_sv {w w3 : World} {P : World → Prop} (r : Sv) {W0 : World} (HC : Hid (∀ W, Below W0.heap.size W0 W → P W ∧ Below w.heap.size w W)) (hr : r.In w3) (hb : Below W0.heap.size W0 w3) :
    Hid (∀ W, Below (w3.alloc (Obj.cells #[.slice r.a1 r.n1 r.c1, .slice r.a2 r.n2 r.c2, .slice r.a3 r.n3 r.c3] 27)).heap.size (w3.alloc (Obj.cells #[.slice r.a1 r.n1 r.c1, .slice r.a2 r.n2 r.c2, .slice r.a3 r.n3 r.c3] 27)) W → (P W ∧ (W.cell? ⟨w3.heap.size, 0, none⟩ = some (.slice r.a1 r.n1 r.c1) ∧ W.cell? ⟨w3.heap.size, 1, none⟩ = some (.slice r.a2 r.n2 r.c2) ∧ W.cell? ⟨w3.heap.size, 2, none⟩ = some (.slice r.a3 r.n3 r.c3)) ∧ r.In W) ∧ Below w.heap.size w W) := fun W h => by
  have h3 := ext_trans (below_alloc w3 (Obj.cells #[.slice r.a1 r.n1 r.c1, .slice r.a2 r.n2 r.c2, .slice r.a3 r.n3 r.c3] 27)) h
  obtain ⟨hp, hbw⟩ := HC.out W (ext_trans hb h3)
  exact ⟨⟨hp, ⟨by rw [h.cell (by simp)]; simp, by rw [h.cell (by simp)]; simp, by rw [h.cell (by simp)]; simp⟩, hr.below h3⟩, hbw⟩
theorem refSame_true {d : Int} {a b : Option Addr} {n cap m cap2 : Nat} {xs ys : List (Int × Int)} {w : World} (hr : RowG PE w a n cap xs) (hs : RowG PE w b m cap2 ys) (h : xs = ys) :
    Calls Try.prog 15 #[.agg #[.int .u8 d, .slice a n cap], .agg #[.int .u8 d, .slice b m cap2]] w fun e w' => e = .returned (.bool true) ∧ Below w.heap.size w w' := by
  have := refSame_any d a n cap xs d b m cap2 ys w hr hs
  rwa [decide_eq_true ⟨rfl, h⟩] at this
theorem mayL_is (q : Bool) {d : Int} {a : Option Addr} {n cap : Nat} {xs : List (Int × Int)} {w : World} (hr : RowG PE w a n cap xs) (hq : Hid (mayB d xs = q)) :
    Calls Try.prog 10 #[.agg #[.int .u8 d, .slice a n cap]] w fun e w' => e = .returned (.bool q) ∧ Below w.heap.size w w' := by
  have := refMayL_any d a n cap xs w hr
  rwa [hq.out] at this
end Go.Proofs.Ytdoemkncgfgkhaa
