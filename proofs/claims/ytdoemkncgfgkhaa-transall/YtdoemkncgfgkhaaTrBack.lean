/- What trans.Back answers: a contract. -/
import Derived.Test.YtdoemkncgfgkhaaBkRef
import Derived.Test.YtdoemkncgfgkhaaLabMake
namespace Go.Proofs.Ytdoemkncgfgkhaa
open Go.RowKit
set_option maxRecDepth 100000

set_option maxHeartbeats 4000000 in
theorem appendAt_any (i : Fin 6) (W0 : World) (so : Option Addr) (no co : Nat) (ps : List (Int × Int)) (a : Option Addr) (n cap : Nat) (xs : List Int) (w : World) (hb : Below W0.heap.size W0 w) (hown : OwnG PE 40 w W0.heap.size so no co ps) (hr : RowW W0 a n cap xs) (hbd : no + n ≤ 3000) :
    Calls Try.prog 44 #[.slice so no co, .slice a n cap, pt i] w fun e w' => ∃ so' k co', e = .returned (.slice so' k co') ∧ OwnG PE 40 w' W0.heap.size so' k co' (ps ++ lvP (lev i) xs) ∧ k = no + n ∧ Below W0.heap.size W0 w' := by
  have hl : Hid (xs.length = n) := hr.len
  have hlv : 0 ≤ lev i ∧ lev i ≤ 5 := by revert i; decide
  go_enter Try.func44, Try.ntmps44
  go_wp2_with fail
  refine (of_pt i _).mono ?_
  rintro e w1 ⟨rfl, rfl⟩
  obtain ⟨L, hL⟩ : ∃ L, lev i = L := ⟨_, rfl⟩
  have HV : Hid (lev i = L) := hL
  rw [hL] at hlv ⊢
  clear hL
  go_wp2_with fail
  go_loopw [0, 18] (fun o iv wr => ∃ (j : Nat) (so' : Option Addr) (k co' : Nat), j ≤ n ∧ k = no + j ∧ o = .slice so' k co' ∧ iv = .int .i64 j ∧ Below W0.heap.size W0 wr ∧ OwnG PE 40 wr W0.heap.size so' k co' (ps ++ lvP L (xs.take j))) (fun _ iv _ => n - (intOf iv).toNat)
  case atStart => exact ⟨0, so, no, co, by omega, by omega, rfl, rfl, hb, by simpa [lvP] using hown⟩
  case round =>
    obtain ⟨j, so', k, co', hj, hno, rfl, rfl, hbr, hown'⟩ := hrel
    have HN : Hid (k = no + j) := hno
    have hnb : k ≤ 3000 := by omega
    clear hno
    have hsz := hbr.size
    by_cases hlt : j < n
    · have hp : (j : Int) < (n : Int) := by omega
      obtain ⟨C, zb, zoff, rfl, hC, hCb, z0⟩ := (hr.below hbr).at' j hlt
      have HX : Hid (xs[j]? = some C) := hC
      clear hC
      go_wp2_with (at_builtin; refine wp_append_g (E := PE) _ rfl (.tmp 22) (.tmp 26) 22 rfl 40 Try.underlying22 (.agg #[.int .u16 0, .int .u8 0]) 4 info29 rfl (by omega) W0.heap.size k co' so' _ rfl (hown'.below (below_alloc _ _)) (some ⟨wr.heap.size, 0, none⟩) 1 1 [(C, L)] rfl (owng_lit PE _ 40 [(C, L)] _ rfl 1 rfl (by omega) (Enc.Ok.one ⟨hCb, by omega⟩) _ wr.heap.size (by simp) (by omega)).row (by omega) (by simp; omega) W0 (hbr.alloc hsz _) ?_; intro so2 co2 w5 hown5 hb5 _)
      go_roundw
      case rel =>
        refine ⟨j + 1, so2, k + 1, co2, by omega, by have := HN.out; omega, rfl, by go_num, hb5, ?_⟩
        rw [take_snoc HX.out, lvP_snoc]
        simpa using hown5
      case measure => simp [intOf]; omega
    · obtain rfl : n = j := by omega
      rw [List.take_of_length_le (by rw [hl.out]; exact Nat.le_refl _)] at hown'
      go_wp2_with fail
      go_ret
      exact ⟨so', k, co', rfl, by rw [HV.out]; exact hown', HN.out, hbr⟩
theorem pt_four : pt 4 = .complex .f64 4607182418800017408 0 := rfl
theorem pt_one : pt 1 = .complex .f64 0 4607182418800017408 := rfl
theorem appendAt_4 (W0 : World) (a : Option Addr) (n cap : Nat) (xs : List Int) (w : World) (hb : Below W0.heap.size W0 w) (hr : RowW W0 a n cap xs) (hbd : n ≤ 1000) :
    Calls Try.prog 44 #[.slice none 0 0, .slice a n cap, .complex .f64 4607182418800017408 0] w fun e w' => ∃ so' k co', e = .returned (.slice so' k co') ∧ OwnG PE 40 w' W0.heap.size so' k co' (lvP 4 xs) ∧ k = n ∧ Below W0.heap.size W0 w' := by
  have h := appendAt_any 4 W0 none 0 0 [] a n cap xs w hb (OwnG.of_nil _ _ _ _) hr (by omega)
  rw [pt_four] at h
  exact h.mono fun e w' ⟨so, k, co, h1, h2, h3, h4⟩ => ⟨so, k, co, h1, h2, by omega, h4⟩
theorem appendAt_1 (W0 : World) (so : Option Addr) (no co : Nat) (ps : List (Int × Int)) (a : Option Addr) (n cap : Nat) (xs : List Int) (w : World) (hb : Below W0.heap.size W0 w) (hown : OwnG PE 40 w W0.heap.size so no co ps) (hr : RowW W0 a n cap xs) (hbd : no + n ≤ 3000) :
    Calls Try.prog 44 #[.slice so no co, .slice a n cap, .complex .f64 0 4607182418800017408] w fun e w' => ∃ so' k co', e = .returned (.slice so' k co') ∧ OwnG PE 40 w' W0.heap.size so' k co' (ps ++ lvP 1 xs) ∧ k = no + n ∧ Below W0.heap.size W0 w' := by
  have h := appendAt_any 1 W0 so no co ps a n cap xs w hb hown hr hbd
  rw [pt_one] at h
  exact h
set_option maxHeartbeats 4000000 in
theorem trBack_is (x : Sv) (w : World) (hx : x.In w) (hm : Hid (MayP x.xs x.ys x.zs)) :
    Calls Try.prog 16 #[.agg #[.slice x.a1 x.n1 x.c1, .slice x.a2 x.n2 x.c2, .slice x.a3 x.n3 x.c3]] w fun e w' => ∃ so k co ps, e = .returned (.agg #[.int .u8 2, .slice so k co]) ∧ Lb w' 2 so k co ps ∧ Hid (Bk x.xs x.ys x.zs ps) ∧ Below w.heap.size w w' := by
  have hl := hm.out.2.2
  rw [hx.r1.len, hx.r2.len, hx.r3.len] at hl
  have HC : Hid _ := back_sv w (.slice x.a1 x.n1 x.c1) (.slice x.a2 x.n2 x.c2) (.slice x.a3 x.n3 x.c3)
  go_enter Try.func16, Try.ntmps16
  go_wp2_with fail
  obtain ⟨W0, hW0⟩ : ∃ V, V = (w.alloc (Obj.cells #[.slice x.a1 x.n1 x.c1, .slice x.a2 x.n2 x.c2, .slice x.a3 x.n3 x.c3] 27)).alloc (Obj.cells #[.int .u8 0, .slice none 0 0] 24) := ⟨_, rfl⟩
  rw [← hW0] at HC ⊢
  have hR : W0.heap[w.heap.size + 1]? = some (.cells #[.int .u8 0, .slice none 0 0] 24 (0, 0)) := by rw [hW0]; exact heap_new_at _ _ _ (by simp)
  have hbW : Below w.heap.size w W0 := hW0 ▸ two_allocs _ _ _
  clear hW0
  refine (appendAt_4 W0 x.a1 x.n1 x.c1 x.xs W0 (Below.refl _ _) (hx.r1.below hbW) (by omega)).mono ?_
  rintro e w1 ⟨so1, k1, co1, rfl, ho1, hk1, hb1⟩
  have n1 : k1 ≤ 16 := by omega
  have n2 : k1 + x.n2 ≤ 16 := by omega
  have HK1 : Hid (k1 = x.n1) := hk1
  clear hk1
  obtain ⟨⟨s0, s1, s2⟩, _⟩ := HC.out _ hb1
  go_wp2_with fail
  refine (appendAt_1 W0 so1 k1 co1 _ x.a2 x.n2 x.c2 x.ys w1 hb1 ho1 (hx.r2.below hbW) (by omega)).mono ?_
  rintro e w2 ⟨so2, k2, co2, rfl, ho2, hk2, hb2⟩
  have n3 : k2 + x.n3 ≤ 16 := by have := HK1.out; omega
  have HK2 : Hid (k2 = k1 + x.n2) := hk2
  clear hk2
  clear s0 s1 s2 ho1 hb1
  go_wp2_with fail
  have hB2 : Below W0.heap.size W0 w2.drew := ext_trans hb2 (ext_drew _)
  have ho2' := ho2.below (ext_drew w2)
  refine wp_region_noPanic ?_
  refine wp_region_held_drew (S := fun W => Below W0.heap.size W0 W) (by kernel_rfl) hB2 fun hS => ?_
  refine take_to (i := 0) (v := ?_) 11 rfl rfl (by kernel_rfl) (by kernel_rfl) (by kernel_rfl) (fun _ _ _ h => h) (Or.inl ⟨by rfl, ?_⟩) hS ?_
  rotate_left
  · intro W hW
    obtain ⟨⟨s0, s1, s2⟩, _⟩ := HC.out W hW
    go_simp
    try with_reducible rfl
  simp only [List.setIfInBounds_toArray, List.set_cons_zero, List.set_cons_succ]
  refine take_to (i := 1) (v := ?_) 12 rfl rfl (by kernel_rfl) (by kernel_rfl) (by kernel_rfl) (fun _ _ _ h => h) (Or.inl ⟨by rfl, ?_⟩) hS ?_
  rotate_left
  · intro W hW
    obtain ⟨⟨s0, s1, s2⟩, _⟩ := HC.out W hW
    go_simp
    try with_reducible rfl
  simp only [List.setIfInBounds_toArray, List.set_cons_zero, List.set_cons_succ]
  refine take_to (i := 2) (v := ?_) 13 rfl rfl (by kernel_rfl) (by kernel_rfl) (by kernel_rfl) (fun _ _ _ h => h) (Or.inl ⟨by rfl, ?_⟩) hS ?_
  rotate_left
  · intro W hW
    obtain ⟨⟨s0, s1, s2⟩, _⟩ := HC.out W hW
    go_simp
    try with_reducible rfl
  simp only [List.setIfInBounds_toArray, List.set_cons_zero, List.set_cons_succ]
  refine wpAnyH_ready (rs := [3]) (by kernel_rfl) (by simp) ?_
  refine AllReadyH.cons rfl (fun K hK => ?_) AllReadyH.nil
  go_simp
  refine (point_lev 0 _).mono ?_
  rintro e w3 ⟨rfl, rfl⟩
  refine hK.out _ _ hS fun hS => ?_
  clear hK K
  refine wpAnyH_ready (rs := [4]) (by kernel_rfl) (by simp) ?_
  refine AllReadyH.cons rfl (fun K hK => ?_) AllReadyH.nil
  go_simp
  refine (appendAt_any 0 W0 so2 k2 co2 _ x.a3 x.n3 x.c3 x.zs _ hS ho2' (hx.r3.below hbW) (by omega)).mono ?_
  rintro e w4 ⟨so4, k4, co4, rfl, ho4, hk4, hb4⟩
  have n4 : k4 ≤ 16 := by omega
  clear hk4
  refine hK.out _ _ hb4 fun hS => ?_
  clear hK K
  refine take_to (i := 5) (v := ?_) 3 rfl rfl (by kernel_rfl) (by kernel_rfl) (by kernel_rfl) (fun _ _ _ h => h) (Or.inl ⟨by rfl, ?_⟩) hS ?_
  rotate_left
  · intro W hW
    obtain ⟨⟨s0, s1, s2⟩, _⟩ := HC.out W hW
    go_simp
    try with_reducible rfl
  simp only [List.setIfInBounds_toArray, List.set_cons_zero, List.set_cons_succ]
  refine wpAnyH_done (by kernel_rfl) ?_ _
  refine NoPanic.normal ?_
  go_wp2_with fail
  refine (make_any 19 sort_small (by omega) 2 so4 k4 co4 _ _ ho4.row (by omega)).mono ?_
  rintro e w6 ⟨so6, k6, co6, zs, rfl, hown6, hb6, hcan6, hat6, hk6, _⟩
  have HBk : Hid (Bk x.xs x.ys x.zs zs) := ⟨hcan6, fun c => (hat6 c).trans (bkP_at _ _ _ c)⟩
  clear hcan6 hat6
  have hB6 := ext_trans hb4 hb6
  have hR6 := (hB6.block _ (Array.getElem?_eq_some_iff.1 hR).1).trans hR
  obtain ⟨e1, e2, e3⟩ := ret_store (D := 2) hR6 (show w.heap.size ≤ w.heap.size + 1 by omega) (Array.getElem?_eq_some_iff.1 hR).1 (ext_trans hbW hB6) (hown6.mono hb4.size)
  have q0 : w6.cell? ⟨w.heap.size + 1, 0, none⟩ = some (.int .u8 0) := cell_of_heap hR6 0 _ rfl
  have q1 : w6.cell? ⟨w.heap.size + 1, 1, none⟩ = some (.slice none 0 0) := cell_of_heap hR6 1 _ rfl
  have f0 : w6.frozen? ⟨w.heap.size + 1, 0, none⟩ = false := frozen_of_row w6 _ 0 _ 24 hR6
  have f1 : w6.frozen? ⟨w.heap.size + 1, 1, none⟩ = false := frozen_of_row w6 _ 1 _ 24 hR6
  go_wp2_with fail
  refine bodyPost_ret (ret_lab rfl _ _ (w.heap.size + 1) 2 so6 k6 co6 rfl e1) rfl ?_
  exact ⟨so6, k6, co6, zs, rfl, ⟨e2.row, HBk.out.lvl', HBk.out.can.1, by omega⟩, HBk, e3⟩
end Go.Proofs.Ytdoemkncgfgkhaa
