/- What the document's own Join and Meet answer of labels: contracts. -/
import Derived.Test.YtdoemkncgfgkhaaLabMk
import Derived.Lib.MinMax
namespace Go.Proofs.Ytdoemkncgfgkhaa
open Go.RowKit
set_option maxRecDepth 100000

theorem up_one {ps : List (Int × Int)} (h : UpL ps) {p q : Int × Int} (hp : p ∈ ps) (hq : q ∈ ps) (e : p.1 = q.1) : p = q := by
  obtain ⟨i, hi, rfl⟩ := List.mem_iff_getElem.1 hp
  obtain ⟨j, hj, rfl⟩ := List.mem_iff_getElem.1 hq
  have hlt := List.pairwise_iff_getElem.1 h
  by_cases h1 : i < j
  · have := hlt i j hi hj h1; omega
  · by_cases h2 : j < i
    · have := hlt j i hj hi h2; omega
    · obtain rfl : i = j := by omega
      rfl
theorem atL_uniq (d : Int) {ps : List (Int × Int)} (h : ∀ p ∈ ps, ∀ q ∈ ps, p.1 = q.1 → p = q) {p : Int × Int} (hp : p ∈ ps) : atL d ps p.1 = p.2 := by
  induction ps with
  | nil => simp at hp
  | cons q ps ih =>
    rw [atL_cons]
    by_cases e : q.1 = p.1
    · rw [if_pos e, h q (by simp) p hp e]
    · rw [if_neg e]
      rcases List.mem_cons.1 hp with rfl | hp
      · exact absurd rfl e
      · exact ih (fun a ha b hb => h a (by simp [ha]) b (by simp [hb])) hp
theorem at_rev (d : Int) {ps : List (Int × Int)} (h : UpL ps) (c : Int) : atL d ps.reverse c = atL d ps c := by
  by_cases hc : ∃ p ∈ ps, p.1 = c
  · obtain ⟨p, hp, rfl⟩ := hc
    rw [atL_mem d h hp, atL_uniq d (fun a ha b hb e => up_one h (by simpa using ha) (by simpa using hb) e) (by simpa using hp)]
  · rw [atL_off d ps c (fun p hp e => hc ⟨p, hp, e⟩), atL_off d _ c (fun p hp e => hc ⟨p, by simpa using hp, e⟩)]
theorem both_at (f : Int → Int → Int) (d d' D : Int) (hD : D = f d d') {xs ys : List (Int × Int)} {zs : List Int} (h : Srt zs) (hm : ∀ x, x ∈ zs ↔ x ∈ (xs ++ ys).map Prod.fst) (c : Int) :
    atL D (zs.map fun c => (c, f (atL d xs c) (atL d' ys c))).reverse c = f (atL d xs c) (atL d' ys c) := by
  have hu : UpL (zs.map fun c => (c, f (atL d xs c) (atL d' ys c))) := List.pairwise_map.2 h
  rw [at_rev D hu]
  by_cases hc : c ∈ zs
  · exact atL_mem D hu (List.mem_map.2 ⟨c, hc, rfl⟩ : (c, f (atL d xs c) (atL d' ys c)) ∈ _)
  · have hn := fun hm' => hc ((hm c).2 hm')
    rw [List.map_append, List.mem_append] at hn
    rw [atL_off d xs c (fun p hp e => hn (.inl (List.mem_map.2 ⟨p, hp, e⟩))), atL_off d' ys c (fun p hp e => hn (.inr (List.mem_map.2 ⟨p, hp, e⟩))), ← hD]
    exact atL_off D _ c (fun p hp e => by obtain ⟨x, hx, rfl⟩ := List.mem_map.1 hp; exact hc (e ▸ hx))

set_option maxHeartbeats 4000000 in
theorem both_max (d d' : Int) (a1 a2 : Option Addr) (n1 c1 n2 c2 : Nat) (xs ys : List (Int × Int)) (w : World) (hr : RowG PE w a1 n1 c1 xs) (hs : RowG PE w a2 n2 c2 ys) (hlx : LvL d xs) (hly : LvL d' ys) (hux : UpL xs) (huy : UpL ys) (hbd : n1 + n2 ≤ 1000) :
    Calls Try.prog 56 #[.agg #[.int .u8 d, .slice a1 n1 c1], .agg #[.int .u8 d', .slice a2 n2 c2], .bool true] w fun e w' => ∃ so k co, e = .returned (.agg #[.int .u8 (max d d'), .slice so k co]) ∧ OwnG PE 40 w' w.heap.size so k co (comb max d d' xs ys) ∧ Below w.heap.size w w' := by
  have hcap1 := hr.cap_le
  have hcap2 := hs.cap_le
  have HU : Hid (UpL xs ∧ UpL ys) := ⟨hux, huy⟩
  clear hux huy
  go_enter Try.func56, Try.ntmps56
  go_wp2_with fail
  refine (cats_any d d' a1 a2 n1 c1 n2 c2 xs ys _ (hr.below (by repeat (first | exact Below.refl _ _ | refine Below.alloc ?_ (by simp <;> omega) _))) (hs.below (by repeat (first | exact Below.refl _ _ | refine Below.alloc ?_ (by simp <;> omega) _))) (by omega)).mono ?_
  rintro e W0 ⟨zo, kz, zc, zs, rfl, hzown, hb, hsrt, hmem, hkz⟩
  have hbW : Below w.heap.size w W0 := Below.trans (by repeat (first | exact Below.refl _ _ | refine Below.alloc ?_ (by simp <;> omega) _)) (hb.mono (by simp <;> omega))
  have k0 : W0.cell? ⟨w.heap.size, 0, none⟩ = some (.int .u8 d) := by rw [hb.cell (by first | (simp; done) | (simp; omega))]; exact cell_old _ (by simp)
  have k1 : W0.cell? ⟨w.heap.size, 1, none⟩ = some (.slice a1 n1 c1) := by rw [hb.cell (by first | (simp; done) | (simp; omega))]; exact cell_old _ (by simp)
  have k2 : W0.cell? ⟨w.heap.size + 1, 0, none⟩ = some (.int .u8 d') := by rw [hb.cell (by first | (simp; done) | (simp; omega))]; exact cell_old _ (by simp)
  have k3 : W0.cell? ⟨w.heap.size + 1, 1, none⟩ = some (.slice a2 n2 c2) := by rw [hb.cell (by first | (simp; done) | (simp; omega))]; exact cell_old _ (by simp)
  have hR : W0.heap[w.heap.size + 1 + 1]? = some (.cells #[.int .u8 0, .slice none 0 0] 24 (0, 0)) := by rw [hb.block _ (by simp)]; exact heap_new_at _ _ _ (by simp)
  have HM : Hid (Srt zs ∧ ∀ x, x ∈ zs ↔ x ∈ (xs ++ ys).map Prod.fst) := ⟨hsrt, hmem⟩
  have hzl : Hid (zs.length = kz) := hzown.1
  replace hzown := hzown.row
  have hzcap := hzown.cap_le
  clear hmem hsrt hb
  go_wp2_with fail
  go_loopw [9, 10] (fun o i wr => ∃ (j : Nat) (so : Option Addr) (no co : Nat), j ≤ kz ∧ o = .slice so no co ∧ i = .int .i64 j ∧ Below W0.heap.size W0 wr ∧ OwnG PE 40 wr W0.heap.size so no co ((zs.take j).map fun c => (c, max (atL d xs c) (atL d' ys c))) ∧ no ≤ j) (fun _ i _ => kz - (intOf i).toNat)
  case atStart => exact ⟨0, none, 0, 0, by omega, rfl, rfl, Below.refl _ _, OwnG.of_nil _ _ _ _, by omega⟩
  case round =>
    obtain ⟨j, so, no, co, hj, rfl, rfl, hbr0, hown, hno⟩ := hrel
    have hbr := ext_trans hbW hbr0
    by_cases hlt : j < kz
    · have hp : (j : Int) < (kz : Int) := by omega
      obtain ⟨C, zb, zoff, rfl, hC, hCb, z0⟩ := (hzown.below hbr0).at' j hlt
      have HC : Hid (∀ W, Below wr.heap.size wr W → W.cell? ⟨w.heap.size, 0, none⟩ = some (.int .u8 d) ∧ W.cell? ⟨w.heap.size, 1, none⟩ = some (.slice a1 n1 c1) ∧ W.cell? ⟨w.heap.size + 1, 0, none⟩ = some (.int .u8 d') ∧ W.cell? ⟨w.heap.size + 1, 1, none⟩ = some (.slice a2 n2 c2) ∧ W.cell? ⟨zb, zoff + j, none⟩ = some (.int .u16 C)) := fun W h => by
        have h' := ext_trans hbr0 h
        exact ⟨by rw [h'.cell (lt_of_cell k0)]; exact k0, by rw [h'.cell (lt_of_cell k1)]; exact k1, by rw [h'.cell (lt_of_cell k2)]; exact k2, by rw [h'.cell (lt_of_cell k3)]; exact k3, by rw [h.cell (lt_of_cell z0)]; exact z0⟩
      have HZ : Hid (zs[j]? = some C) := hC
      clear hC z0
      go_wp2_with fail
      refine wp_region_noPanic ?_
      refine wp_region_held_drew (S := fun W => Below wr.heap.size wr W) (by kernel_rfl) (ext_drew wr) fun hS => ?_
      refine take_to (i := 0) (v := ?_) 34 rfl rfl (by kernel_rfl) (by kernel_rfl) (by kernel_rfl) (fun _ _ _ h => h) (Or.inl ⟨by rfl, ?_⟩) hS ?_
      rotate_left
      · intro W hW
        obtain ⟨s0, s1, s2, s3, s4⟩ := HC.out W hW
        go_simp
        try with_reducible rfl
      simp only [List.setIfInBounds_toArray, List.set_cons_zero, List.set_cons_succ]
      refine take_to (i := 1) (v := ?_) 35 rfl rfl (by kernel_rfl) (by kernel_rfl) (by kernel_rfl) (fun _ _ _ h => h) (Or.inl ⟨by rfl, ?_⟩) hS ?_
      rotate_left
      · intro W hW
        obtain ⟨s0, s1, s2, s3, s4⟩ := HC.out W hW
        go_simp
        try with_reducible rfl
      simp only [List.setIfInBounds_toArray, List.set_cons_zero, List.set_cons_succ]
      refine take_to (i := 2) (v := ?_) 36 rfl rfl (by kernel_rfl) (by kernel_rfl) (by kernel_rfl) (fun _ _ _ h => h) (Or.inl ⟨by rfl, ?_⟩) hS ?_
      rotate_left
      · intro W hW
        obtain ⟨s0, s1, s2, s3, s4⟩ := HC.out W hW
        go_simp
        try with_reducible rfl
      simp only [List.setIfInBounds_toArray, List.set_cons_zero, List.set_cons_succ]
      refine take_to (i := 3) (v := ?_) 37 rfl rfl (by kernel_rfl) (by kernel_rfl) (by kernel_rfl) (fun _ _ _ h => h) (Or.inl ⟨by rfl, ?_⟩) hS ?_
      rotate_left
      · intro W hW
        obtain ⟨s0, s1, s2, s3, s4⟩ := HC.out W hW
        go_simp
        try with_reducible rfl
      simp only [List.setIfInBounds_toArray, List.set_cons_zero, List.set_cons_succ]
      refine take_to (i := 4) (v := ?_) 38 rfl rfl (by kernel_rfl) (by kernel_rfl) (by kernel_rfl) (fun _ _ _ h => h) (Or.inl ⟨by rfl, ?_⟩) hS ?_
      rotate_left
      · intro W hW
        obtain ⟨s0, s1, s2, s3, s4⟩ := HC.out W hW
        go_simp
        try with_reducible rfl
      simp only [List.setIfInBounds_toArray, List.set_cons_zero, List.set_cons_succ]
      refine take_to (i := 6) (v := ?_) 40 rfl rfl (by kernel_rfl) (by kernel_rfl) (by kernel_rfl) (fun _ _ _ h => h) (Or.inl ⟨by rfl, ?_⟩) hS ?_
      rotate_left
      · intro W hW
        obtain ⟨s0, s1, s2, s3, s4⟩ := HC.out W hW
        go_simp
        try with_reducible rfl
      simp only [List.setIfInBounds_toArray, List.set_cons_zero, List.set_cons_succ]
      refine take_to (i := 7) (v := ?_) 41 rfl rfl (by kernel_rfl) (by kernel_rfl) (by kernel_rfl) (fun _ _ _ h => h) (Or.inl ⟨by rfl, ?_⟩) hS ?_
      rotate_left
      · intro W hW
        obtain ⟨s0, s1, s2, s3, s4⟩ := HC.out W hW
        go_simp
        try with_reducible rfl
      simp only [List.setIfInBounds_toArray, List.set_cons_zero, List.set_cons_succ]
      refine take_to (i := 8) (v := ?_) 42 rfl rfl (by kernel_rfl) (by kernel_rfl) (by kernel_rfl) (fun _ _ _ h => h) (Or.inl ⟨by rfl, ?_⟩) hS ?_
      rotate_left
      · intro W hW
        obtain ⟨s0, s1, s2, s3, s4⟩ := HC.out W hW
        go_simp
        try with_reducible rfl
      simp only [List.setIfInBounds_toArray, List.set_cons_zero, List.set_cons_succ]
      refine take_to (i := 9) (v := ?_) 43 rfl rfl (by kernel_rfl) (by kernel_rfl) (by kernel_rfl) (fun _ _ _ h => h) (Or.inl ⟨by rfl, ?_⟩) hS ?_
      rotate_left
      · intro W hW
        obtain ⟨s0, s1, s2, s3, s4⟩ := HC.out W hW
        go_simp
        try with_reducible rfl
      simp only [List.setIfInBounds_toArray, List.set_cons_zero, List.set_cons_succ]
      refine take_to (i := 10) (v := ?_) 44 rfl rfl (by kernel_rfl) (by kernel_rfl) (by kernel_rfl) (fun _ _ _ h => h) (Or.inl ⟨by rfl, ?_⟩) hS ?_
      rotate_left
      · intro W hW
        obtain ⟨s0, s1, s2, s3, s4⟩ := HC.out W hW
        go_simp
        try with_reducible rfl
      simp only [List.setIfInBounds_toArray, List.set_cons_zero, List.set_cons_succ]
      refine wpAnyH_ready (rs := [5]) (by kernel_rfl) (by simp) ?_
      refine AllReadyH.cons rfl (fun K hK => ?_) AllReadyH.nil
      go_simp
      refine (refAt_any d a1 n1 c1 xs C _ ((hr.below hbr).below (ext_drew _))).mono ?_
      rintro e w3 ⟨rfl, hb3⟩
      have hB3 : Below wr.heap.size wr w3 := ext_trans (ext_drew _) hb3
      refine hK.out _ _ hB3 fun _ => ?_
      clear hK K
      refine wpAnyH_ready (rs := [11]) (by kernel_rfl) (by simp) ?_
      refine AllReadyH.cons rfl (fun K hK => ?_) AllReadyH.nil
      go_simp
      refine (refAt_any d' a2 n2 c2 ys C _ ((hs.below hbr).below hB3)).mono ?_
      rintro e w4 ⟨rfl, hb4⟩
      have hB4 : Below wr.heap.size wr w4 := ext_trans hB3 hb4
      refine hK.out _ _ hB4 fun _ => ?_
      clear hK K
      obtain ⟨x, hx⟩ : ∃ x, x = atL d xs C := ⟨_, rfl⟩
      obtain ⟨y, hy⟩ : ∃ y, y = atL d' ys C := ⟨_, rfl⟩
      have hxb : 0 ≤ x ∧ x ≤ 5 := hx ▸ atL_lv hlx C
      have hyb : 0 ≤ y ∧ y ≤ 5 := hy ▸ atL_lv hly C
      rw [← hx, ← hy]
      have HXY : Hid (x = atL d xs C ∧ y = atL d' ys C) := ⟨hx, hy⟩
      clear hx hy
      refine wpAnyH_ready (rs := [12]) (by kernel_rfl) (by simp) ?_
      refine AllReadyH.cons rfl (fun K hK => ?_) AllReadyH.nil
      go_simp
      refine hK.out _ _ hB4 fun _ => ?_
      clear hK K
      refine wpAnyH_ready (rs := [13]) (by kernel_rfl) (by simp) ?_
      refine AllReadyH.cons rfl (fun K hK => ?_) AllReadyH.nil
      go_simp
      refine hK.out _ _ hB4 fun _ => ?_
      clear hK K
      refine wpAnyH_done (by kernel_rfl) ?_ _
      refine NoPanic.normal ?_
      have z4 := (HC.out w4 hB4).2.2.2.2
      have h5 := below_alloc w4 (.cells #[.int .u16 C, .int .u8 (max x y)] 40)
      go_wp2_with (at_builtin; refine wp_append_g (E := PE) _ rfl (.tmp 53) (.tmp 60) 22 rfl 40 Try.underlying22 (.agg #[.int .u16 0, .int .u8 0]) 4 info29 rfl (by omega) W0.heap.size no co so _ rfl ((hown.below hB4).below h5) (some ⟨w4.heap.size, 0, none⟩) 1 1 [(C, max x y)] rfl (owng_lit PE _ 40 [(C, max x y)] _ rfl 1 rfl (by omega) (Enc.Ok.one ⟨hCb, by omega⟩) _ w4.heap.size (by simp) (by omega)).row (by omega) (by simpa using Nat.le_succ_of_le (Nat.le_trans hbr0.size hB4.size)) W0 (ext_trans (ext_trans hbr0 hB4) h5) ?_; intro so' co' w5 hown5 hb5 _)
      go_roundw
      case rel =>
        refine ⟨j + 1, so', no + 1, co', by omega, rfl, by go_num, hb5, ?_, by omega⟩
        rw [take_snoc HZ.out, List.map_append, List.map_singleton, ← HXY.out.1, ← HXY.out.2]
        exact hown5
      case measure => simp [intOf]; omega
    · obtain rfl : kz = j := by omega
      rw [List.take_of_length_le (by rw [hzl.out]; exact Nat.le_refl _)] at hown
      have hD : 0 ≤ max d d' ∧ max d d' < 256 := by have := hlx.1; have := hly.1; omega
      obtain ⟨D, HD⟩ : ∃ D, Hid (D = max d d') := ⟨_, rfl⟩
      rw [← HD.out] at hD ⊢
      go_wp2_with fail
      refine (makeLabel_any D hD so no co _ wr hown.row (by omega)).mono ?_
      rintro e w6 ⟨so6, k6, co6, zs6, rfl, hown6, hb6, hsrt6, hmem6⟩
      have hR6 : w6.heap[w.heap.size + 1 + 1]? = some (.cells #[.int .u8 0, .slice none 0 0] 24 (0, 0)) := by
        rw [hb6.block _ (Nat.lt_of_lt_of_le (Array.getElem?_eq_some_iff.1 hR).1 hbr0.size), hbr0.block _ (Array.getElem?_eq_some_iff.1 hR).1]; exact hR
      have r0 : w6.cell? ⟨w.heap.size + 1 + 1, 0, none⟩ = some (.int .u8 0) := cell_of_heap hR6 0 _ rfl
      have r1 : w6.cell? ⟨w.heap.size + 1 + 1, 1, none⟩ = some (.slice none 0 0) := cell_of_heap hR6 1 _ rfl
      have f0 : w6.frozen? ⟨w.heap.size + 1 + 1, 0, none⟩ = false := frozen_of_row w6 _ 0 _ 24 hR6
      have f1 : w6.frozen? ⟨w.heap.size + 1 + 1, 1, none⟩ = false := frozen_of_row w6 _ 1 _ 24 hR6
      have hres := ret_store (D := D) hR6 (show w.heap.size ≤ w.heap.size + 1 + 1 by omega) (Nat.lt_of_lt_of_le (Array.getElem?_eq_some_iff.1 hR).1 hbr0.size) (ext_trans hbr hb6) hown6
      have HS6 : Hid (mkP D (zs.map fun c => (c, max (atL d xs c) (atL d' ys c))) zs6 = comb max d d' xs ys) := by
        show _ = _
        refine can_ext (d := D) (mkP_can _ _ hsrt6) (HD.out ▸ comb_can max d d' HU.out.1 HU.out.2) fun c => ?_
        rw [mkP_at _ _ hsrt6 hmem6, both_at max d d' D HD.out HM.out.1 HM.out.2, HD.out, comb_at max d d' HU.out.1 HU.out.2]
      clear hsrt6 hmem6 hown6
      go_wp2_with fail
      obtain ⟨e1, e2, e3⟩ := hres
      try simp only [Exit.inBlock, Exit.then]
      refine bodyPost_ret (ret_lab rfl _ _ (w.heap.size + 1 + 1) D so6 k6 co6 rfl e1) rfl ?_
      exact ⟨so6, k6, co6, by rw [HD.out], HS6.out ▸ e2, e3⟩
set_option maxHeartbeats 4000000 in
theorem both_min (d d' : Int) (a1 a2 : Option Addr) (n1 c1 n2 c2 : Nat) (xs ys : List (Int × Int)) (w : World) (hr : RowG PE w a1 n1 c1 xs) (hs : RowG PE w a2 n2 c2 ys) (hlx : LvL d xs) (hly : LvL d' ys) (hux : UpL xs) (huy : UpL ys) (hbd : n1 + n2 ≤ 1000) :
    Calls Try.prog 56 #[.agg #[.int .u8 d, .slice a1 n1 c1], .agg #[.int .u8 d', .slice a2 n2 c2], .bool false] w fun e w' => ∃ so k co, e = .returned (.agg #[.int .u8 (min d d'), .slice so k co]) ∧ OwnG PE 40 w' w.heap.size so k co (comb min d d' xs ys) ∧ Below w.heap.size w w' := by
  have hcap1 := hr.cap_le
  have hcap2 := hs.cap_le
  have HU : Hid (UpL xs ∧ UpL ys) := ⟨hux, huy⟩
  clear hux huy
  go_enter Try.func56, Try.ntmps56
  go_wp2_with fail
  refine (cats_any d d' a1 a2 n1 c1 n2 c2 xs ys _ (hr.below (by repeat (first | exact Below.refl _ _ | refine Below.alloc ?_ (by simp <;> omega) _))) (hs.below (by repeat (first | exact Below.refl _ _ | refine Below.alloc ?_ (by simp <;> omega) _))) (by omega)).mono ?_
  rintro e W0 ⟨zo, kz, zc, zs, rfl, hzown, hb, hsrt, hmem, hkz⟩
  have hbW : Below w.heap.size w W0 := Below.trans (by repeat (first | exact Below.refl _ _ | refine Below.alloc ?_ (by simp <;> omega) _)) (hb.mono (by simp <;> omega))
  have k0 : W0.cell? ⟨w.heap.size, 0, none⟩ = some (.int .u8 d) := by rw [hb.cell (by first | (simp; done) | (simp; omega))]; exact cell_old _ (by simp)
  have k1 : W0.cell? ⟨w.heap.size, 1, none⟩ = some (.slice a1 n1 c1) := by rw [hb.cell (by first | (simp; done) | (simp; omega))]; exact cell_old _ (by simp)
  have k2 : W0.cell? ⟨w.heap.size + 1, 0, none⟩ = some (.int .u8 d') := by rw [hb.cell (by first | (simp; done) | (simp; omega))]; exact cell_old _ (by simp)
  have k3 : W0.cell? ⟨w.heap.size + 1, 1, none⟩ = some (.slice a2 n2 c2) := by rw [hb.cell (by first | (simp; done) | (simp; omega))]; exact cell_old _ (by simp)
  have hR : W0.heap[w.heap.size + 1 + 1]? = some (.cells #[.int .u8 0, .slice none 0 0] 24 (0, 0)) := by rw [hb.block _ (by simp)]; exact heap_new_at _ _ _ (by simp)
  have HM : Hid (Srt zs ∧ ∀ x, x ∈ zs ↔ x ∈ (xs ++ ys).map Prod.fst) := ⟨hsrt, hmem⟩
  have hzl : Hid (zs.length = kz) := hzown.1
  replace hzown := hzown.row
  have hzcap := hzown.cap_le
  clear hmem hsrt hb
  go_wp2_with fail
  go_loopw [9, 10] (fun o i wr => ∃ (j : Nat) (so : Option Addr) (no co : Nat), j ≤ kz ∧ o = .slice so no co ∧ i = .int .i64 j ∧ Below W0.heap.size W0 wr ∧ OwnG PE 40 wr W0.heap.size so no co ((zs.take j).map fun c => (c, min (atL d xs c) (atL d' ys c))) ∧ no ≤ j) (fun _ i _ => kz - (intOf i).toNat)
  case atStart => exact ⟨0, none, 0, 0, by omega, rfl, rfl, Below.refl _ _, OwnG.of_nil _ _ _ _, by omega⟩
  case round =>
    obtain ⟨j, so, no, co, hj, rfl, rfl, hbr0, hown, hno⟩ := hrel
    have hbr := ext_trans hbW hbr0
    by_cases hlt : j < kz
    · have hp : (j : Int) < (kz : Int) := by omega
      obtain ⟨C, zb, zoff, rfl, hC, hCb, z0⟩ := (hzown.below hbr0).at' j hlt
      have HC : Hid (∀ W, Below wr.heap.size wr W → W.cell? ⟨w.heap.size, 0, none⟩ = some (.int .u8 d) ∧ W.cell? ⟨w.heap.size, 1, none⟩ = some (.slice a1 n1 c1) ∧ W.cell? ⟨w.heap.size + 1, 0, none⟩ = some (.int .u8 d') ∧ W.cell? ⟨w.heap.size + 1, 1, none⟩ = some (.slice a2 n2 c2) ∧ W.cell? ⟨zb, zoff + j, none⟩ = some (.int .u16 C)) := fun W h => by
        have h' := ext_trans hbr0 h
        exact ⟨by rw [h'.cell (lt_of_cell k0)]; exact k0, by rw [h'.cell (lt_of_cell k1)]; exact k1, by rw [h'.cell (lt_of_cell k2)]; exact k2, by rw [h'.cell (lt_of_cell k3)]; exact k3, by rw [h.cell (lt_of_cell z0)]; exact z0⟩
      have HZ : Hid (zs[j]? = some C) := hC
      clear hC z0
      go_wp2_with fail
      refine wp_region_noPanic ?_
      refine wp_region_held_drew (S := fun W => Below wr.heap.size wr W) (by kernel_rfl) (ext_drew wr) fun hS => ?_
      refine take_to (i := 0) (v := ?_) 34 rfl rfl (by kernel_rfl) (by kernel_rfl) (by kernel_rfl) (fun _ _ _ h => h) (Or.inl ⟨by rfl, ?_⟩) hS ?_
      rotate_left
      · intro W hW
        obtain ⟨s0, s1, s2, s3, s4⟩ := HC.out W hW
        go_simp
        try with_reducible rfl
      simp only [List.setIfInBounds_toArray, List.set_cons_zero, List.set_cons_succ]
      refine take_to (i := 1) (v := ?_) 35 rfl rfl (by kernel_rfl) (by kernel_rfl) (by kernel_rfl) (fun _ _ _ h => h) (Or.inl ⟨by rfl, ?_⟩) hS ?_
      rotate_left
      · intro W hW
        obtain ⟨s0, s1, s2, s3, s4⟩ := HC.out W hW
        go_simp
        try with_reducible rfl
      simp only [List.setIfInBounds_toArray, List.set_cons_zero, List.set_cons_succ]
      refine take_to (i := 2) (v := ?_) 36 rfl rfl (by kernel_rfl) (by kernel_rfl) (by kernel_rfl) (fun _ _ _ h => h) (Or.inl ⟨by rfl, ?_⟩) hS ?_
      rotate_left
      · intro W hW
        obtain ⟨s0, s1, s2, s3, s4⟩ := HC.out W hW
        go_simp
        try with_reducible rfl
      simp only [List.setIfInBounds_toArray, List.set_cons_zero, List.set_cons_succ]
      refine take_to (i := 3) (v := ?_) 37 rfl rfl (by kernel_rfl) (by kernel_rfl) (by kernel_rfl) (fun _ _ _ h => h) (Or.inl ⟨by rfl, ?_⟩) hS ?_
      rotate_left
      · intro W hW
        obtain ⟨s0, s1, s2, s3, s4⟩ := HC.out W hW
        go_simp
        try with_reducible rfl
      simp only [List.setIfInBounds_toArray, List.set_cons_zero, List.set_cons_succ]
      refine take_to (i := 4) (v := ?_) 38 rfl rfl (by kernel_rfl) (by kernel_rfl) (by kernel_rfl) (fun _ _ _ h => h) (Or.inl ⟨by rfl, ?_⟩) hS ?_
      rotate_left
      · intro W hW
        obtain ⟨s0, s1, s2, s3, s4⟩ := HC.out W hW
        go_simp
        try with_reducible rfl
      simp only [List.setIfInBounds_toArray, List.set_cons_zero, List.set_cons_succ]
      refine take_to (i := 6) (v := ?_) 40 rfl rfl (by kernel_rfl) (by kernel_rfl) (by kernel_rfl) (fun _ _ _ h => h) (Or.inl ⟨by rfl, ?_⟩) hS ?_
      rotate_left
      · intro W hW
        obtain ⟨s0, s1, s2, s3, s4⟩ := HC.out W hW
        go_simp
        try with_reducible rfl
      simp only [List.setIfInBounds_toArray, List.set_cons_zero, List.set_cons_succ]
      refine take_to (i := 7) (v := ?_) 41 rfl rfl (by kernel_rfl) (by kernel_rfl) (by kernel_rfl) (fun _ _ _ h => h) (Or.inl ⟨by rfl, ?_⟩) hS ?_
      rotate_left
      · intro W hW
        obtain ⟨s0, s1, s2, s3, s4⟩ := HC.out W hW
        go_simp
        try with_reducible rfl
      simp only [List.setIfInBounds_toArray, List.set_cons_zero, List.set_cons_succ]
      refine take_to (i := 8) (v := ?_) 42 rfl rfl (by kernel_rfl) (by kernel_rfl) (by kernel_rfl) (fun _ _ _ h => h) (Or.inl ⟨by rfl, ?_⟩) hS ?_
      rotate_left
      · intro W hW
        obtain ⟨s0, s1, s2, s3, s4⟩ := HC.out W hW
        go_simp
        try with_reducible rfl
      simp only [List.setIfInBounds_toArray, List.set_cons_zero, List.set_cons_succ]
      refine take_to (i := 9) (v := ?_) 43 rfl rfl (by kernel_rfl) (by kernel_rfl) (by kernel_rfl) (fun _ _ _ h => h) (Or.inl ⟨by rfl, ?_⟩) hS ?_
      rotate_left
      · intro W hW
        obtain ⟨s0, s1, s2, s3, s4⟩ := HC.out W hW
        go_simp
        try with_reducible rfl
      simp only [List.setIfInBounds_toArray, List.set_cons_zero, List.set_cons_succ]
      refine take_to (i := 10) (v := ?_) 44 rfl rfl (by kernel_rfl) (by kernel_rfl) (by kernel_rfl) (fun _ _ _ h => h) (Or.inl ⟨by rfl, ?_⟩) hS ?_
      rotate_left
      · intro W hW
        obtain ⟨s0, s1, s2, s3, s4⟩ := HC.out W hW
        go_simp
        try with_reducible rfl
      simp only [List.setIfInBounds_toArray, List.set_cons_zero, List.set_cons_succ]
      refine wpAnyH_ready (rs := [5]) (by kernel_rfl) (by simp) ?_
      refine AllReadyH.cons rfl (fun K hK => ?_) AllReadyH.nil
      go_simp
      refine (refAt_any d a1 n1 c1 xs C _ ((hr.below hbr).below (ext_drew _))).mono ?_
      rintro e w3 ⟨rfl, hb3⟩
      have hB3 : Below wr.heap.size wr w3 := ext_trans (ext_drew _) hb3
      refine hK.out _ _ hB3 fun _ => ?_
      clear hK K
      refine wpAnyH_ready (rs := [11]) (by kernel_rfl) (by simp) ?_
      refine AllReadyH.cons rfl (fun K hK => ?_) AllReadyH.nil
      go_simp
      refine (refAt_any d' a2 n2 c2 ys C _ ((hs.below hbr).below hB3)).mono ?_
      rintro e w4 ⟨rfl, hb4⟩
      have hB4 : Below wr.heap.size wr w4 := ext_trans hB3 hb4
      refine hK.out _ _ hB4 fun _ => ?_
      clear hK K
      obtain ⟨x, hx⟩ : ∃ x, x = atL d xs C := ⟨_, rfl⟩
      obtain ⟨y, hy⟩ : ∃ y, y = atL d' ys C := ⟨_, rfl⟩
      have hxb : 0 ≤ x ∧ x ≤ 5 := hx ▸ atL_lv hlx C
      have hyb : 0 ≤ y ∧ y ≤ 5 := hy ▸ atL_lv hly C
      rw [← hx, ← hy]
      have HXY : Hid (x = atL d xs C ∧ y = atL d' ys C) := ⟨hx, hy⟩
      clear hx hy
      refine wpAnyH_ready (rs := [12]) (by kernel_rfl) (by simp) ?_
      refine AllReadyH.cons rfl (fun K hK => ?_) AllReadyH.nil
      go_simp
      refine hK.out _ _ hB4 fun _ => ?_
      clear hK K
      refine wpAnyH_ready (rs := [13]) (by kernel_rfl) (by simp) ?_
      refine AllReadyH.cons rfl (fun K hK => ?_) AllReadyH.nil
      go_simp
      refine hK.out _ _ hB4 fun _ => ?_
      clear hK K
      refine wpAnyH_done (by kernel_rfl) ?_ _
      refine NoPanic.normal ?_
      have z4 := (HC.out w4 hB4).2.2.2.2
      have h5 := below_alloc w4 (.cells #[.int .u16 C, .int .u8 (min x y)] 40)
      go_wp2_with (at_builtin; refine wp_append_g (E := PE) _ rfl (.tmp 53) (.tmp 60) 22 rfl 40 Try.underlying22 (.agg #[.int .u16 0, .int .u8 0]) 4 info29 rfl (by omega) W0.heap.size no co so _ rfl ((hown.below hB4).below h5) (some ⟨w4.heap.size, 0, none⟩) 1 1 [(C, min x y)] rfl (owng_lit PE _ 40 [(C, min x y)] _ rfl 1 rfl (by omega) (Enc.Ok.one ⟨hCb, by omega⟩) _ w4.heap.size (by simp) (by omega)).row (by omega) (by simpa using Nat.le_succ_of_le (Nat.le_trans hbr0.size hB4.size)) W0 (ext_trans (ext_trans hbr0 hB4) h5) ?_; intro so' co' w5 hown5 hb5 _)
      go_roundw
      case rel =>
        refine ⟨j + 1, so', no + 1, co', by omega, rfl, by go_num, hb5, ?_, by omega⟩
        rw [take_snoc HZ.out, List.map_append, List.map_singleton, ← HXY.out.1, ← HXY.out.2]
        exact hown5
      case measure => simp [intOf]; omega
    · obtain rfl : kz = j := by omega
      rw [List.take_of_length_le (by rw [hzl.out]; exact Nat.le_refl _)] at hown
      have hD : 0 ≤ min d d' ∧ min d d' < 256 := by have := hlx.1; have := hly.1; omega
      obtain ⟨D, HD⟩ : ∃ D, Hid (D = min d d') := ⟨_, rfl⟩
      rw [← HD.out] at hD ⊢
      go_wp2_with fail
      refine (makeLabel_any D hD so no co _ wr hown.row (by omega)).mono ?_
      rintro e w6 ⟨so6, k6, co6, zs6, rfl, hown6, hb6, hsrt6, hmem6⟩
      have hR6 : w6.heap[w.heap.size + 1 + 1]? = some (.cells #[.int .u8 0, .slice none 0 0] 24 (0, 0)) := by
        rw [hb6.block _ (Nat.lt_of_lt_of_le (Array.getElem?_eq_some_iff.1 hR).1 hbr0.size), hbr0.block _ (Array.getElem?_eq_some_iff.1 hR).1]; exact hR
      have r0 : w6.cell? ⟨w.heap.size + 1 + 1, 0, none⟩ = some (.int .u8 0) := cell_of_heap hR6 0 _ rfl
      have r1 : w6.cell? ⟨w.heap.size + 1 + 1, 1, none⟩ = some (.slice none 0 0) := cell_of_heap hR6 1 _ rfl
      have f0 : w6.frozen? ⟨w.heap.size + 1 + 1, 0, none⟩ = false := frozen_of_row w6 _ 0 _ 24 hR6
      have f1 : w6.frozen? ⟨w.heap.size + 1 + 1, 1, none⟩ = false := frozen_of_row w6 _ 1 _ 24 hR6
      have hres := ret_store (D := D) hR6 (show w.heap.size ≤ w.heap.size + 1 + 1 by omega) (Nat.lt_of_lt_of_le (Array.getElem?_eq_some_iff.1 hR).1 hbr0.size) (ext_trans hbr hb6) hown6
      have HS6 : Hid (mkP D (zs.map fun c => (c, min (atL d xs c) (atL d' ys c))) zs6 = comb min d d' xs ys) := by
        show _ = _
        refine can_ext (d := D) (mkP_can _ _ hsrt6) (HD.out ▸ comb_can min d d' HU.out.1 HU.out.2) fun c => ?_
        rw [mkP_at _ _ hsrt6 hmem6, both_at min d d' D HD.out HM.out.1 HM.out.2, HD.out, comb_at min d d' HU.out.1 HU.out.2]
      clear hsrt6 hmem6 hown6
      go_wp2_with fail
      obtain ⟨e1, e2, e3⟩ := hres
      try simp only [Exit.inBlock, Exit.then]
      refine bodyPost_ret (ret_lab rfl _ _ (w.heap.size + 1 + 1) D so6 k6 co6 rfl e1) rfl ?_
      exact ⟨so6, k6, co6, by rw [HD.out], HS6.out ▸ e2, e3⟩
set_option maxHeartbeats 400000 in
theorem refJoin_any (d d' : Int) (a1 a2 : Option Addr) (n1 c1 n2 c2 : Nat) (xs ys : List (Int × Int)) (w : World) (hr : RowG PE w a1 n1 c1 xs) (hs : RowG PE w a2 n2 c2 ys) (hlx : LvL d xs) (hly : LvL d' ys) (hux : UpL xs) (huy : UpL ys) (hbd : n1 + n2 ≤ 1000) :
    Calls Try.prog 28 #[.agg #[.int .u8 d, .slice a1 n1 c1], .agg #[.int .u8 d', .slice a2 n2 c2]] w fun e w' => ∃ so k co, e = .returned (.agg #[.int .u8 (max d d'), .slice so k co]) ∧ OwnG PE 40 w' w.heap.size so k co (comb max d d' xs ys) ∧ Below w.heap.size w w' := by
  have hc := fun W (h : Below w.heap.size w W) => both_max d d' a1 a2 n1 c1 n2 c2 xs ys W (hr.below h) (hs.below h) hlx hly hux huy hbd
  generalize max d d' = D at hc ⊢
  generalize comb max d d' xs ys = zs at hc ⊢
  go_enter Try.func28, Try.ntmps28
  go_wp2_with fail
  refine (hc _ (by repeat (first | exact Below.refl _ _ | refine Below.alloc ?_ (by simp <;> omega) _))).mono ?_
  rintro e w1 ⟨so, k, co, rfl, hown, hb⟩
  have hR : w1.heap[w.heap.size + 1 + 1]? = some (.cells #[.int .u8 0, .slice none 0 0] 24 (0, 0)) := by rw [hb.block _ (by simp)]; exact heap_new_at _ _ _ (by simp)
  have hbW : Below w.heap.size w w1 := Below.trans (by repeat (first | exact Below.refl _ _ | refine Below.alloc ?_ (by simp <;> omega) _)) (hb.mono (by simp <;> omega))
  have r0 : w1.cell? ⟨w.heap.size + 1 + 1, 0, none⟩ = some (.int .u8 0) := cell_of_heap hR 0 _ rfl
  have r1 : w1.cell? ⟨w.heap.size + 1 + 1, 1, none⟩ = some (.slice none 0 0) := cell_of_heap hR 1 _ rfl
  have f0 : w1.frozen? ⟨w.heap.size + 1 + 1, 0, none⟩ = false := frozen_of_row w1 _ 0 _ 24 hR
  have f1 : w1.frozen? ⟨w.heap.size + 1 + 1, 1, none⟩ = false := frozen_of_row w1 _ 1 _ 24 hR
  have hres := ret_store (D := D) hR (show w.heap.size ≤ w.heap.size + 1 + 1 by omega) (by simp) hbW hown
  clear hc hb
  go_wp2_with fail
  obtain ⟨e1, e2, e3⟩ := hres
  try simp only [Exit.inBlock, Exit.then]
  refine bodyPost_ret (ret_lab rfl _ _ (w.heap.size + 1 + 1) D so k co rfl e1) rfl ?_
  exact ⟨so, k, co, rfl, e2, e3⟩
end Go.Proofs.Ytdoemkncgfgkhaa
