/- May1Stars answers true: the walk. The label t has fewer than 2^45 pairs: more do not fit into what a slice may take. -/
import Derived.Test.YtnenljdcgokneaaM1Laws
import Derived.Test.YtnenljdcgokneaaLabSetAt
namespace Go.Proofs.Ytnenljdcgokneaa
open Go.RowKit

theorem Lb.at {w W : World} {d : Int} {a : Option Addr} {n cap : Nat} {xs : List (Int × Int)} (h : Lb w d a n cap xs) (r : RowG PE W a n cap xs) : Lb W d a n cap xs := ⟨r, h.lv, h.up, h.le⟩
/-- A star of a category sees whatever stands there. -/
theorem star_sees {d d' c : Int} {os ys ts : List (Int × Int)} (hu : UpL os) (h0 : atL d os c = 0) (ly : LvL d' ys) (lt : LvL d' ts) (he : ∀ x, x ≠ c → atL d' ys x = atL d' ts x) :
    FlL d' ys (riseL d) (riseP d os) ↔ FlL d' ts (riseL d) (riseP d os) := by
  have h5 : ∀ x, x = c → atL (riseL d) (riseP d os) x = 5 := fun x hx => by rw [rise_at d hu, hx, h0]; rfl
  constructor
  · intro h x
    by_cases hx : x = c
    · rw [h5 x hx]; exact (atL_lv lt x).2
    · rw [← he x hx]; exact h x
  · intro h x
    by_cases hx : x = c
    · rw [h5 x hx]; exact (atL_lv ly x).2
    · rw [he x hx]; exact h x
/-- And turns it. -/
theorem star_turns {d d' c : Int} {os ys ts : List (Int × Int)} (h0 : atL d os c = 0) (ly : LvL d' ys) (lt : LvL d' ts) (he : ∀ x, x ≠ c → atL d' ys x = atL d' ts x) :
    FlL d os d' ys ↔ FlL d os d' ts := by
  constructor
  · intro h x
    by_cases hx : x = c
    · rw [hx, h0]; exact (atL_lv lt c).1
    · rw [← he x hx]; exact h x
  · intro h x
    by_cases hx : x = c
    · rw [hx, h0]; exact (atL_lv ly c).1
    · rw [he x hx]; exact h x

set_option maxHeartbeats 16000000 in
theorem may1Stars_walk (d : Int) (h0d : 0 ≤ d ∧ d < 256) (a1 : Option Addr) (n1 c1 : Nat) (xs : List (Int × Int)) (d' : Int) (h1d : 0 ≤ d' ∧ d' < 256) (a2 : Option Addr) (n2 c2 : Nat) (ys : List (Int × Int)) (c : Int) (hc : 0 ≤ c ∧ c < 65536) (lev : Int) (hlev : 0 ≤ lev ∧ lev < 256) (hbd : n1 < 35184372088832) (w : World) (h0 : RowG PE w a1 n1 c1 xs) (h1 : RowG PE w a2 n2 c2 ys) :
    Calls Try.prog 6 #[.agg #[.int .u8 d, .slice a1 n1 c1], .agg #[.int .u8 d', .slice a2 n2 c2], .int .u16 c, .int .u8 lev] w fun e w' => e = .returned (.bool true) ∧ Below w.heap.size w w' := by
  have HC : Hid _ := two_labs w (.int .u8 d) (.slice a1 n1 c1) (.int .u8 d') (.slice a2 n2 c2)
  go_enter Try.func6, Try.ntmps6
  go_wp2_with fail
  refine (begun7_true _).mono ?_
  rintro e w1 ⟨rfl, hb1⟩
  obtain ⟨k00, k01, k10, k11, bw⟩ := HC.out _ hb1
  go_wp2_with fail
  refine (setAt_any d h0d a1 n1 c1 xs c 0 hc (by omega) _ (h0.below bw) hbd).mono ?_
  rintro e w2 ⟨so, k, co, zs, rfl, hown, hb2, hsrt, hmem⟩
  replace hb2 := ext_trans hb1 hb2
  have OSH : Hid (atL d (mkP d (xs ++ [(c, 0)]) zs) c = 0) := by
    show _ = _
    rw [mkP_at _ _ hsrt hmem, at_rev_snoc, if_pos rfl]
  have hor := hown.row
  clear hown hsrt hmem
  generalize mkP d (xs ++ [(c, 0)]) zs = os at hor OSH
  clear bw k00 k01 k10 k11 hb1
  obtain ⟨k00, k01, k10, k11, bw⟩ := HC.out _ hb2
  have y0 := cell_old (Obj.cells #[.int .u8 d, .slice so k co] 24) k00
  have y1 := cell_old (Obj.cells #[.int .u8 d, .slice so k co] 24) k01
  go_wp2_with fail
  clear y0 y1
  obtain ⟨V, hV⟩ : ∃ x, x = w2.alloc (Obj.cells #[.int .u8 d, .slice so k co] 24) := ⟨_, rfl⟩
  rw [← hV]
  have HC2 : Hid (∀ W, Below V.heap.size V W → W.cell? ⟨w.heap.size, 0, none⟩ = some (.int .u8 d) ∧ W.cell? ⟨w.heap.size, 1, none⟩ = some (.slice a1 n1 c1) ∧ W.cell? ⟨w.heap.size + 1, 0, none⟩ = some (.int .u8 d') ∧ W.cell? ⟨w.heap.size + 1, 1, none⟩ = some (.slice a2 n2 c2) ∧ W.cell? ⟨w2.heap.size, 0, none⟩ = some (.int .u8 d) ∧ W.cell? ⟨w2.heap.size, 1, none⟩ = some (.slice so k co) ∧ RowG PE W so k co os ∧ Below w.heap.size w W) := fun W h => by
    rw [hV] at h
    obtain ⟨q0, q1, q2, q3, qb⟩ := HC.out _ (ext_trans (ext_trans hb2 (below_alloc _ _)) h)
    exact ⟨q0, q1, q2, q3, by rw [h.cell (by simp)]; simp, by rw [h.cell (by simp)]; simp, (hor.below (below_alloc _ _)).below h, qb⟩
  have hV0 := Below.refl V.heap.size V
  clear hV bw k00 k01 k10 k11 hb2 HC
  obtain ⟨k00, k01, k10, k11, o0, o1, ro, bw⟩ := HC2.out _ hV0
  refine (refMay_any d a1 n1 c1 xs _ (h0.below bw)).mono ?_
  rintro e m1 ⟨rfl, hm1⟩
  replace hm1 := ext_trans hV0 hm1
  clear hV0
  clear bw k00 k01 k10 k11 o0 o1 ro
  obtain ⟨k00, k01, k10, k11, o0, o1, ro, bw⟩ := HC2.out _ hm1
  cases hq0 : mayB d xs
  · go_wp2_with fail
    go_ret
    exact ⟨rfl, bw⟩
  clear hq0
  go_wp2_with fail
  refine (refMay_any d so k co os _ ro).mono ?_
  rintro e m2 ⟨rfl, hm2⟩
  replace hm2 := ext_trans hm1 hm2
  clear hm1
  clear bw k00 k01 k10 k11 o0 o1 ro
  obtain ⟨k00, k01, k10, k11, o0, o1, ro, bw⟩ := HC2.out _ hm2
  cases hq1 : mayB d os
  · go_wp2_with fail
    go_ret
    exact ⟨rfl, bw⟩
  have LO := may_lb h0d.1 hor hq1
  clear hq1
  go_wp2_with fail
  refine (refMay_any d' a2 n2 c2 ys _ (h1.below bw)).mono ?_
  rintro e m3 ⟨rfl, hm3⟩
  replace hm3 := ext_trans hm2 hm3
  clear hm2
  clear bw k00 k01 k10 k11 o0 o1 ro
  obtain ⟨k00, k01, k10, k11, o0, o1, ro, bw⟩ := HC2.out _ hm3
  cases hq2 : mayB d' ys
  · go_wp2_with fail
    go_ret
    exact ⟨rfl, bw⟩
  have L1 := may_lb h1d.1 h1 hq2
  have l1 := L1.1.le
  clear hq2
  by_cases hl1 : lev < 1
  · have hl1' : decide (lev < 1) = true := by simpa using hl1
    go_wp2_with fail
    go_ret
    exact ⟨rfl, bw⟩
  have hl1' : decide (lev < 1) = false := by simpa using hl1
  by_cases hl4 : 4 < lev
  · have hl4' : decide (4 < lev) = true := by simpa using hl4
    go_wp2_with fail
    go_ret
    exact ⟨rfl, bw⟩
  have hl4' : decide (4 < lev) = false := by simpa using hl4
  go_wp2_with fail
  refine (setAt_any d' h1d a2 n2 c2 ys c lev hc hlev _ (h1.below bw) (by omega)).mono ?_
  rintro e w3 ⟨so2, k2, co2, zs2, rfl, hown2, hb3, hsrt2, hmem2⟩
  replace hb3 := ext_trans hm3 hb3
  have TSH : Hid (∀ x, x ≠ c → atL d' ys x = atL d' (mkP d' (ys ++ [(c, lev)]) zs2) x) := fun x hx => by
    rw [mkP_at _ _ hsrt2 hmem2, at_rev_snoc, if_neg (Ne.symm hx), at_rev _ L1.1.up]
  have hxr := hown2.row
  clear hown2 hsrt2 hmem2
  generalize mkP d' (ys ++ [(c, lev)]) zs2 = ts at hxr TSH
  clear hm3
  clear bw k00 k01 k10 k11 o0 o1 ro
  obtain ⟨k00, k01, k10, k11, o0, o1, ro, bw⟩ := HC2.out _ hb3
  have y0 := cell_old (Obj.cells #[.int .u8 d', .slice so2 k2 co2] 24) k10
  have y1 := cell_old (Obj.cells #[.int .u8 d', .slice so2 k2 co2] 24) k11
  go_wp2_with fail
  clear y0 y1
  obtain ⟨V2, hV2⟩ : ∃ x, x = w3.alloc (Obj.cells #[.int .u8 d', .slice so2 k2 co2] 24) := ⟨_, rfl⟩
  rw [← hV2]
  have HC3 : Hid (∀ W, Below V2.heap.size V2 W → W.cell? ⟨w.heap.size, 0, none⟩ = some (.int .u8 d) ∧ W.cell? ⟨w.heap.size, 1, none⟩ = some (.slice a1 n1 c1) ∧ W.cell? ⟨w.heap.size + 1, 0, none⟩ = some (.int .u8 d') ∧ W.cell? ⟨w.heap.size + 1, 1, none⟩ = some (.slice a2 n2 c2) ∧ W.cell? ⟨w2.heap.size, 0, none⟩ = some (.int .u8 d) ∧ W.cell? ⟨w2.heap.size, 1, none⟩ = some (.slice so k co) ∧ RowG PE W so k co os ∧ W.cell? ⟨w3.heap.size, 0, none⟩ = some (.int .u8 d') ∧ W.cell? ⟨w3.heap.size, 1, none⟩ = some (.slice so2 k2 co2) ∧ RowG PE W so2 k2 co2 ts ∧ Below w.heap.size w W) := fun W h => by
    rw [hV2] at h
    obtain ⟨q0, q1, q2, q3, q4, q5, q6, qb⟩ := HC2.out _ (ext_trans (ext_trans hb3 (below_alloc _ _)) h)
    exact ⟨q0, q1, q2, q3, q4, q5, q6, by rw [h.cell (by simp)]; simp, by rw [h.cell (by simp)]; simp, (hxr.below (below_alloc _ _)).below h, qb⟩
  have hV0 := Below.refl V2.heap.size V2
  clear hV2 bw k00 k01 k10 k11 o0 o1 ro hb3 HC2
  obtain ⟨k00, k01, k10, k11, o0, o1, ro, x0, x1, rx, bw⟩ := HC3.out _ hV0
  refine (refAt_any d' a2 n2 c2 ys c _ (h1.below bw)).mono ?_
  rintro e m4 ⟨rfl, hm4⟩
  replace hm4 := ext_trans hV0 hm4
  clear hV0
  clear bw k00 k01 k10 k11 o0 o1 ro x0 x1 rx
  obtain ⟨k00, k01, k10, k11, o0, o1, ro, x0, x1, rx, bw⟩ := HC3.out _ hm4
  generalize atL d' ys c = y
  by_cases hy : y = 0
  · subst hy
    go_wp2_with fail
    go_ret
    exact ⟨rfl, bw⟩
  have hy' : (y == 0) = false := by simpa using hy
  go_wp2_with fail
  refine (refMay_any d' so2 k2 co2 ts _ rx).mono ?_
  rintro e m5 ⟨rfl, hm5⟩
  replace hm5 := ext_trans hm4 hm5
  clear hm4
  clear bw k00 k01 k10 k11 o0 o1 ro x0 x1 rx
  obtain ⟨k00, k01, k10, k11, o0, o1, ro, x0, x1, rx, bw⟩ := HC3.out _ hm5
  cases hq3 : mayB d' ts
  · go_wp2_with fail
    go_ret
    exact ⟨rfl, bw⟩
  have LX := may_lb h1d.1 hxr hq3
  clear hq3
  obtain ⟨qs, qsh⟩ := bool_of (FlL d' ys (riseL d) (riseP d os))
  have QSH : Hid (qs = true ↔ FlL d' ys (riseL d) (riseP d os)) := qsh
  clear qsh
  obtain ⟨qt, qth⟩ := bool_of (FlL d os d' ys)
  have QTH : Hid (qt = true ↔ FlL d os d' ys) := qth
  clear qth
  have QS2 : Hid (qs = true ↔ FlL d' ts (riseL d) (riseP d os)) := QSH.out.trans (star_sees LO.1.up OSH.out L1.1.lv LX.1.lv TSH.out)
  have QT2 : Hid (qt = true ↔ FlL d os d' ts) := QTH.out.trans (star_turns OSH.out L1.1.lv LX.1.lv TSH.out)
  have e1 : (qs == qs) = true := by simp
  have e2 : (qt == qt) = true := by simp
  go_wp2_with fail
  clear bw k00 k01 k10 k11 o0 o1 ro x0 x1 rx
  have hB0 : Below V2.heap.size V2 _ := ext_trans hm5 (ext_drew _)
  refine wp_region_noPanic ?_
  refine wp_region_held_drew (S := fun W => Below V2.heap.size V2 W) (by kernel_rfl) hB0 fun hS => ?_
  refine take_to (i := 0) (v := ?_) 50 rfl rfl (by kernel_rfl) (by kernel_rfl) (by kernel_rfl) (fun _ _ _ h => h) (Or.inl ⟨by rfl, ?_⟩) hS ?_
  rotate_left
  · intro W hW
    obtain ⟨k00, k01, k10, k11, o0, o1, _, x0, x1, _, _⟩ := HC3.out W hW
    go_simp
    try with_reducible rfl
  simp only [List.setIfInBounds_toArray, List.set_cons_zero, List.set_cons_succ]
  refine take_to (i := 1) (v := ?_) 51 rfl rfl (by kernel_rfl) (by kernel_rfl) (by kernel_rfl) (fun _ _ _ h => h) (Or.inl ⟨by rfl, ?_⟩) hS ?_
  rotate_left
  · intro W hW
    obtain ⟨k00, k01, k10, k11, o0, o1, _, x0, x1, _, _⟩ := HC3.out W hW
    go_simp
    try with_reducible rfl
  simp only [List.setIfInBounds_toArray, List.set_cons_zero, List.set_cons_succ]
  refine take_to (i := 3) (v := ?_) 53 rfl rfl (by kernel_rfl) (by kernel_rfl) (by kernel_rfl) (fun _ _ _ h => h) (Or.inl ⟨by rfl, ?_⟩) hS ?_
  rotate_left
  · intro W hW
    obtain ⟨k00, k01, k10, k11, o0, o1, _, x0, x1, _, _⟩ := HC3.out W hW
    go_simp
    try with_reducible rfl
  simp only [List.setIfInBounds_toArray, List.set_cons_zero, List.set_cons_succ]
  refine take_to (i := 4) (v := ?_) 54 rfl rfl (by kernel_rfl) (by kernel_rfl) (by kernel_rfl) (fun _ _ _ h => h) (Or.inl ⟨by rfl, ?_⟩) hS ?_
  rotate_left
  · intro W hW
    obtain ⟨k00, k01, k10, k11, o0, o1, _, x0, x1, _, _⟩ := HC3.out W hW
    go_simp
    try with_reducible rfl
  simp only [List.setIfInBounds_toArray, List.set_cons_zero, List.set_cons_succ]
  refine wpAnyH_ready (rs := [2]) (by kernel_rfl) (by simp) ?_
  refine AllReadyH.cons rfl (fun K hK => ?_) AllReadyH.nil
  go_simp
  obtain ⟨_, _, _, _, _, _, ro, _, _, rx, bw⟩ := HC3.out _ hB0
  refine (sees_is qs QSH _ (LO.1.at ro) (L1.1.below bw)).mono ?_
  rintro e v0 ⟨rfl, hv0⟩
  clear bw ro rx
  replace hv0 := ext_trans hB0 hv0
  refine hK.out _ _ hv0 fun hS => ?_
  clear hK K
  refine wpAnyH_ready (rs := [5]) (by kernel_rfl) (by simp) ?_
  refine AllReadyH.cons rfl (fun K hK => ?_) AllReadyH.nil
  go_simp
  obtain ⟨_, _, _, _, _, _, ro, _, _, rx, bw⟩ := HC3.out _ hv0
  refine (sees_is qs QS2 _ (LO.1.at ro) (LX.1.at rx)).mono ?_
  rintro e v1 ⟨rfl, hv1⟩
  clear bw ro rx
  replace hv1 := ext_trans hv0 hv1
  refine hK.out _ _ hv1 fun hS => ?_
  clear hK K
  refine take_to (i := 6) (v := ?_) 56 rfl rfl (by kernel_rfl) (by kernel_rfl) (by kernel_rfl) (fun _ _ _ h => h) (Or.inl ⟨by rfl, ?_⟩) hS ?_
  rotate_left
  · intro W hW
    obtain ⟨k00, k01, k10, k11, o0, o1, _, x0, x1, _, _⟩ := HC3.out W hW
    go_simp
    try with_reducible rfl
  simp only [List.setIfInBounds_toArray, List.set_cons_zero, List.set_cons_succ]
  refine take_to (i := 7) (v := ?_) 57 rfl rfl (by kernel_rfl) (by kernel_rfl) (by kernel_rfl) (fun _ _ _ h => h) (Or.inl ⟨by rfl, ?_⟩) hS ?_
  rotate_left
  · intro W hW
    obtain ⟨k00, k01, k10, k11, o0, o1, _, x0, x1, _, _⟩ := HC3.out W hW
    go_simp
    try with_reducible rfl
  simp only [List.setIfInBounds_toArray, List.set_cons_zero, List.set_cons_succ]
  refine take_to (i := 8) (v := ?_) 58 rfl rfl (by kernel_rfl) (by kernel_rfl) (by kernel_rfl) (fun _ _ _ h => h) (Or.inl ⟨by rfl, ?_⟩) hS ?_
  rotate_left
  · intro W hW
    obtain ⟨k00, k01, k10, k11, o0, o1, _, x0, x1, _, _⟩ := HC3.out W hW
    go_simp
    try with_reducible rfl
  simp only [List.setIfInBounds_toArray, List.set_cons_zero, List.set_cons_succ]
  refine take_to (i := 9) (v := ?_) 59 rfl rfl (by kernel_rfl) (by kernel_rfl) (by kernel_rfl) (fun _ _ _ h => h) (Or.inl ⟨by rfl, ?_⟩) hS ?_
  rotate_left
  · intro W hW
    obtain ⟨k00, k01, k10, k11, o0, o1, _, x0, x1, _, _⟩ := HC3.out W hW
    go_simp
    try with_reducible rfl
  simp only [List.setIfInBounds_toArray, List.set_cons_zero, List.set_cons_succ]
  refine take_to (i := 11) (v := ?_) 61 rfl rfl (by kernel_rfl) (by kernel_rfl) (by kernel_rfl) (fun _ _ _ h => h) (Or.inl ⟨by rfl, ?_⟩) hS ?_
  rotate_left
  · intro W hW
    obtain ⟨k00, k01, k10, k11, o0, o1, _, x0, x1, _, _⟩ := HC3.out W hW
    go_simp
    try with_reducible rfl
  simp only [List.setIfInBounds_toArray, List.set_cons_zero, List.set_cons_succ]
  refine take_to (i := 12) (v := ?_) 62 rfl rfl (by kernel_rfl) (by kernel_rfl) (by kernel_rfl) (fun _ _ _ h => h) (Or.inl ⟨by rfl, ?_⟩) hS ?_
  rotate_left
  · intro W hW
    obtain ⟨k00, k01, k10, k11, o0, o1, _, x0, x1, _, _⟩ := HC3.out W hW
    go_simp
    try with_reducible rfl
  simp only [List.setIfInBounds_toArray, List.set_cons_zero, List.set_cons_succ]
  refine wpAnyH_ready (rs := [10]) (by kernel_rfl) (by simp) ?_
  refine AllReadyH.cons rfl (fun K hK => ?_) AllReadyH.nil
  go_simp
  obtain ⟨_, _, _, _, _, _, ro, _, _, rx, bw⟩ := HC3.out _ hv1
  refine (turns_is qt QTH _ (LO.1.at ro) (L1.1.below bw)).mono ?_
  rintro e v2 ⟨rfl, hv2⟩
  clear bw ro rx
  replace hv2 := ext_trans hv1 hv2
  refine hK.out _ _ hv2 fun hS => ?_
  clear hK K
  refine wpAnyH_ready (rs := [13]) (by kernel_rfl) (by simp) ?_
  refine AllReadyH.cons rfl (fun K hK => ?_) AllReadyH.nil
  go_simp
  obtain ⟨_, _, _, _, _, _, ro, _, _, rx, bw⟩ := HC3.out _ hv2
  refine (turns_is qt QT2 _ (LO.1.at ro) (LX.1.at rx)).mono ?_
  rintro e v3 ⟨rfl, hv3⟩
  clear bw ro rx
  replace hv3 := ext_trans hv2 hv3
  refine hK.out _ _ hv3 fun hS => ?_
  clear hK K
  refine take_to (i := 14) (v := ?_) 64 rfl rfl (by kernel_rfl) (by kernel_rfl) (by kernel_rfl) (fun _ _ _ h => h) (Or.inl ⟨by rfl, ?_⟩) hS ?_
  rotate_left
  · intro W hW
    obtain ⟨k00, k01, k10, k11, o0, o1, _, x0, x1, _, _⟩ := HC3.out W hW
    go_simp
    try with_reducible rfl
  simp only [List.setIfInBounds_toArray, List.set_cons_zero, List.set_cons_succ]
  refine take_to (i := 15) (v := ?_) 65 rfl rfl (by kernel_rfl) (by kernel_rfl) (by kernel_rfl) (fun _ _ _ h => h) (Or.inl ⟨by rfl, ?_⟩) hS ?_
  rotate_left
  · intro W hW
    obtain ⟨k00, k01, k10, k11, o0, o1, _, x0, x1, _, _⟩ := HC3.out W hW
    go_simp
    try with_reducible rfl
  simp only [List.setIfInBounds_toArray, List.set_cons_zero, List.set_cons_succ]
  refine take_to (i := 16) (v := ?_) 8 rfl rfl (by kernel_rfl) (by kernel_rfl) (by kernel_rfl) (fun _ _ _ h => h) (Or.inl ⟨by rfl, ?_⟩) hS ?_
  rotate_left
  · intro W hW
    obtain ⟨k00, k01, k10, k11, o0, o1, _, x0, x1, _, _⟩ := HC3.out W hW
    go_simp
    try with_reducible rfl
  simp only [List.setIfInBounds_toArray, List.set_cons_zero, List.set_cons_succ]
  refine wpAnyH_done (by kernel_rfl) ?_ _
  refine NoPanic.normal ?_
  go_wp2_with fail
  go_ret
  obtain ⟨_, _, _, _, _, _, _, _, _, _, bw⟩ := HC3.out _ hv3
  exact ⟨rfl, bw⟩
end Go.Proofs.Ytnenljdcgokneaa
