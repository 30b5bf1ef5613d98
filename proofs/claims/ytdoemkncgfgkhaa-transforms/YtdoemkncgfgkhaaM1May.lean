/- What Sees, Turns, Rises, Makes answer, and the document's own: contracts. -/
import Derived.Test.YtdoemkncgfgkhaaM1Names
namespace Go.Proofs.Ytdoemkncgfgkhaa
open Go.RowKit
set_option maxRecDepth 100000

theorem two_labs (w : World) (v0 v1 v2 v3 : Value) : ∀ W, Below ((w.alloc (Obj.cells #[v0, v1] 24)).alloc (Obj.cells #[v2, v3] 24)).heap.size ((w.alloc (Obj.cells #[v0, v1] 24)).alloc (Obj.cells #[v2, v3] 24)) W →
    W.cell? ⟨w.heap.size, 0, none⟩ = some v0 ∧ W.cell? ⟨w.heap.size, 1, none⟩ = some v1 ∧ W.cell? ⟨w.heap.size + 1, 0, none⟩ = some v2 ∧ W.cell? ⟨w.heap.size + 1, 1, none⟩ = some v3 ∧ Below w.heap.size w W := fun W h =>
  ⟨by rw [h.cell (by simp <;> omega)]; simp, by rw [h.cell (by simp <;> omega)]; simp, by rw [h.cell (by simp)]; simp, by rw [h.cell (by simp)]; simp, ext_trans (two_allocs _ _ _) h⟩
theorem len_zero {xs : List Int} {k : Nat} (h : xs.length = k) : ((k : Int) == 0) = decide (xs = []) := by
  subst h
  cases xs with
  | nil => rfl
  | cons x xs => simp; omega
theorem flows_is (q : Bool) {d d' : Int} {a1 a2 : Option Addr} {n1 c1 n2 c2 : Nat} {xs ys : List (Int × Int)} (hq : Hid (q = true ↔ FlL d xs d' ys)) (w : World) (ht : Lb w d a1 n1 c1 xs) (ho : Lb w d' a2 n2 c2 ys) :
    Calls Try.prog 30 #[.agg #[.int .u8 d, .slice a1 n1 c1], .agg #[.int .u8 d', .slice a2 n2 c2]] w fun e w' => e = .returned (.bool q) ∧ Below w.heap.size w w' :=
  (flowsL_any d d' a1 a2 n1 c1 n2 c2 xs ys w ht.row ho.row ht.lv ho.lv ht.up ho.up (by have := ht.le; have := ho.le; omega)).mono fun e w' ⟨r, he, hr, hb⟩ => ⟨by rw [he, bool_same hr hq.out], hb⟩
theorem rise_lb {d : Int} {a : Option Addr} {n cap : Nat} {xs : List (Int × Int)} {w : World} (h : Lb w d a n cap xs) :
    Calls Try.prog 53 #[.agg #[.int .u8 d, .slice a n cap]] w fun e w' => ∃ D zs so k co, e = .returned (.agg #[.int .u8 D, .slice so k co]) ∧ Lb w' D so k co zs ∧ Hid (D = riseL d ∧ zs = riseP d xs) ∧ Below w.heap.size w w' :=
  (riseLab_any d a n cap xs w h.row h.lv (by have := h.le; omega)).mono fun e w' ⟨so, k, co, he, ho, hb⟩ => ⟨_, _, so, k, co, he, h.rise ho, ⟨rfl, rfl⟩, hb⟩
set_option maxHeartbeats 2000000 in
theorem sees_is (q : Bool) {d d' : Int} {a1 a2 : Option Addr} {n1 c1 n2 c2 : Nat} {xs ys : List (Int × Int)} (hq : Hid (q = true ↔ FlL d' ys (riseL d) (riseP d xs))) (w : World) (ht : Lb w d a1 n1 c1 xs) (ho : Lb w d' a2 n2 c2 ys) :
    Calls Try.prog 23 #[.agg #[.int .u8 d, .slice a1 n1 c1], .agg #[.int .u8 d', .slice a2 n2 c2]] w fun e w' => e = .returned (.bool q) ∧ Below w.heap.size w w' := by
  have l1 := ht.le
  have l2 := ho.le
  have HC : Hid _ := two_labs w (.int .u8 d) (.slice a1 n1 c1) (.int .u8 d') (.slice a2 n2 c2)
  go_enter Try.func23, Try.ntmps23
  go_wp2_with fail
  obtain ⟨W1, hW1⟩ : ∃ x, x = (w.alloc (Obj.cells #[.int .u8 d, .slice a1 n1 c1] 24)).alloc (Obj.cells #[.int .u8 d', .slice a2 n2 c2] 24) := ⟨_, rfl⟩
  rw [← hW1] at HC ⊢
  clear hW1
  have hB0 : Below W1.heap.size W1 W1.drew := ext_drew _
  refine wp_region_noPanic ?_
  refine wp_region_held_drew (S := fun W => Below W1.heap.size W1 W) (by kernel_rfl) hB0 fun hS => ?_
  refine take_to (i := 0) (v := ?_) 5 rfl rfl (by kernel_rfl) (by kernel_rfl) (by kernel_rfl) (fun _ _ _ h => h) (Or.inl ⟨by rfl, ?_⟩) hS ?_
  rotate_left
  · intro W hW
    obtain ⟨s0, s1, s2, s3, _⟩ := HC.out W hW
    go_simp
    try with_reducible rfl
  simp only [List.setIfInBounds_toArray, List.set_cons_zero, List.set_cons_succ]
  refine take_to (i := 1) (v := ?_) 6 rfl rfl (by kernel_rfl) (by kernel_rfl) (by kernel_rfl) (fun _ _ _ h => h) (Or.inl ⟨by rfl, ?_⟩) hS ?_
  rotate_left
  · intro W hW
    obtain ⟨s0, s1, s2, s3, _⟩ := HC.out W hW
    go_simp
    try with_reducible rfl
  simp only [List.setIfInBounds_toArray, List.set_cons_zero, List.set_cons_succ]
  refine wpAnyH_ready (rs := [2]) (by kernel_rfl) (by simp) ?_
  refine AllReadyH.cons rfl (fun K hK => ?_) AllReadyH.nil
  go_simp
  obtain ⟨_, _, _, _, bw⟩ := HC.out _ hB0
  refine (rise_lb (ht.below bw)).mono ?_
  rintro e w3 ⟨D, zs, so, k, co, rfl, hlb, hz, hb3⟩
  replace hb3 := ext_trans hB0 hb3
  refine hK.out _ _ hb3 fun hS => ?_
  clear hK K
  refine wpAnyH_ready (rs := [3]) (by kernel_rfl) (by simp) ?_
  refine AllReadyH.cons rfl (fun K hK => ?_) AllReadyH.nil
  go_simp
  obtain ⟨_, _, _, _, bw⟩ := HC.out _ hb3
  refine (flows_is q (by rw [hz.out.1, hz.out.2]; exact hq) _ (ho.below bw) hlb).mono ?_
  rintro e w4 ⟨rfl, hb4⟩
  replace hb4 := ext_trans hb3 hb4
  refine hK.out _ _ hb4 fun hS => ?_
  clear hK K
  refine take_to (i := 4) (v := ?_) 4 rfl rfl (by kernel_rfl) (by kernel_rfl) (by kernel_rfl) (fun _ _ _ h => h) (Or.inl ⟨by rfl, ?_⟩) hS ?_
  rotate_left
  · intro W hW
    obtain ⟨s0, s1, s2, s3, _⟩ := HC.out W hW
    go_simp
    try with_reducible rfl
  simp only [List.setIfInBounds_toArray, List.set_cons_zero, List.set_cons_succ]
  refine wpAnyH_done (by kernel_rfl) ?_ _
  refine NoPanic.normal ?_
  go_wp2_with fail
  go_ret
  obtain ⟨_, _, _, _, bw⟩ := HC.out _ hb4
  exact ⟨rfl, bw⟩

set_option maxHeartbeats 2000000 in
theorem turns_is (q : Bool) {d d' : Int} {a1 a2 : Option Addr} {n1 c1 n2 c2 : Nat} {xs ys : List (Int × Int)} (hq : Hid (q = true ↔ FlL d xs d' ys)) (w : World) (ht : Lb w d a1 n1 c1 xs) (ho : Lb w d' a2 n2 c2 ys) :
    Calls Try.prog 25 #[.agg #[.int .u8 d, .slice a1 n1 c1], .agg #[.int .u8 d', .slice a2 n2 c2]] w fun e w' => e = .returned (.bool q) ∧ Below w.heap.size w w' := by
  go_enter Try.func25, Try.ntmps25
  go_wp2_with fail
  refine (flows_is q hq _ (ht.below (two_allocs _ _ _)) (ho.below (two_allocs _ _ _))).mono ?_
  rintro e w1 ⟨rfl, hb⟩
  go_wp2_with fail
  go_ret
  exact ⟨rfl, ext_trans (two_allocs _ _ _) hb⟩

set_option maxHeartbeats 2000000 in
theorem hasStars_any (d : Int) (a : Option Addr) (n cap : Nat) (xs : List (Int × Int)) (so : Option Addr) (k co : Nat) (cs : List Int) (w : World) (ht : Lb w d a n cap xs) (hs : RowW w so k co cs) :
    Calls Try.prog 50 #[.agg #[.int .u8 d, .slice a n cap], .slice so k co] w fun e w' => e = .returned (.bool (starB d xs cs)) ∧ Below w.heap.size w w' := by
  have hl : Hid (cs.length = k) := hs.len
  have hcap := hs.cap_le
  have l1 := ht.le
  go_enter Try.func50, Try.ntmps50
  go_wp2_with fail
  obtain ⟨W, hW⟩ : ∃ W, W = (w.alloc (Obj.cells #[Value.int IntKind.u8 d, Value.slice a n cap] 24)) := ⟨_, rfl⟩
  rw [← hW]
  have hb0 : Below w.heap.size w W := hW ▸ below_alloc _ _
  have k0 : W.cell? ⟨w.heap.size, 0, none⟩ = some (.int .u8 d) := by rw [hW]; simp
  have k1 : W.cell? ⟨w.heap.size, 1, none⟩ = some (.slice a n cap) := by rw [hW]; simp
  clear hW
  go_loopw [9] (fun i wr => ∃ j : Nat, j ≤ k ∧ i = .int .i64 j ∧ Below W.heap.size W wr ∧ starB d xs (cs.take j) = true) (fun i _ => k - (intOf i).toNat)
  case atStart => exact ⟨0, by omega, rfl, Below.refl _ _, by simp [starB]⟩
  case round =>
    obtain ⟨j, hj, rfl, hbr, hst⟩ := hrel
    have HST : Hid (starB d xs (cs.take j) = true) := hst
    clear hst
    have k0' : wr.cell? ⟨w.heap.size, 0, none⟩ = some (.int .u8 d) := by rw [hbr.cell (lt_of_cell k0)]; exact k0
    have k1' : wr.cell? ⟨w.heap.size, 1, none⟩ = some (.slice a n cap) := by rw [hbr.cell (lt_of_cell k1)]; exact k1
    have hbw := ext_trans hb0 hbr
    by_cases hlt : j < k
    · have hp : (j : Int) < (k : Int) := by omega
      obtain ⟨C, zb, zoff, rfl, hC, hCb, z0⟩ := (hs.below hbw).at' j hlt
      have HX : Hid (cs[j]? = some C) := hC
      clear hC
      go_wp2_with fail
      refine (at_any d a n cap xs C _ (ht.below hbw).row ht.up (by omega)).mono ?_
      rintro e w1 ⟨rfl, hb1⟩
      obtain ⟨x, hx⟩ : ∃ x, x = atL d xs C := ⟨_, rfl⟩
      rw [← hx]
      have HXC : Hid (x = atL d xs C) := hx
      clear hx
      by_cases hx0 : x = 0
      · subst hx0
        go_wp2_with fail
        go_roundw
        case rel =>
          refine ⟨j + 1, by omega, by go_num, ext_trans hbr hb1, ?_⟩
          rw [take_snoc HX.out, starB, List.all_append, Bool.and_eq_true]
          exact ⟨HST.out, by simp [HXC.out.symm]⟩
        case measure => simp [intOf]; omega
      · have hx1 : (x != 0) = true := by simpa using hx0
        have hx2 : (x == 0) = false := by simpa using hx0
        go_wp2_with fail
        go_ret
        refine ⟨?_, ext_trans hbw hb1⟩
        have : starB d xs cs = false := by
          cases h : starB d xs cs
          · rfl
          · have h1 := List.all_eq_true.1 h C (List.mem_of_getElem? HX.out)
            rw [decide_eq_true_eq, ← HXC.out] at h1
            exact absurd h1 hx0
        rw [this]; rfl
    · obtain rfl : k = j := by omega
      go_wp2_with fail
      go_ret
      refine ⟨?_, hbw⟩
      have h1 := HST.out
      rw [List.take_of_length_le (by rw [hl.out]; exact Nat.le_refl _)] at h1
      rw [h1]; rfl

set_option maxHeartbeats 2000000 in
theorem whyNot_is (q s : Bool) {d d' : Int} {a1 a2 : Option Addr} {n1 c1 n2 c2 : Nat} {xs ys : List (Int × Int)} (hq : Hid (q = true ↔ FlL d xs d' ys)) (w : World) (ht : Lb w d a1 n1 c1 xs) (ho : Lb w d' a2 n2 c2 ys) :
    Calls Try.prog 49 #[.agg #[.int .u8 d, .slice a1 n1 c1], .agg #[.int .u8 d', .slice a2 n2 c2], .bool s] w fun e w' => e = .returned (.int .i64 (why (nameB d' ys) s q)) ∧ Below w.heap.size w w' := by
  have HC : Hid _ := two_labs w (.int .u8 d) (.slice a1 n1 c1) (.int .u8 d') (.slice a2 n2 c2)
  go_enter Try.func49, Try.ntmps49
  go_wp2_with fail
  obtain ⟨_, _, _, _, bw⟩ := HC.out _ (Below.refl _ _)
  refine (names_any d' a2 n2 c2 ys _ (ho.below bw).row).mono ?_
  rintro e w1 ⟨rfl, hb⟩
  obtain ⟨s0, s1, s2, s3, bw1⟩ := HC.out _ hb
  clear bw
  cases hn : nameB d' ys
  · go_wp2_with fail
    go_ret
    exact ⟨by simp [why, hn], bw1⟩
  · cases s
    · go_wp2_with fail
      go_ret
      exact ⟨by simp [why, hn], bw1⟩
    · go_wp2_with fail
      refine (flows_is q hq _ (ht.below bw1) (ho.below bw1)).mono ?_
      rintro e w2 ⟨rfl, hb2⟩
      cases q
      · go_wp2_with fail
        go_ret
        exact ⟨by simp [why, hn], ext_trans bw1 hb2⟩
      · go_wp2_with fail
        go_ret
        exact ⟨by simp [why, hn], ext_trans bw1 hb2⟩

end Go.Proofs.Ytdoemkncgfgkhaa
