/- What Sees, Turns, Rises, Makes answer, and the document's own: contracts. -/
import Derived.Test.YthhpfpihgmhlbaaM1Names
namespace Go.Proofs.Ythhpfpihgmhlbaa
open Go.RowKit

theorem two_labs (w : World) (v0 v1 v2 v3 : Value) : ∀ W, Below ((w.alloc (Obj.cells #[v0, v1] 41)).alloc (Obj.cells #[v2, v3] 41)).heap.size ((w.alloc (Obj.cells #[v0, v1] 41)).alloc (Obj.cells #[v2, v3] 41)) W →
    W.cell? ⟨w.heap.size, 0, none⟩ = some v0 ∧ W.cell? ⟨w.heap.size, 1, none⟩ = some v1 ∧ W.cell? ⟨w.heap.size + 1, 0, none⟩ = some v2 ∧ W.cell? ⟨w.heap.size + 1, 1, none⟩ = some v3 ∧ Below w.heap.size w W := fun W h =>
  ⟨by rw [h.cell (by simp <;> omega)]; simp, by rw [h.cell (by simp <;> omega)]; simp, by rw [h.cell (by simp)]; simp, by rw [h.cell (by simp)]; simp, ext_trans (two_allocs _ _ _) h⟩
theorem len_zero {xs : List Int} {k : Nat} (h : xs.length = k) : ((k : Int) == 0) = decide (xs = []) := by
  subst h
  cases xs with
  | nil => rfl
  | cons x xs => simp; omega
theorem refFlows_is (q : Bool) {d d' : Int} {a1 a2 : Option Addr} {n1 c1 n2 c2 : Nat} {xs ys : List (Int × Int)} (hq : Hid (q = true ↔ FlL d xs d' ys)) (w : World) (ht : Lb w d a1 n1 c1 xs) (ho : Lb w d' a2 n2 c2 ys) :
    Calls Try.prog 39 #[.agg #[.int .u8 d, .slice a1 n1 c1], .agg #[.int .u8 d', .slice a2 n2 c2]] w fun e w' => e = .returned (.bool q) ∧ Below w.heap.size w w' :=
  (refFlows_any d d' a1 a2 n1 c1 n2 c2 xs ys w ht.row ho.row (by have := ht.le; have := ho.le; omega)).mono fun e w' ⟨r, he, hr, hb⟩ => ⟨by rw [he, bool_same hr hq.out], hb⟩
theorem refRise_lb {d : Int} {a : Option Addr} {n cap : Nat} {xs : List (Int × Int)} {w : World} (h : Lb w d a n cap xs) :
    Calls Try.prog 42 #[.agg #[.int .u8 d, .slice a n cap]] w fun e w' => ∃ D zs so k co, e = .returned (.agg #[.int .u8 D, .slice so k co]) ∧ Lb w' D so k co zs ∧ Hid (D = riseL d ∧ zs = riseP d xs) ∧ Below w.heap.size w w' :=
  (riseAll_any d a n cap xs w h.row h.lv h.up (by have := h.le; omega)).mono fun e w' ⟨so, k, co, he, ho, hb⟩ => ⟨_, _, so, k, co, he, h.rise ho, ⟨rfl, rfl⟩, hb⟩

set_option maxHeartbeats 2000000 in
theorem refSees_is (q : Bool) {d d' : Int} {a1 a2 : Option Addr} {n1 c1 n2 c2 : Nat} {xs ys : List (Int × Int)} (hq : Hid (q = true ↔ FlL d' ys (riseL d) (riseP d xs))) (w : World) (ht : Lb w d a1 n1 c1 xs) (ho : Lb w d' a2 n2 c2 ys) :
    Calls Try.prog 31 #[.agg #[.int .u8 d, .slice a1 n1 c1], .agg #[.int .u8 d', .slice a2 n2 c2]] w fun e w' => e = .returned (.bool q) ∧ Below w.heap.size w w' := by
  have l1 := ht.le
  have l2 := ho.le
  have HC : Hid _ := two_labs w (.int .u8 d) (.slice a1 n1 c1) (.int .u8 d') (.slice a2 n2 c2)
  go_enter Try.func31, Try.ntmps31
  go_wp2_with fail
  obtain ⟨W1, hW1⟩ : ∃ x, x = (w.alloc (Obj.cells #[.int .u8 d, .slice a1 n1 c1] 41)).alloc (Obj.cells #[.int .u8 d', .slice a2 n2 c2] 41) := ⟨_, rfl⟩
  rw [← hW1] at HC ⊢
  clear hW1
  have hB0 : Below W1.heap.size W1 W1.drew := ext_drew _
  refine wp_region_noPanic ?_
  refine wp_region_held_drew (S := fun W => Below W1.heap.size W1 W) (by kernel_rfl) hB0 fun hS => ?_
  refine take_to (i := 0) (v := ?_) 5 rfl rfl (by kernel_rfl) (by kernel_rfl) (by kernel_rfl) (fun _ _ _ h => h) (Or.inl ⟨by rfl, ?_⟩) hS ?_
  rotate_left
  · intro W hW
    obtain ⟨s0, s1, s2, s3, _⟩ := HC.out W hW
    go_simp
    try with_reducible rfl
  simp only [List.setIfInBounds_toArray, List.set_cons_zero, List.set_cons_succ]
  refine take_to (i := 1) (v := ?_) 6 rfl rfl (by kernel_rfl) (by kernel_rfl) (by kernel_rfl) (fun _ _ _ h => h) (Or.inl ⟨by rfl, ?_⟩) hS ?_
  rotate_left
  · intro W hW
    obtain ⟨s0, s1, s2, s3, _⟩ := HC.out W hW
    go_simp
    try with_reducible rfl
  simp only [List.setIfInBounds_toArray, List.set_cons_zero, List.set_cons_succ]
  refine wpAnyH_ready (rs := [2]) (by kernel_rfl) (by simp) ?_
  refine AllReadyH.cons rfl (fun K hK => ?_) AllReadyH.nil
  go_simp
  obtain ⟨_, _, _, _, bw⟩ := HC.out _ hB0
  refine (refRise_lb (ht.below bw)).mono ?_
  rintro e w3 ⟨D, zs, so, k, co, rfl, hlb, hz, hb3⟩
  replace hb3 := ext_trans hB0 hb3
  refine hK.out _ _ hb3 fun hS => ?_
  clear hK K
  refine wpAnyH_ready (rs := [3]) (by kernel_rfl) (by simp) ?_
  refine AllReadyH.cons rfl (fun K hK => ?_) AllReadyH.nil
  go_simp
  obtain ⟨_, _, _, _, bw⟩ := HC.out _ hb3
  refine (refFlows_is q (by rw [hz.out.1, hz.out.2]; exact hq) _ (ho.below bw) hlb).mono ?_
  rintro e w4 ⟨rfl, hb4⟩
  replace hb4 := ext_trans hb3 hb4
  refine hK.out _ _ hb4 fun hS => ?_
  clear hK K
  refine take_to (i := 4) (v := ?_) 4 rfl rfl (by kernel_rfl) (by kernel_rfl) (by kernel_rfl) (fun _ _ _ h => h) (Or.inl ⟨by rfl, ?_⟩) hS ?_
  rotate_left
  · intro W hW
    obtain ⟨s0, s1, s2, s3, _⟩ := HC.out W hW
    go_simp
    try with_reducible rfl
  simp only [List.setIfInBounds_toArray, List.set_cons_zero, List.set_cons_succ]
  refine wpAnyH_done (by kernel_rfl) ?_ _
  refine NoPanic.normal ?_
  go_wp2_with fail
  go_ret
  obtain ⟨_, _, _, _, bw⟩ := HC.out _ hb4
  exact ⟨rfl, bw⟩

set_option maxHeartbeats 2000000 in
theorem refTurns_is (q : Bool) {d d' : Int} {a1 a2 : Option Addr} {n1 c1 n2 c2 : Nat} {xs ys : List (Int × Int)} (hq : Hid (q = true ↔ FlL d xs d' ys)) (w : World) (ht : Lb w d a1 n1 c1 xs) (ho : Lb w d' a2 n2 c2 ys) :
    Calls Try.prog 32 #[.agg #[.int .u8 d, .slice a1 n1 c1], .agg #[.int .u8 d', .slice a2 n2 c2]] w fun e w' => e = .returned (.bool q) ∧ Below w.heap.size w w' := by
  go_enter Try.func32, Try.ntmps32
  go_wp2_with fail
  refine (refFlows_is q hq _ (ht.below (two_allocs _ _ _)) (ho.below (two_allocs _ _ _))).mono ?_
  rintro e w1 ⟨rfl, hb⟩
  go_wp2_with fail
  go_ret
  exact ⟨rfl, ext_trans (two_allocs _ _ _) hb⟩

end Go.Proofs.Ythhpfpihgmhlbaa
