/- What the library's exchange of two blocks of pairs does: contracts. -/
import Derived.Test.YtgpndbfefbdibaaIns
namespace Go.Proofs.Ytgpndbfefbdibaa
open Go.RowKit

theorem swap_far (L M R : List (Int × Int)) (x y : Int × Int) : ((L ++ x :: (M ++ y :: R)).set L.length y).set (L.length + 1 + M.length) x = L ++ y :: (M ++ x :: R) := by
  rw [List.set_append_right _ _ (by omega), Nat.sub_self, List.set_cons_zero, List.set_append_right _ _ (by omega), show L.length + 1 + M.length - L.length = M.length + 1 by omega, List.set_cons_succ, List.set_append_right _ _ (by omega), Nat.sub_self]
  rfl
theorem far_1 (L M R : List (Int × Int)) (x y : Int × Int) {i : Nat} (h : i = L.length) : (L ++ x :: (M ++ y :: R))[i]? = some x := by rw [h, List.getElem?_append_right (by omega), Nat.sub_self]; rfl
theorem far_2 (L M R : List (Int × Int)) (x y : Int × Int) {j : Nat} (h : j = L.length + 1 + M.length) : (L ++ x :: (M ++ y :: R))[j]? = some y := by
  rw [h, List.getElem?_append_right (by omega), show L.length + 1 + M.length - L.length = M.length + 1 by omega, List.getElem?_cons_succ, List.getElem?_append_right (by omega), Nat.sub_self]; rfl
theorem cut_at {α : Type} (X : List α) (i : Nat) (h : i < X.length) : ∃ X1 x X2, X = X1 ++ x :: X2 ∧ X1.length = i := ⟨X.take i, X[i], X.drop (i + 1), by simp, by simp; omega⟩

set_option maxHeartbeats 1500000 in
theorem swapRange_any (g n cap B a b k : Nat) (P X M Y Q : List (Int × Int)) (w : World) (hown : OwnG PE 29 w B (some ⟨g, 0, none⟩) n cap (P ++ X ++ M ++ Y ++ Q)) (hP : Hid (P.length = a ∧ a + X.length + M.length = b ∧ X.length = k ∧ Y.length = k)) (hsz : n ≤ 1000000) :
    Calls Try.prog 67 #[.slice (some ⟨g, 0, none⟩) n cap, .int .i64 a, .int .i64 b, .int .i64 k, .func (.func 37) #[] #[]] w fun e w' => e = .returned (.tuple #[]) ∧ OwnG PE 29 w' B (some ⟨g, 0, none⟩) n cap (P ++ Y ++ M ++ X ++ Q) ∧ w.grownBy w' (some g) := by
  go_enter Try.func67, Try.ntmps67
  go_wp2_with fail
  go_loopw [10] (fun iv wr => ∃ (i : Nat) (X1 X2 Y1 Y2 : List (Int × Int)), iv = .int .i64 i ∧ X = X1 ++ X2 ∧ Y = Y1 ++ Y2 ∧ X1.length = i ∧ Y1.length = i ∧ OwnG PE 29 wr B (some ⟨g, 0, none⟩) n cap (P ++ (Y1 ++ X2) ++ M ++ (X1 ++ Y2) ++ Q) ∧ w.grownBy wr (some g)) (fun iv _ => k - (intOf iv).toNat)
  case atStart => exact ⟨0, [], X, [], Y, rfl, rfl, rfl, rfl, rfl, by simpa using hown, ⟨rfl, rfl, rfl, Nat.le_refl _, fun _ _ _ => rfl⟩⟩
  case round =>
    obtain ⟨i, X1, X2, Y1, Y2, rfl, hX, hY, hx1, hy1, ho, hgr⟩ := hrel
    have HX : Hid (X = X1 ++ X2 ∧ Y = Y1 ++ Y2 ∧ X1.length = i ∧ Y1.length = i) := ⟨hX, hY, hx1, hy1⟩
    clear hX hY hx1 hy1
    by_cases hlt : i < k
    · have p1 : (i : Int) < (k : Int) := by omega
      obtain ⟨x, X3, hX3⟩ : ∃ x X3, X2 = x :: X3 := by
        cases X2 with
        | nil => have h1 := HX.out; have h2 := hP.out.2.2.1; rw [h1.1] at h2; simp at h2; omega
        | cons x X3 => exact ⟨x, X3, rfl⟩
      obtain ⟨y, Y3, hY3⟩ : ∃ y Y3, Y2 = y :: Y3 := by
        cases Y2 with
        | nil => have h1 := HX.out; have h2 := hP.out.2.2.2; rw [h1.2.1] at h2; simp at h2; omega
        | cons y Y3 => exact ⟨y, Y3, rfl⟩
      subst hX3 hY3
      obtain ⟨x0, x1⟩ := x
      obtain ⟨y0, y1⟩ := y
      obtain ⟨ai, hai⟩ : ∃ z, z = a + i := ⟨_, rfl⟩
      obtain ⟨bi, hbi⟩ : ∃ z, z = b + i := ⟨_, rfl⟩
      have hcur : Hid (P ++ (Y1 ++ (x0, x1) :: X3) ++ M ++ (X1 ++ (y0, y1) :: Y3) ++ Q = (P ++ Y1) ++ (x0, x1) :: ((X3 ++ M ++ X1) ++ (y0, y1) :: (Y3 ++ Q))) := by show _ = _; simp
      rw [hcur.out] at ho
      have hai' : Hid (ai = (P ++ Y1).length ∧ bi = (P ++ Y1).length + 1 + (X3 ++ M ++ X1).length) := by
        have h1 := HX.out; have h2 := hP.out
        have h3 : X.length = i + (X3.length + 1) := by rw [h1.1]; simp; omega
        show _ ∧ _
        simp only [List.length_append]
        omega
      have hq1 : (a : Int) + (i : Int) = (ai : Int) := by omega
      have hq2 : (b : Int) + (i : Int) = (bi : Int) := by omega
      have hln := ho.1
      have hA : ai < n := by have h2 := hai'.out; simp only [List.length_append, List.length_cons] at hln h2; omega
      have hBi : bi < n := by have h2 := hai'.out; simp only [List.length_append, List.length_cons] at hln h2; omega
      have HAI : Hid (ai = a + i ∧ bi = b + i) := ⟨hai, hbi⟩
      have hne1 : ai ≠ bi := by have h2 := hai'.out; omega
      have hne2 : bi ≠ ai := fun e => hne1 e.symm
      clear hai hbi hln
      have p3 : (ai : Int) < (n : Int) := by omega
      have p4 : (bi : Int) < (n : Int) := by omega
      have hw1 : IntKind.i64.wrap (ai : Int) = (ai : Int) := by rw [IntKind.wrap_i64]; omega
      have hw2 : IntKind.i64.wrap (bi : Int) = (bi : Int) := by rw [IntKind.wrap_i64]; omega
      have e1 := far_1 (P ++ Y1) (X3 ++ M ++ X1) (Y3 ++ Q) (x0, x1) (y0, y1) hai'.out.1
      have e2 := far_2 (P ++ Y1) (X3 ++ M ++ X1) (Y3 ++ Q) (x0, x1) (y0, y1) hai'.out.2
      have okX : PE.ok (x0, x1) := ho.2.1.get e1
      have okY : PE.ok (y0, y1) := ho.2.1.get e2
      obtain ⟨c1, c2⟩ := ho.row.pair e1
      obtain ⟨c3, c4⟩ := ho.row.pair e2
      clear e1 e2
      simp only [Nat.zero_add] at c1 c2 c3 c4
      have m1 := ho.fz (ai * 2)
      have m2 := ho.fz (ai * 2 + 1)
      have m3 := ho.fz (bi * 2)
      have m4 := ho.fz (bi * 2 + 1)
      have HREL : Hid (∃ (i' : Nat) (X1 X2 Y1 Y2 : List (Int × Int)), Value.int .i64 ((i : Int) + 1) = .int .i64 i' ∧ X = X1 ++ X2 ∧ Y = Y1 ++ Y2 ∧ X1.length = i' ∧ Y1.length = i' ∧ OwnG PE 29 ((((wr.setCell ⟨g, ai * 2, none⟩ (.int .u16 y0)).setCell ⟨g, ai * 2 + 1, none⟩ (.int .u8 y1)).setCell ⟨g, bi * 2, none⟩ (.int .u16 x0)).setCell ⟨g, bi * 2 + 1, none⟩ (.int .u8 x1)).drew B (some ⟨g, 0, none⟩) n cap (P ++ (Y1 ++ X2) ++ M ++ (X1 ++ Y2) ++ Q) ∧ w.grownBy ((((wr.setCell ⟨g, ai * 2, none⟩ (.int .u16 y0)).setCell ⟨g, ai * 2 + 1, none⟩ (.int .u8 y1)).setCell ⟨g, bi * 2, none⟩ (.int .u16 x0)).setCell ⟨g, bi * 2 + 1, none⟩ (.int .u8 x1)).drew (some g)) := by
        refine ⟨i + 1, X1 ++ [(x0, x1)], X3, Y1 ++ [(y0, y1)], Y3, by go_num, by simp [HX.out.1], by simp [HX.out.2.1], by simp [HX.out.2.2.1], by simp [HX.out.2.2.2], ?_, ?_⟩
        · have h1 := ((ho.set_pair ai hA y0 y1 okY).set_pair bi hBi x0 x1 okX).below (ext_drew _)
          have h2 : (((P ++ Y1) ++ (x0, x1) :: ((X3 ++ M ++ X1) ++ (y0, y1) :: (Y3 ++ Q))).set ai (y0, y1)).set bi (x0, x1) = P ++ ((Y1 ++ [(y0, y1)]) ++ X3) ++ M ++ ((X1 ++ [(x0, x1)]) ++ Y3) ++ Q := by
            rw [hai'.out.1, hai'.out.2, swap_far]; simp
          rw [h2] at h1
          exact h1
        · refine grown_trans ?_ (grown_of_below (ext_drew _) none) (fun x hx => by simp at hx)
          exact grown_trans (grown_trans (grown_trans (grown_trans hgr (grown_set _ _ _ _) (fun x hx => .inl hx)) (grown_set _ _ _ _) (fun x hx => .inl hx)) (grown_set _ _ _ _) (fun x hx => .inl hx)) (grown_set _ _ _ _) (fun x hx => .inl hx)
      go_wp2_with fail
      refine wp_region_noPanic ?_
      refine wp_region_held_drew (S := fun _ => True) (by kernel_rfl) trivial fun hS => ?_
      refine take_to (i := 0) (v := ?_) 16 rfl rfl (by kernel_rfl) (by kernel_rfl) (by kernel_rfl) (fun _ _ _ h => h) (Or.inl ⟨by rfl, ?_⟩) hS ?_
      rotate_left
      · intro W hW
        go_simp
        try with_reducible rfl
      simp only [List.setIfInBounds_toArray, List.set_cons_zero, List.set_cons_succ]
      refine take_to (i := 1) (v := ?_) 17 rfl rfl (by kernel_rfl) (by kernel_rfl) (by kernel_rfl) (fun _ _ _ h => h) (Or.inl ⟨by rfl, ?_⟩) hS ?_
      rotate_left
      · intro W hW
        go_simp
        try with_reducible rfl
      simp only [List.setIfInBounds_toArray, List.set_cons_zero, List.set_cons_succ]
      refine take_to (i := 2) (v := ?_) 18 rfl rfl (by kernel_rfl) (by kernel_rfl) (by kernel_rfl) (fun _ _ _ h => h) (Or.inl ⟨by rfl, ?_⟩) hS ?_
      rotate_left
      · intro W hW
        go_simp
        try with_reducible rfl
      simp only [List.setIfInBounds_toArray, List.set_cons_zero, List.set_cons_succ]
      refine take_to (i := 3) (v := ?_) 19 rfl rfl (by kernel_rfl) (by kernel_rfl) (by kernel_rfl) (fun _ _ _ h => h) (Or.inl ⟨by rfl, ?_⟩) hS ?_
      rotate_left
      · intro W hW
        go_simp
        try with_reducible rfl
      simp only [List.setIfInBounds_toArray, List.set_cons_zero, List.set_cons_succ]
      refine take_to (i := 4) (v := ?_) 20 rfl rfl (by kernel_rfl) (by kernel_rfl) (by kernel_rfl) (fun _ _ _ h => h) (Or.inl ⟨by rfl, ?_⟩) hS ?_
      rotate_left
      · intro W hW
        go_simp
        try with_reducible rfl
      simp only [List.setIfInBounds_toArray, List.set_cons_zero, List.set_cons_succ]
      refine take_to (i := 5) (v := ?_) 21 rfl rfl (by kernel_rfl) (by kernel_rfl) (by kernel_rfl) (fun _ _ _ h => h) (Or.inl ⟨by rfl, ?_⟩) hS ?_
      rotate_left
      · intro W hW
        go_simp
        try with_reducible rfl
      simp only [List.setIfInBounds_toArray, List.set_cons_zero, List.set_cons_succ]
      refine take_to (i := 6) (v := ?_) 22 rfl rfl (by kernel_rfl) (by kernel_rfl) (by kernel_rfl) (fun _ _ _ h => h) (Or.inl ⟨by rfl, ?_⟩) hS ?_
      rotate_left
      · intro W hW
        go_simp
        try with_reducible rfl
      simp only [List.setIfInBounds_toArray, List.set_cons_zero, List.set_cons_succ]
      refine take_to (i := 7) (v := ?_) 23 rfl rfl (by kernel_rfl) (by kernel_rfl) (by kernel_rfl) (fun _ _ _ h => h) (Or.inl ⟨by rfl, ?_⟩) hS ?_
      rotate_left
      · intro W hW
        go_simp
        try with_reducible rfl
      simp only [List.setIfInBounds_toArray, List.set_cons_zero, List.set_cons_succ]
      refine take_to (i := 8) (v := ?_) 24 rfl rfl (by kernel_rfl) (by kernel_rfl) (by kernel_rfl) (fun _ _ _ h => h) (Or.inl ⟨by rfl, ?_⟩) hS ?_
      rotate_left
      · intro W hW
        go_simp
        try with_reducible rfl
      simp only [List.setIfInBounds_toArray, List.set_cons_zero, List.set_cons_succ]
      refine take_to (i := 9) (v := ?_) 25 rfl rfl (by kernel_rfl) (by kernel_rfl) (by kernel_rfl) (fun _ _ _ h => h) (Or.inl ⟨by rfl, ?_⟩) hS ?_
      rotate_left
      · intro W hW
        go_simp
        try with_reducible rfl
      simp only [List.setIfInBounds_toArray, List.set_cons_zero, List.set_cons_succ]
      refine take_to (i := 10) (v := ?_) 26 rfl rfl (by kernel_rfl) (by kernel_rfl) (by kernel_rfl) (fun _ _ _ h => h) (Or.inl ⟨by rfl, ?_⟩) hS ?_
      rotate_left
      · intro W hW
        go_simp
        try with_reducible rfl
      simp only [List.setIfInBounds_toArray, List.set_cons_zero, List.set_cons_succ]
      refine take_to (i := 11) (v := ?_) 27 rfl rfl (by kernel_rfl) (by kernel_rfl) (by kernel_rfl) (fun _ _ _ h => h) (Or.inl ⟨by rfl, ?_⟩) hS ?_
      rotate_left
      · intro W hW
        go_simp
        try with_reducible rfl
      simp only [List.setIfInBounds_toArray, List.set_cons_zero, List.set_cons_succ]
      refine take_to (i := 12) (v := ?_) 28 rfl rfl (by kernel_rfl) (by kernel_rfl) (by kernel_rfl) (fun _ _ _ h => h) (Or.inl ⟨by rfl, ?_⟩) hS ?_
      rotate_left
      · intro W hW
        go_simp
        try with_reducible rfl
      simp only [List.setIfInBounds_toArray, List.set_cons_zero, List.set_cons_succ]
      refine take_to (i := 14) (v := ?_) 30 rfl rfl (by kernel_rfl) (by kernel_rfl) (by kernel_rfl) (fun _ _ _ h => h) (Or.inl ⟨by rfl, ?_⟩) hS ?_
      rotate_left
      · intro W hW
        go_simp
        try with_reducible rfl
      simp only [List.setIfInBounds_toArray, List.set_cons_zero, List.set_cons_succ]
      refine take_to (i := 15) (v := ?_) 31 rfl rfl (by kernel_rfl) (by kernel_rfl) (by kernel_rfl) (fun _ _ _ h => h) (Or.inl ⟨by rfl, ?_⟩) hS ?_
      rotate_left
      · intro W hW
        go_simp
        try with_reducible rfl
      simp only [List.setIfInBounds_toArray, List.set_cons_zero, List.set_cons_succ]
      refine take_to (i := 16) (v := ?_) 32 rfl rfl (by kernel_rfl) (by kernel_rfl) (by kernel_rfl) (fun _ _ _ h => h) (Or.inl ⟨by rfl, ?_⟩) hS ?_
      rotate_left
      · intro W hW
        go_simp
        try with_reducible rfl
      simp only [List.setIfInBounds_toArray, List.set_cons_zero, List.set_cons_succ]
      refine take_to (i := 17) (v := ?_) 33 rfl rfl (by kernel_rfl) (by kernel_rfl) (by kernel_rfl) (fun _ _ _ h => h) (Or.inl ⟨by rfl, ?_⟩) hS ?_
      rotate_left
      · intro W hW
        go_simp
        try with_reducible rfl
      simp only [List.setIfInBounds_toArray, List.set_cons_zero, List.set_cons_succ]
      refine take_to (i := 18) (v := ?_) 34 rfl rfl (by kernel_rfl) (by kernel_rfl) (by kernel_rfl) (fun _ _ _ h => h) (Or.inl ⟨by rfl, ?_⟩) hS ?_
      rotate_left
      · intro W hW
        go_simp
        try with_reducible rfl
      simp only [List.setIfInBounds_toArray, List.set_cons_zero, List.set_cons_succ]
      refine wpAnyH_ready (rs := [13, 19]) (by kernel_rfl) (by simp) ?_
      refine AllReadyH.cons rfl (fun K hK => ?_) (AllReadyH.cons rfl (fun K hK => ?_) AllReadyH.nil)
      · go_simp
        refine hK.out _ _ trivial fun _ => ?_
        clear hK K
        refine wpAnyH_ready (rs := [19]) (by kernel_rfl) (by simp) ?_
        refine AllReadyH.cons rfl (fun K hK => ?_) AllReadyH.nil
        go_simp
        refine hK.out _ _ trivial fun _ => ?_
        clear hK K
        refine wpAnyH_ready (rs := [20]) (by kernel_rfl) (by simp) ?_
        refine AllReadyH.cons rfl (fun K hK => ?_) AllReadyH.nil
        go_simp
        refine hK.out _ _ trivial fun _ => ?_
        clear hK K
        refine wpAnyH_ready (rs := [21]) (by kernel_rfl) (by simp) ?_
        refine AllReadyH.cons rfl (fun K hK => ?_) AllReadyH.nil
        go_simp
        refine hK.out _ _ trivial fun _ => ?_
        clear hK K
        refine wpAnyH_ready (rs := [22]) (by kernel_rfl) (by simp) ?_
        refine AllReadyH.cons rfl (fun K hK => ?_) AllReadyH.nil
        go_simp
        refine hK.out _ _ trivial fun _ => ?_
        clear hK K
        refine wpAnyH_ready (rs := [23]) (by kernel_rfl) (by simp) ?_
        refine AllReadyH.cons rfl (fun K hK => ?_) AllReadyH.nil
        go_simp
        refine hK.out _ _ trivial fun _ => ?_
        clear hK K
        refine wpAnyH_done (by kernel_rfl) ?_ _
        refine NoPanic.normal ?_
        go_wp2_with fail
        go_roundw
        case rel => exact HREL.out
        case measure => simp [intOf]; omega
      · go_simp
        refine hK.out _ _ trivial fun _ => ?_
        clear hK K
        refine wpAnyH_ready (rs := [13]) (by kernel_rfl) (by simp) ?_
        refine AllReadyH.cons rfl (fun K hK => ?_) AllReadyH.nil
        go_simp
        refine hK.out _ _ trivial fun _ => ?_
        clear hK K
        refine wpAnyH_ready (rs := [20]) (by kernel_rfl) (by simp) ?_
        refine AllReadyH.cons rfl (fun K hK => ?_) AllReadyH.nil
        go_simp
        refine hK.out _ _ trivial fun _ => ?_
        clear hK K
        refine wpAnyH_ready (rs := [21]) (by kernel_rfl) (by simp) ?_
        refine AllReadyH.cons rfl (fun K hK => ?_) AllReadyH.nil
        go_simp
        refine hK.out _ _ trivial fun _ => ?_
        clear hK K
        refine wpAnyH_ready (rs := [22]) (by kernel_rfl) (by simp) ?_
        refine AllReadyH.cons rfl (fun K hK => ?_) AllReadyH.nil
        go_simp
        refine hK.out _ _ trivial fun _ => ?_
        clear hK K
        refine wpAnyH_ready (rs := [23]) (by kernel_rfl) (by simp) ?_
        refine AllReadyH.cons rfl (fun K hK => ?_) AllReadyH.nil
        go_simp
        refine hK.out _ _ trivial fun _ => ?_
        clear hK K
        refine wpAnyH_done (by kernel_rfl) ?_ _
        refine NoPanic.normal ?_
        go_wp2_with fail
        go_roundw
        case rel => exact HREL.out
        case measure => simp [intOf]; omega
    · have p1 : decide ((i : Int) < (k : Int)) = false := by simp; omega
      have h0 : X2 = [] ∧ Y2 = [] := by
        have h1 := HX.out; have h2 := hP.out
        have h3 : X.length = i + X2.length := by rw [h1.1]; simp; omega
        have h4 : Y.length = i + Y2.length := by rw [h1.2.1]; simp; omega
        exact ⟨List.eq_nil_of_length_eq_zero (by omega), List.eq_nil_of_length_eq_zero (by omega)⟩
      obtain ⟨rfl, rfl⟩ := h0
      go_wp2_with fail
      go_end0
      have h1 := HX.out
      refine ⟨rfl, ?_, hgr⟩
      rw [h1.1, h1.2.1]
      simpa using ho

set_option maxHeartbeats 1500000 in
theorem rotate_any (g n cap B a m b : Nat) (P X Y Q : List (Int × Int)) (w : World) (hown : OwnG PE 29 w B (some ⟨g, 0, none⟩) n cap (P ++ X ++ Y ++ Q)) (hP : Hid (P.length = a ∧ a + X.length = m ∧ m + Y.length = b ∧ 0 < X.length ∧ 0 < Y.length)) (hsz : n ≤ 1000000) :
    Calls Try.prog 66 #[.slice (some ⟨g, 0, none⟩) n cap, .int .i64 a, .int .i64 m, .int .i64 b, .func (.func 37) #[] #[]] w fun e w' => e = .returned (.tuple #[]) ∧ OwnG PE 29 w' B (some ⟨g, 0, none⟩) n cap (P ++ Y ++ X ++ Q) ∧ w.grownBy w' (some g) := by
  obtain ⟨ii, hii⟩ : ∃ z, z = X.length := ⟨_, rfl⟩
  obtain ⟨jj, hjj⟩ : ∃ z, z = Y.length := ⟨_, rfl⟩
  have hq1 : (m : Int) - (a : Int) = (ii : Int) := by have := hP.out; omega
  have hq2 : (b : Int) - (m : Int) = (jj : Int) := by have := hP.out; omega
  have hln : Hid (P.length + X.length + Y.length + Q.length = n) := by have := hown.1; simp at this; show _ = _; omega
  have HL : Hid (ii = X.length ∧ jj = Y.length) := ⟨hii, hjj⟩
  clear hii hjj
  have hmn : m ≤ n := by have h1 := hP.out; have h2 := hln.out; omega
  have hin : ii ≤ n := by have h1 := HL.out; have h2 := hln.out; omega
  have hjn : jj ≤ n := by have h1 := HL.out; have h2 := hln.out; omega
  go_enter Try.func66, Try.ntmps66
  go_wp2_with fail
  go_loopw [10, 11] (fun iv jv wr => ∃ (i j : Nat) (P' X' Y' Q' : List (Int × Int)), iv = .int .i64 i ∧ jv = .int .i64 j ∧ X'.length = i ∧ Y'.length = j ∧ 0 < i ∧ 0 < j ∧ P'.length + i = m ∧ m + j ≤ n ∧ P' ++ Y' ++ X' ++ Q' = P ++ Y ++ X ++ Q ∧ OwnG PE 29 wr B (some ⟨g, 0, none⟩) n cap (P' ++ X' ++ Y' ++ Q') ∧ w.grownBy wr (some g)) (fun iv jv _ => (intOf iv).toNat + (intOf jv).toNat)
  case atStart => exact ⟨ii, jj, P, X, Y, Q, rfl, rfl, HL.out.1.symm, HL.out.2.symm, by have h1 := HL.out; have h2 := hP.out; omega, by have h1 := HL.out; have h2 := hP.out; omega, by have h1 := HL.out; have h2 := hP.out; omega, by have h1 := HL.out; have h2 := hP.out; have h3 := hln.out; omega, rfl, hown, ⟨rfl, rfl, rfl, Nat.le_refl _, fun _ _ _ => rfl⟩⟩
  case round =>
    obtain ⟨i, j, P', X', Y', Q', rfl, rfl, hX, hY, hi0, hj0, hPm, hmj, hgoal, ho, hgr⟩ := hrel
    have HG : Hid (P' ++ Y' ++ X' ++ Q' = P ++ Y ++ X ++ Q) := hgoal
    have HX : Hid (X'.length = i ∧ Y'.length = j ∧ P'.length + i = m) := ⟨hX, hY, hPm⟩
    obtain ⟨mi, hmi⟩ : ∃ z, z = m - i := ⟨_, rfl⟩
    have r1 : (m : Int) - (i : Int) = (mi : Int) := by omega
    have HM : Hid (mi = P'.length ∧ mi + i = m) := by show _ ∧ _; omega
    have hmi0 : mi ≤ n := by omega
    clear hgoal hX hY hPm hmi
    by_cases hij : i = j
    · have p1 : ((i : Int) != (j : Int)) = false := by simp; omega
      have p1' : ((i : Int) == (j : Int)) = true := by simp; omega
      have HIJ : Hid (i = j) := hij
      clear hij
      go_wp2_with fail
      refine (swapRange_any g n cap B mi m i P' X' [] Y' Q' _ (by simpa using ho) (by have h1 := HX.out; have h2 := HM.out; have h3 := HIJ.out; refine ⟨?_, ?_, ?_, ?_⟩ <;> (try simp only [List.length_nil]) <;> omega) hsz).mono ?_
      rintro e w1 ⟨rfl, ho1, hg1⟩
      have HO : Hid (OwnG PE 29 w1 B (some ⟨g, 0, none⟩) n cap (P ++ Y ++ X ++ Q)) := by
        show OwnG _ _ _ _ _ _ _ _
        rw [← HG.out]; simpa using ho1
      clear ho1 ho
      go_wp2_with fail
      go_end0
      exact ⟨rfl, HO.out, grown_trans hgr hg1 (fun x hx => .inl hx)⟩
    · have p1 : ((i : Int) != (j : Int)) = true := by simp; omega
      have p1' : ((i : Int) == (j : Int)) = false := by simp; omega
      by_cases hlt : j < i
      · have p2 : (j : Int) < (i : Int) := by omega
        have r2 : (i : Int) - (j : Int) = ((i - j : Nat) : Int) := by omega
        go_wp2_with fail
        have hsp : X' = X'.take j ++ X'.drop j := (List.take_append_drop j X').symm
        have l1 : (X'.take j).length = j := by have h1 := HX.out; simp; omega
        have l2 : (X'.drop j).length = i - j := by have h1 := HX.out; simp; omega
        refine (swapRange_any g n cap B mi m j P' (X'.take j) (X'.drop j) Y' Q' _ (by rw [hsp] at ho; simpa using ho) (by have h1 := HX.out; have h2 := HM.out; refine ⟨?_, ?_, ?_, ?_⟩ <;> omega) hsz).mono ?_
        rintro e w1 ⟨rfl, ho1, hg1⟩
        have hgr1 := grown_trans hgr hg1 (fun x hx => .inl hx)
        clear ho hgr hg1
        go_wp2_with fail
        go_roundw
        case rel =>
          refine ⟨i - j, j, P' ++ Y', X'.drop j, X'.take j, Q', by go_num, rfl, l2, l1, by omega, hj0, by have h1 := HX.out; simp; omega, by omega, ?_, by simpa using ho1, hgr1⟩
          rw [← HG.out]
          conv => rhs; rw [hsp]
          simp
        case measure => simp [intOf]; omega
      · have p2 : decide ((j : Int) < (i : Int)) = false := by simp; omega
        have hlt' : i < j := by omega
        have r2 : (j : Int) - (i : Int) = ((j - i : Nat) : Int) := by omega
        obtain ⟨mj, hmj'⟩ : ∃ z, z = m + j := ⟨_, rfl⟩
        have r3 : (m : Int) + (j : Int) = (mj : Int) := by omega
        obtain ⟨mji, hmji⟩ : ∃ z, z = m + (j - i) := ⟨_, rfl⟩
        have r4 : (mj : Int) - (i : Int) = (mji : Int) := by omega
        have HMJ : Hid (mji = m + (j - i)) := hmji
        have hmj1 : mj ≤ n := by omega
        have hmj2 : mji ≤ n := by omega
        clear hmj' hmji
        go_wp2_with fail
        have hsp : Y' = Y'.take (j - i) ++ Y'.drop (j - i) := (List.take_append_drop (j - i) Y').symm
        have l1 : (Y'.take (j - i)).length = j - i := by have h1 := HX.out; simp; omega
        have l2 : (Y'.drop (j - i)).length = i := by have h1 := HX.out; simp; omega
        refine (swapRange_any g n cap B mi mji i P' X' (Y'.take (j - i)) (Y'.drop (j - i)) Q' _ (by rw [hsp] at ho; simpa using ho) (by have h1 := HX.out; have h2 := HM.out; have h3 := HMJ.out; refine ⟨?_, ?_, ?_, ?_⟩ <;> omega) hsz).mono ?_
        rintro e w1 ⟨rfl, ho1, hg1⟩
        have hgr1 := grown_trans hgr hg1 (fun x hx => .inl hx)
        clear ho hgr hg1
        go_wp2_with fail
        go_roundw
        case rel =>
          refine ⟨i, j - i, P', Y'.drop (j - i), Y'.take (j - i), X' ++ Q', rfl, by go_num, l2, l1, hi0, by omega, by have h1 := HX.out; omega, by omega, ?_, by simpa using ho1, hgr1⟩
          rw [← HG.out]
          conv => rhs; rw [hsp]
          simp
        case measure => simp [intOf]; omega
end Go.Proofs.Ytgpndbfefbdibaa
