/- What the library's merge of two sorted blocks of pairs does where the second block is one pair: a contract. -/
import Derived.Test.YtgpndbfefbdibaaSymOne
namespace Go.Proofs.Ytgpndbfefbdibaa
open Go.RowKit

set_option maxHeartbeats 2000000 in
set_option maxRecDepth 100000 in
theorem symM_end (g n cap B a m b : Nat) (y0 y1 : Int) (P X Q : List (Int × Int)) (w : World) (hown : OwnG PE 29 w B (some ⟨g, 0, none⟩) n cap (P ++ X ++ [(y0, y1)] ++ Q)) (hnd : Nd X) (hP : Hid (P.length = a ∧ a + X.length = m ∧ m + 1 = b)) (hX2 : 2 ≤ X.length) (hsz : n ≤ 1000000) :
    Calls Try.prog 64 #[.slice (some ⟨g, 0, none⟩) n cap, .int .i64 a, .int .i64 m, .int .i64 b, .func (.func 37) #[] #[]] w fun e w' => e = .returned (.tuple #[]) ∧ ∃ X1 X2, X = X1 ++ X2 ∧ (∀ p ∈ X1, p.1 ≤ y0) ∧ (∀ p ∈ X2, y0 < p.1) ∧ OwnG PE 29 w' B (some ⟨g, 0, none⟩) n cap (P ++ (X1 ++ (y0, y1) :: X2) ++ Q) ∧ w.grownBy w' (some g) := by
  obtain ⟨Z, hZ⟩ : ∃ Z, Z = P ++ X ++ [(y0, y1)] ++ Q := ⟨_, rfl⟩
  rw [← hZ] at hown
  have hln : Hid (Z.length = n ∧ b ≤ n) := by
    have h1 := hown.1; have h2 := hP.out
    have h3 : Z.length = P.length + X.length + 1 + Q.length := by rw [hZ]; simp; omega
    show _ ∧ _
    omega
  have hbn : b ≤ n := hln.out.2
  have hmb : m + 1 = b := hP.out.2.2
  obtain ⟨lx, hlx⟩ : ∃ z, z = m - a := ⟨_, rfl⟩
  have ham : a + 2 ≤ m := by have := hP.out; omega
  have ea : Z[m]? = some (y0, y1) := by rw [hZ, ← hP.out.2.1, ← hP.out.1]; simp
  have hkX : Hid (∀ s t, a ≤ s → s ≤ t → t < m → kz Z s ≤ kz Z t) := fun s t h1 h2 h3 => by
    rw [hZ, List.append_assoc (P ++ X)]
    have h4 := hP.out
    exact kz_seg P X ([(y0, y1)] ++ Q) hnd s t (by omega) h2 (by omega)
  have hZ' : Hid (Z = P ++ X ++ [(y0, y1)] ++ Q) := hZ
  have hEA : Hid (Z[m]? = some (y0, y1)) := ea
  have q1 : (m : Int) - (a : Int) = (lx : Int) := by omega
  have b1 : ((lx : Int) == 1) = false := by simp; omega
  have hlx' : lx ≤ n := by omega
  clear hZ ea hlx
  have q2 : (b : Int) - (m : Int) = 1 := by omega
  go_enter Try.func64, Try.ntmps64
  go_wp2_with fail
  rename_i K hK
  have CL : Hid (∀ (ac : Act) (V : World) (i : Nat), ac = { tmps := #[.slice (some ⟨g, 0, none⟩) n cap, .int .i64 a, .int .i64 m, .int .i64 b, .func (.func 37) #[] #[], sl ac 5, sl ac 6, sl ac 7, sl ac 8, sl ac 9, sl ac 10, sl ac 11, sl ac 12, sl ac 13, .int .i64 i, sl ac 15, sl ac 16, sl ac 17, sl ac 18, sl ac 19, sl ac 20, sl ac 21, sl ac 22, sl ac 23, sl ac 24, sl ac 25, sl ac 26, sl ac 27, sl ac 28, sl ac 29, sl ac 30, sl ac 31, sl ac 32, sl ac 33, sl ac 34, sl ac 35, sl ac 36, sl ac 37, sl ac 38, sl ac 39, sl ac 40, sl ac 41, sl ac 42, sl ac 43, sl ac 44, sl ac 45, sl ac 46, sl ac 47, sl ac 48, sl ac 49, sl ac 50, sl ac 51, sl ac 52, sl ac 53, sl ac 54, sl ac 55, sl ac 56, sl ac 57, sl ac 58, sl ac 59, sl ac 60, sl ac 61, sl ac 62, sl ac 63, sl ac 64, sl ac 65, sl ac 66, sl ac 67, sl ac 68, sl ac 69, sl ac 70, sl ac 71, sl ac 72, sl ac 73, sl ac 74, sl ac 75, sl ac 76, sl ac 77, sl ac 78, sl ac 79, sl ac 80, sl ac 81, sl ac 82, sl ac 83, sl ac 84, sl ac 85, sl ac 86, sl ac 87, sl ac 88, sl ac 89, sl ac 90, sl ac 91, sl ac 92, sl ac 93, sl ac 94, sl ac 95, sl ac 96, sl ac 97, sl ac 98, sl ac 99, sl ac 100, sl ac 101, sl ac 102, sl ac 103, sl ac 104, sl ac 105, sl ac 106, sl ac 107, sl ac 108, sl ac 109, sl ac 110, sl ac 111, sl ac 112, sl ac 113, sl ac 114, sl ac 115, sl ac 116, sl ac 117, sl ac 118, sl ac 119, sl ac 120, sl ac 121, sl ac 122, sl ac 123, sl ac 124, sl ac 125, sl ac 126, sl ac 127, sl ac 128, sl ac 129, sl ac 130, sl ac 131, sl ac 132, sl ac 133, sl ac 134, sl ac 135, sl ac 136, sl ac 137, sl ac 138, sl ac 139, sl ac 140, sl ac 141, sl ac 142, sl ac 143, sl ac 144, sl ac 145, sl ac 146, sl ac 147, sl ac 148, sl ac 149, sl ac 150, sl ac 151, sl ac 152, sl ac 153, sl ac 154, sl ac 155, sl ac 156, sl ac 157, sl ac 158, sl ac 159, sl ac 160, sl ac 161, sl ac 162, sl ac 163, sl ac 164, sl ac 165, sl ac 166, sl ac 167, sl ac 168, sl ac 169, sl ac 170, sl ac 171, sl ac 172, sl ac 173, sl ac 174, sl ac 175, sl ac 176, sl ac 177, sl ac 178, sl ac 179, sl ac 180, sl ac 181, sl ac 182, sl ac 183, sl ac 184, sl ac 185, sl ac 186, sl ac 187, sl ac 188, sl ac 189, sl ac 190, sl ac 191, sl ac 192, sl ac 193, sl ac 194, sl ac 195, sl ac 196, sl ac 197, sl ac 198, sl ac 199, sl ac 200, sl ac 201, sl ac 202, sl ac 203, sl ac 204, sl ac 205, sl ac 206, sl ac 207, sl ac 208, sl ac 209, sl ac 210, sl ac 211, sl ac 212, sl ac 213, sl ac 214, sl ac 215, sl ac 216, sl ac 217, sl ac 218, sl ac 219], defers := [] } → a ≤ i → i ≤ m → (∀ t, a ≤ t → t < i → kz Z t ≤ y0) → (∀ t, i ≤ t → t < m → y0 < kz Z t) → OwnG PE 29 V B (some ⟨g, 0, none⟩) n cap Z → w.grownBy V (some g) → K ac V) := by
    intro ac V i hact hi1 hi2 hlo hhi ho hgr
    generalize sl ac = s at hact
    subst hact
    refine hK _ _ ?_
    clear hK
    have HI : Hid (∃ X1 X2, X = X1 ++ X2 ∧ (∀ p ∈ X1, p.1 ≤ y0) ∧ (∀ p ∈ X2, y0 < p.1) ∧ i = a + X1.length ∧ m = i + X2.length) := by
      have h4 := hP.out
      refine ⟨X.take (i - a), X.drop (i - a), (List.take_append_drop _ _).symm, fun p hp => ?_, fun p hp => ?_, by simp; omega, by simp; omega⟩
      · obtain ⟨t, h1, h2, h3, e⟩ := kz_take P X ([(y0, y1)] ++ Q) _ p hp
        rw [← List.append_assoc (P ++ X), ← hZ'.out] at e
        have := hlo t (by omega) (by omega); omega
      · obtain ⟨t, h1, h2, e⟩ := kz_drop P X ([(y0, y1)] ++ Q) _ p hp
        rw [← List.append_assoc (P ++ X), ← hZ'.out] at e
        have := hhi t (by omega) (by omega); omega
    clear hlo hhi
    obtain ⟨X1, X2, hX⟩ := HI.out
    have HX : Hid (X = X1 ++ X2 ∧ (∀ p ∈ X1, p.1 ≤ y0) ∧ (∀ p ∈ X2, y0 < p.1) ∧ i = a + X1.length ∧ m = i + X2.length) := hX
    clear hX HI
    have ho' : OwnG PE 29 V B (some ⟨g, 0, none⟩) n cap (P ++ X1 ++ X2 ++ (y0, y1) :: Q) := by
      have h1 := HX.out.1; have h2 := hZ'.out; rw [h1] at h2; rw [h2] at ho; simpa using ho
    clear ho
    go_wp2_with fail
    go_loopw [17] (fun kv wr => ∃ (k : Nat) (S T : List (Int × Int)), kv = .int .i64 k ∧ X2 = S ++ T ∧ k = i + S.length ∧ OwnG PE 29 wr B (some ⟨g, 0, none⟩) n cap ((P ++ X1 ++ S) ++ (y0, y1) :: (T ++ Q)) ∧ w.grownBy wr (some g)) (fun kv _ => (intOf kv).toNat)
    case atStart => exact ⟨m, X2, [], rfl, by simp, HX.out.2.2.2.2, by simpa using ho', hgr⟩
    case round =>
      clear ho' hgr
      obtain ⟨k, S, T, rfl, hST, hk, ho, hgr⟩ := hrel
      have HS : Hid (X2 = S ++ T ∧ k = i + S.length) := ⟨hST, hk⟩
      clear hST hk
      by_cases hlt : i < k
      · have p1 : (i : Int) < (k : Int) := by omega
        obtain ⟨S', x, hT⟩ : ∃ S' x, S = S' ++ [x] := by
          have h1 : S ≠ [] := fun e => by have := HS.out.2; rw [e] at this; simp at this; omega
          exact ⟨S.dropLast, S.getLast h1, (List.dropLast_concat_getLast h1).symm⟩
        subst hT
        obtain ⟨x0, x1⟩ := x
        obtain ⟨k1, hk1⟩ : ∃ z, z = k - 1 := ⟨_, rfl⟩
        have q3 : (k : Int) - 1 = (k1 : Int) := by omega
        have HK : Hid (k1 = (P ++ X1 ++ S').length ∧ k = (P ++ X1 ++ S').length + 1) := by have h1 := HS.out.2; have h2 := hP.out; have h3 := HX.out; show _ ∧ _; simp only [List.length_append, List.length_singleton] at h1 ⊢; omega
        have ho1 : OwnG PE 29 wr B (some ⟨g, 0, none⟩) n cap ((P ++ X1 ++ S') ++ (x0, x1) :: (y0, y1) :: (T ++ Q)) := by simpa using ho
        have hln2 := ho1.1
        have hkn0 : k < n := by have h2 := HK.out; simp only [List.length_append, List.length_cons] at hln2 h2; omega
        have hkn : k1 < n := by omega
        have p3 : (k : Int) < (n : Int) := by omega
        have p4 : (k1 : Int) < (n : Int) := by omega
        have hne1 : k ≠ k1 := by omega
        have hne2 : k1 ≠ k := by omega
        have HK1 : Hid (k = k1 + 1) := by show _ = _; omega
        clear hk1 hln2 ho
        have hw1 : IntKind.i64.wrap (k1 : Int) = (k1 : Int) := by rw [IntKind.wrap_i64]; omega
        have e1 : ((P ++ X1 ++ S') ++ (x0, x1) :: (y0, y1) :: (T ++ Q))[k1]? = some (x0, x1) := by rw [HK.out.1, List.getElem?_append_right (by omega), Nat.sub_self]; rfl
        have e2 : ((P ++ X1 ++ S') ++ (x0, x1) :: (y0, y1) :: (T ++ Q))[k]? = some (y0, y1) := by rw [HK.out.2, List.getElem?_append_right (by omega), Nat.add_sub_cancel_left]; rfl
        have okX : PE.ok (x0, x1) := ho1.2.1.get e1
        have okY : PE.ok (y0, y1) := ho1.2.1.get e2
        obtain ⟨c1, c2⟩ := ho1.row.pair e1
        obtain ⟨c3, c4⟩ := ho1.row.pair e2
        clear e1 e2
        simp only [Nat.zero_add] at c1 c2 c3 c4
        have m1 := ho1.fz (k * 2)
        have m2 := ho1.fz (k * 2 + 1)
        have m3 := ho1.fz (k1 * 2)
        have m4 := ho1.fz (k1 * 2 + 1)
        have HREL : Hid (∃ (k' : Nat) (S T : List (Int × Int)), Value.int .i64 (k1 : Int) = .int .i64 k' ∧ X2 = S ++ T ∧ k' = i + S.length ∧ OwnG PE 29 (((((wr).setCell ⟨g, k * 2, none⟩ (.int .u16 x0)).setCell ⟨g, k * 2 + 1, none⟩ (.int .u8 x1)).setCell ⟨g, k1 * 2, none⟩ (.int .u16 y0)).setCell ⟨g, k1 * 2 + 1, none⟩ (.int .u8 y1)).drew B (some ⟨g, 0, none⟩) n cap ((P ++ X1 ++ S) ++ (y0, y1) :: (T ++ Q)) ∧ w.grownBy (((((wr).setCell ⟨g, k * 2, none⟩ (.int .u16 x0)).setCell ⟨g, k * 2 + 1, none⟩ (.int .u8 x1)).setCell ⟨g, k1 * 2, none⟩ (.int .u16 y0)).setCell ⟨g, k1 * 2 + 1, none⟩ (.int .u8 y1)).drew (some g)) := by
          refine ⟨k1, S', (x0, x1) :: T, rfl, by simp [HS.out.1], by have h1 := HS.out.2; have h2 := HK1.out; simp at h1; omega, ?_, ?_⟩
          · have h1 := ((ho1.set_pair k hkn0 x0 x1 okX).set_pair k1 hkn y0 y1 okY).below (ext_drew _)
            have h2 : (((P ++ X1 ++ S') ++ (x0, x1) :: (y0, y1) :: (T ++ Q)).set k (x0, x1)).set k1 (y0, y1) = (P ++ X1 ++ S') ++ (y0, y1) :: ((x0, x1) :: T ++ Q) := by
              rw [HK.out.1, HK.out.2, swap_bw]; simp
            rw [h2] at h1
            exact h1
          · refine grown_trans ?_ (grown_of_below (ext_drew _) none) (fun x hx => by simp at hx)
            exact grown_trans (grown_trans (grown_trans (grown_trans hgr (grown_set _ _ _ _) (fun x hx => .inl hx)) (grown_set _ _ _ _) (fun x hx => .inl hx)) (grown_set _ _ _ _) (fun x hx => .inl hx)) (grown_set _ _ _ _) (fun x hx => .inl hx)
        go_wp2_with fail
        refine wp_region_noPanic ?_
        refine wp_region_held_drew (S := fun _ => True) (by kernel_rfl) trivial fun hS => ?_
        refine take_to (i := 0) (v := ?_) 113 rfl rfl (by kernel_rfl) (by kernel_rfl) (by kernel_rfl) (fun _ _ _ h => h) (Or.inl ⟨by rfl, ?_⟩) hS ?_
        rotate_left
        · intro W hW
          go_simp
          try with_reducible rfl
        simp only [List.setIfInBounds_toArray, List.set_cons_zero, List.set_cons_succ]
        refine take_to (i := 1) (v := ?_) 114 rfl rfl (by kernel_rfl) (by kernel_rfl) (by kernel_rfl) (fun _ _ _ h => h) (Or.inl ⟨by rfl, ?_⟩) hS ?_
        rotate_left
        · intro W hW
          go_simp
          try with_reducible rfl
        simp only [List.setIfInBounds_toArray, List.set_cons_zero, List.set_cons_succ]
        refine take_to (i := 2) (v := ?_) 115 rfl rfl (by kernel_rfl) (by kernel_rfl) (by kernel_rfl) (fun _ _ _ h => h) (Or.inl ⟨by rfl, ?_⟩) hS ?_
        rotate_left
        · intro W hW
          go_simp
          try with_reducible rfl
        simp only [List.setIfInBounds_toArray, List.set_cons_zero, List.set_cons_succ]
        refine take_to (i := 3) (v := ?_) 116 rfl rfl (by kernel_rfl) (by kernel_rfl) (by kernel_rfl) (fun _ _ _ h => h) (Or.inl ⟨by rfl, ?_⟩) hS ?_
        rotate_left
        · intro W hW
          go_simp
          try with_reducible rfl
        simp only [List.setIfInBounds_toArray, List.set_cons_zero, List.set_cons_succ]
        refine take_to (i := 4) (v := ?_) 117 rfl rfl (by kernel_rfl) (by kernel_rfl) (by kernel_rfl) (fun _ _ _ h => h) (Or.inl ⟨by rfl, ?_⟩) hS ?_
        rotate_left
        · intro W hW
          go_simp
          try with_reducible rfl
        simp only [List.setIfInBounds_toArray, List.set_cons_zero, List.set_cons_succ]
        refine take_to (i := 5) (v := ?_) 118 rfl rfl (by kernel_rfl) (by kernel_rfl) (by kernel_rfl) (fun _ _ _ h => h) (Or.inl ⟨by rfl, ?_⟩) hS ?_
        rotate_left
        · intro W hW
          go_simp
          try with_reducible rfl
        simp only [List.setIfInBounds_toArray, List.set_cons_zero, List.set_cons_succ]
        refine take_to (i := 6) (v := ?_) 119 rfl rfl (by kernel_rfl) (by kernel_rfl) (by kernel_rfl) (fun _ _ _ h => h) (Or.inl ⟨by rfl, ?_⟩) hS ?_
        rotate_left
        · intro W hW
          go_simp
          try with_reducible rfl
        simp only [List.setIfInBounds_toArray, List.set_cons_zero, List.set_cons_succ]
        refine take_to (i := 7) (v := ?_) 120 rfl rfl (by kernel_rfl) (by kernel_rfl) (by kernel_rfl) (fun _ _ _ h => h) (Or.inl ⟨by rfl, ?_⟩) hS ?_
        rotate_left
        · intro W hW
          go_simp
          try with_reducible rfl
        simp only [List.setIfInBounds_toArray, List.set_cons_zero, List.set_cons_succ]
        refine take_to (i := 8) (v := ?_) 121 rfl rfl (by kernel_rfl) (by kernel_rfl) (by kernel_rfl) (fun _ _ _ h => h) (Or.inl ⟨by rfl, ?_⟩) hS ?_
        rotate_left
        · intro W hW
          go_simp
          try with_reducible rfl
        simp only [List.setIfInBounds_toArray, List.set_cons_zero, List.set_cons_succ]
        refine take_to (i := 10) (v := ?_) 123 rfl rfl (by kernel_rfl) (by kernel_rfl) (by kernel_rfl) (fun _ _ _ h => h) (Or.inl ⟨by rfl, ?_⟩) hS ?_
        rotate_left
        · intro W hW
          go_simp
          try with_reducible rfl
        simp only [List.setIfInBounds_toArray, List.set_cons_zero, List.set_cons_succ]
        refine take_to (i := 11) (v := ?_) 124 rfl rfl (by kernel_rfl) (by kernel_rfl) (by kernel_rfl) (fun _ _ _ h => h) (Or.inl ⟨by rfl, ?_⟩) hS ?_
        rotate_left
        · intro W hW
          go_simp
          try with_reducible rfl
        simp only [List.setIfInBounds_toArray, List.set_cons_zero, List.set_cons_succ]
        refine take_to (i := 12) (v := ?_) 125 rfl rfl (by kernel_rfl) (by kernel_rfl) (by kernel_rfl) (fun _ _ _ h => h) (Or.inl ⟨by rfl, ?_⟩) hS ?_
        rotate_left
        · intro W hW
          go_simp
          try with_reducible rfl
        simp only [List.setIfInBounds_toArray, List.set_cons_zero, List.set_cons_succ]
        refine wpAnyH_ready (rs := [9, 13]) (by kernel_rfl) (by simp) ?_
        refine AllReadyH.cons rfl (fun K hK => ?_) (AllReadyH.cons rfl (fun K hK => ?_) AllReadyH.nil)
        · go_simp
          refine hK.out _ _ trivial fun _ => ?_
          clear hK K
          refine wpAnyH_ready (rs := [13]) (by kernel_rfl) (by simp) ?_
          refine AllReadyH.cons rfl (fun K hK => ?_) AllReadyH.nil
          go_simp
          refine hK.out _ _ trivial fun _ => ?_
          clear hK K
          refine wpAnyH_ready (rs := [14]) (by kernel_rfl) (by simp) ?_
          refine AllReadyH.cons rfl (fun K hK => ?_) AllReadyH.nil
          go_simp
          refine hK.out _ _ trivial fun _ => ?_
          clear hK K
          refine wpAnyH_ready (rs := [15]) (by kernel_rfl) (by simp) ?_
          refine AllReadyH.cons rfl (fun K hK => ?_) AllReadyH.nil
          go_simp
          refine hK.out _ _ trivial fun _ => ?_
          clear hK K
          refine wpAnyH_ready (rs := [16]) (by kernel_rfl) (by simp) ?_
          refine AllReadyH.cons rfl (fun K hK => ?_) AllReadyH.nil
          go_simp
          refine hK.out _ _ trivial fun _ => ?_
          clear hK K
          refine wpAnyH_ready (rs := [17]) (by kernel_rfl) (by simp) ?_
          refine AllReadyH.cons rfl (fun K hK => ?_) AllReadyH.nil
          go_simp
          refine hK.out _ _ trivial fun _ => ?_
          clear hK K
          refine wpAnyH_done (by kernel_rfl) ?_ _
          refine NoPanic.normal ?_
          go_wp2_with fail
          go_roundw
          case rel => exact HREL.out
          case measure => have := HK1.out; simp [intOf]; omega
        · go_simp
          refine hK.out _ _ trivial fun _ => ?_
          clear hK K
          refine wpAnyH_ready (rs := [9]) (by kernel_rfl) (by simp) ?_
          refine AllReadyH.cons rfl (fun K hK => ?_) AllReadyH.nil
          go_simp
          refine hK.out _ _ trivial fun _ => ?_
          clear hK K
          refine wpAnyH_ready (rs := [14]) (by kernel_rfl) (by simp) ?_
          refine AllReadyH.cons rfl (fun K hK => ?_) AllReadyH.nil
          go_simp
          refine hK.out _ _ trivial fun _ => ?_
          clear hK K
          refine wpAnyH_ready (rs := [15]) (by kernel_rfl) (by simp) ?_
          refine AllReadyH.cons rfl (fun K hK => ?_) AllReadyH.nil
          go_simp
          refine hK.out _ _ trivial fun _ => ?_
          clear hK K
          refine wpAnyH_ready (rs := [16]) (by kernel_rfl) (by simp) ?_
          refine AllReadyH.cons rfl (fun K hK => ?_) AllReadyH.nil
          go_simp
          refine hK.out _ _ trivial fun _ => ?_
          clear hK K
          refine wpAnyH_ready (rs := [17]) (by kernel_rfl) (by simp) ?_
          refine AllReadyH.cons rfl (fun K hK => ?_) AllReadyH.nil
          go_simp
          refine hK.out _ _ trivial fun _ => ?_
          clear hK K
          refine wpAnyH_done (by kernel_rfl) ?_ _
          refine NoPanic.normal ?_
          go_wp2_with fail
          go_roundw
          case rel => exact HREL.out
          case measure => have := HK1.out; simp [intOf]; omega
      · have p1 : decide ((i : Int) < (k : Int)) = false := by simp; omega
        have h0 : S = [] := by
          have h1 := HS.out.2
          exact List.eq_nil_of_length_eq_zero (by omega)
        subst h0
        go_wp2_with fail
        (try simp only [Exit.inBlock, Exit.then])
        refine bodyPost_ret (results_none rfl _ _ _) rfl ?_
        refine ⟨rfl, X1, X2, HX.out.1, HX.out.2.1, HX.out.2.2.1, ?_, hgr⟩
        have h1 := HS.out.1
        rw [List.nil_append] at h1
        rw [h1]
        simpa using ho
  clear hK
  go_loopw [14, 15] (fun iv jv wr => ∃ i j : Nat, iv = .int .i64 i ∧ jv = .int .i64 j ∧ a ≤ i ∧ i ≤ j ∧ j ≤ m ∧ (∀ t, a ≤ t → t < i → kz Z t ≤ y0) ∧ (∀ t, j ≤ t → t < m → y0 < kz Z t) ∧ OwnG PE 29 wr B (some ⟨g, 0, none⟩) n cap Z ∧ w.grownBy wr (some g)) (fun iv jv _ => (intOf jv).toNat - (intOf iv).toNat)
  case atStart => exact ⟨a, m, rfl, rfl, by omega, by omega, by omega, fun t h1 h2 => by omega, fun t h1 h2 => by omega, hown, ⟨rfl, rfl, rfl, Nat.le_refl _, fun _ _ _ => rfl⟩⟩
  case round =>
    clear hown
    obtain ⟨i, j, rfl, rfl, h1, h2, h3, hlo, hhi, ho, hgr⟩ := hrel
    have HLO : Hid ((∀ t, a ≤ t → t < i → kz Z t ≤ y0) ∧ (∀ t, j ≤ t → t < m → y0 < kz Z t)) := ⟨hlo, hhi⟩
    clear hlo hhi
    by_cases hlt : i < j
    · have p1 : (i : Int) < (j : Int) := by omega
      obtain ⟨ij, hij⟩ : ∃ z, z = i + j := ⟨_, rfl⟩
      obtain ⟨h, hh⟩ : ∃ z, z = (i + j) / 2 := ⟨_, rfl⟩
      have r1 : (i : Int) + (j : Int) = (ij : Int) := by omega
      have r2 : (ij : Int) / 2 = (h : Int) := by omega
      have hh' : i ≤ h ∧ h < j := by omega
      have hhn : h < n := by omega
      have han : m < n := by omega
      have p3 : (h : Int) < (n : Int) := by omega
      have p4 : (m : Int) < (n : Int) := by omega
      have hijn : ij ≤ 2 * n := by omega
      clear hij hh
      obtain ⟨⟨X', X0⟩, eX⟩ : ∃ x, Z[h]? = some x := ⟨Z[h]'(by have := hln.out; omega), List.getElem?_eq_getElem _⟩
      have HX : Hid (Z[h]? = some (X', X0)) := eX
      clear eX
      have HC : Hid (∀ W, Below wr.heap.size wr W → W.cell? ⟨g, h * 2, none⟩ = some (.int .u16 X') ∧ W.cell? ⟨g, h * 2 + 1, none⟩ = some (.int .u8 X0) ∧ W.cell? ⟨g, m * 2, none⟩ = some (.int .u16 y0) ∧ W.cell? ⟨g, m * 2 + 1, none⟩ = some (.int .u8 y1)) := fun W hb => by
        have h1 := (ho.below hb).row.pair HX.out
        have h2 := (ho.below hb).row.pair hEA.out
        simp only [Nat.zero_add] at h1 h2
        exact ⟨h1.1, h1.2, h2.1, h2.2⟩
      go_wp2_with fail
      refine wp_region_noPanic ?_
      refine wp_region_held_drew (S := fun W => Below wr.heap.size wr W) (by kernel_rfl) (ext_drew wr) fun hS => ?_
      refine take_to (i := 0) (v := ?_) 92 rfl rfl (by kernel_rfl) (by kernel_rfl) (by kernel_rfl) (fun _ _ _ h => h) (Or.inl ⟨by rfl, ?_⟩) hS ?_
      rotate_left
      · intro W hW
        obtain ⟨s0, s1, s2, s3⟩ := HC.out W hW
        go_simp
        try with_reducible rfl
      simp only [List.setIfInBounds_toArray, List.set_cons_zero, List.set_cons_succ]
      refine take_to (i := 1) (v := ?_) 93 rfl rfl (by kernel_rfl) (by kernel_rfl) (by kernel_rfl) (fun _ _ _ h => h) (Or.inl ⟨by rfl, ?_⟩) hS ?_
      rotate_left
      · intro W hW
        obtain ⟨s0, s1, s2, s3⟩ := HC.out W hW
        go_simp
        try with_reducible rfl
      simp only [List.setIfInBounds_toArray, List.set_cons_zero, List.set_cons_succ]
      refine take_to (i := 2) (v := ?_) 94 rfl rfl (by kernel_rfl) (by kernel_rfl) (by kernel_rfl) (fun _ _ _ h => h) (Or.inl ⟨by rfl, ?_⟩) hS ?_
      rotate_left
      · intro W hW
        obtain ⟨s0, s1, s2, s3⟩ := HC.out W hW
        go_simp
        try with_reducible rfl
      simp only [List.setIfInBounds_toArray, List.set_cons_zero, List.set_cons_succ]
      refine take_to (i := 3) (v := ?_) 95 rfl rfl (by kernel_rfl) (by kernel_rfl) (by kernel_rfl) (fun _ _ _ h => h) (Or.inl ⟨by rfl, ?_⟩) hS ?_
      rotate_left
      · intro W hW
        obtain ⟨s0, s1, s2, s3⟩ := HC.out W hW
        go_simp
        try with_reducible rfl
      simp only [List.setIfInBounds_toArray, List.set_cons_zero, List.set_cons_succ]
      refine take_to (i := 4) (v := ?_) 96 rfl rfl (by kernel_rfl) (by kernel_rfl) (by kernel_rfl) (fun _ _ _ h => h) (Or.inl ⟨by rfl, ?_⟩) hS ?_
      rotate_left
      · intro W hW
        obtain ⟨s0, s1, s2, s3⟩ := HC.out W hW
        go_simp
        try with_reducible rfl
      simp only [List.setIfInBounds_toArray, List.set_cons_zero, List.set_cons_succ]
      refine take_to (i := 5) (v := ?_) 97 rfl rfl (by kernel_rfl) (by kernel_rfl) (by kernel_rfl) (fun _ _ _ h => h) (Or.inl ⟨by rfl, ?_⟩) hS ?_
      rotate_left
      · intro W hW
        obtain ⟨s0, s1, s2, s3⟩ := HC.out W hW
        go_simp
        try with_reducible rfl
      simp only [List.setIfInBounds_toArray, List.set_cons_zero, List.set_cons_succ]
      refine take_to (i := 6) (v := ?_) 98 rfl rfl (by kernel_rfl) (by kernel_rfl) (by kernel_rfl) (fun _ _ _ h => h) (Or.inl ⟨by rfl, ?_⟩) hS ?_
      rotate_left
      · intro W hW
        obtain ⟨s0, s1, s2, s3⟩ := HC.out W hW
        go_simp
        try with_reducible rfl
      simp only [List.setIfInBounds_toArray, List.set_cons_zero, List.set_cons_succ]
      refine take_to (i := 7) (v := ?_) 99 rfl rfl (by kernel_rfl) (by kernel_rfl) (by kernel_rfl) (fun _ _ _ h => h) (Or.inl ⟨by rfl, ?_⟩) hS ?_
      rotate_left
      · intro W hW
        obtain ⟨s0, s1, s2, s3⟩ := HC.out W hW
        go_simp
        try with_reducible rfl
      simp only [List.setIfInBounds_toArray, List.set_cons_zero, List.set_cons_succ]
      refine take_to (i := 8) (v := ?_) 100 rfl rfl (by kernel_rfl) (by kernel_rfl) (by kernel_rfl) (fun _ _ _ h => h) (Or.inl ⟨by rfl, ?_⟩) hS ?_
      rotate_left
      · intro W hW
        obtain ⟨s0, s1, s2, s3⟩ := HC.out W hW
        go_simp
        try with_reducible rfl
      simp only [List.setIfInBounds_toArray, List.set_cons_zero, List.set_cons_succ]
      refine wpAnyH_ready (rs := [9]) (by kernel_rfl) (by simp) ?_
      refine AllReadyH.cons rfl (fun K hK => ?_) AllReadyH.nil
      go_simp
      refine (makeF_any y0 y1 X' X0 _).mono ?_
      rintro e w3 ⟨rfl, hb3⟩
      have hB3 : Below wr.heap.size wr w3 := ext_trans (ext_drew _) hb3
      refine hK.out _ _ hB3 fun _ => ?_
      clear hK K
      have hgr3 : w.grownBy w3 (some g) := grown_trans hgr (grown_of_below hB3 none) (fun x hx => by simp at hx)
      have ho3 := ho.below hB3
      by_cases hXx : y0 < X'
      · have hcm : cmpI y0 X' = -1 := by simp [cmpI, hXx]
        rw [hcm]
        refine wpAnyH_ready (rs := [10]) (by kernel_rfl) (by simp) ?_
        refine AllReadyH.cons rfl (fun K hK => ?_) AllReadyH.nil
        go_simp
        refine hK.out _ _ hB3 fun _ => ?_
        clear hK K
        refine wpAnyH_ready (rs := [11]) (by kernel_rfl) (by simp) ?_
        refine AllReadyH.cons rfl (fun K hK => ?_) AllReadyH.nil
        go_simp
        refine hK.out _ _ hB3 fun _ => ?_
        clear hK K
        refine wpAnyH_done (by kernel_rfl) ?_ _
        refine NoPanic.normal ?_
        go_wp2_with fail
        go_roundw
        case rel =>
          refine ⟨i, h, rfl, rfl, by omega, by omega, by omega, HLO.out.1, fun t h1 h2 => ?_, ho3, hgr3⟩
          have h3 := hkX.out h t (by omega) h1 h2
          rw [kz_of HX.out] at h3
          omega
        case measure => simp [intOf]; omega
      · have hcm : decide (cmpI y0 X' < 0) = false := by simp [cmpI, hXx]; split <;> omega
        refine wpAnyH_ready (rs := [10]) (by kernel_rfl) (by simp) ?_
        refine AllReadyH.cons rfl (fun K hK => ?_) AllReadyH.nil
        go_simp
        refine hK.out _ _ hB3 fun _ => ?_
        clear hK K
        refine wpAnyH_ready (rs := [11]) (by kernel_rfl) (by simp) ?_
        refine AllReadyH.cons rfl (fun K hK => ?_) AllReadyH.nil
        go_simp
        refine hK.out _ _ hB3 fun _ => ?_
        clear hK K
        refine wpAnyH_done (by kernel_rfl) ?_ _
        refine NoPanic.normal ?_
        go_wp2_with fail
        go_roundw
        case rel =>
          refine ⟨h + 1, j, by go_num, rfl, by omega, by omega, by omega, fun t h1 h2 => ?_, HLO.out.2, ho3, hgr3⟩
          have h3 := hkX.out t h h1 (by omega) (by omega)
          rw [kz_of HX.out] at h3
          omega
        case measure => simp [intOf]; omega
    · have p1 : decide ((i : Int) < (j : Int)) = false := by simp; omega
      obtain rfl : i = j := by omega
      go_wp2_with fail
      exact CL.out _ _ i rfl h1 h3 HLO.out.1 HLO.out.2 ho hgr
end Go.Proofs.Ytgpndbfefbdibaa
