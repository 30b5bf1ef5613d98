/- What the library's insertion sort of pairs by their categories does: a contract. -/
import Derived.Test.YtdoemkncgfgkhaaStab
import Derived.Test.YtdoemkncgfgkhaaLabFind
import Derived.Test.YtdoemkncgfgkhaaRegion
namespace Go.Proofs.Ytdoemkncgfgkhaa
open Go.RowKit
set_option maxRecDepth 100000

theorem swap_at (L R : List (Int × Int)) (x y : Int × Int) : ((L ++ y :: x :: R).set (L.length + 1) y).set L.length x = L ++ x :: y :: R := by
  rw [List.set_append_right _ _ (by omega), Nat.add_sub_cancel_left, List.set_append_right _ _ (by omega), Nat.sub_self]
  rfl
theorem nd_last {S : List (Int × Int)} {x : Int × Int} (h : Nd (S ++ [x])) : ∀ p ∈ S ++ [x], p.1 ≤ x.1 := by
  intro p hp
  rcases List.mem_append.1 hp with hp | hp
  · exact (List.pairwise_append.1 h).2.2 p hp x (by simp)
  · simp at hp; subst hp; exact Int.le_refl _

set_option maxHeartbeats 1500000 in
theorem insP_any (g n cap B A b : Nat) (P M Q : List (Int × Int)) (w : World) (hown : OwnG PE 40 w B (some ⟨g, 0, none⟩) n cap (P ++ M ++ Q)) (hP : Hid (P.length = A)) (hb : Hid (A + M.length = b)) (hsz : n ≤ 1000000) :
    Calls Try.prog 88 #[.slice (some ⟨g, 0, none⟩) n cap, .int .i64 A, .int .i64 b, .func (.func 70) #[] #[]] w fun e w' => e = .returned (.tuple #[]) ∧ ∃ M', OwnG PE 40 w' B (some ⟨g, 0, none⟩) n cap (P ++ M' ++ Q) ∧ StEq M' M ∧ Nd M' ∧ M'.length = M.length ∧ w.grownBy w' (some g) := by
  have hbn : b ≤ n := by have := hown.1; simp at this; have h2 := hb.out; have h3 := hP.out; omega
  have hAb : A ≤ b := by have h2 := hb.out; omega
  go_enter Try.func88, Try.ntmps88
  go_wp2_with fail
  go_loopw [8] (fun iv wr => ∃ (i : Nat) (S T : List (Int × Int)), iv = .int .i64 i ∧ (i = A + S.length ∨ (i = A + 1 ∧ M = [])) ∧ OwnG PE 40 wr B (some ⟨g, 0, none⟩) n cap (P ++ S ++ (T ++ Q)) ∧ StEq (S ++ T) M ∧ Nd S ∧ (S ++ T).length = M.length ∧ w.grownBy wr (some g)) (fun iv _ => b - (intOf iv).toNat)
  case atStart =>
    cases M with
    | nil => exact ⟨A + 1, [], [], by go_num, .inr ⟨rfl, rfl⟩, by simpa using hown, StEq.refl _, Nd.nil, rfl, ⟨rfl, rfl, rfl, Nat.le_refl _, fun _ _ _ => rfl⟩⟩
    | cons m M => exact ⟨A + 1, [m], M, by go_num, .inl rfl, by simpa using hown, StEq.refl _, List.pairwise_singleton _ _, rfl, ⟨rfl, rfl, rfl, Nat.le_refl _, fun _ _ _ => rfl⟩⟩
  case round =>
    obtain ⟨i, S, T, rfl, hi, ho, hst, hnd, hlen, hgr⟩ := hrel
    have HI : Hid (i = A + S.length ∨ (i = A + 1 ∧ M = [])) := hi
    have HST : Hid (StEq (S ++ T) M ∧ Nd S ∧ (S ++ T).length = M.length) := ⟨hst, hnd, hlen⟩
    clear hi hst hnd hlen
    by_cases hlt : i < b
    · have p1 : (i : Int) < (b : Int) := by omega
      have hiS : Hid (i = A + S.length) := by
        rcases HI.out with h | ⟨h1, h2⟩
        · exact h
        · have := hb.out; rw [h2] at this; simp at this; omega
      obtain ⟨x, T', hT⟩ : ∃ x T', T = x :: T' := by
        cases T with
        | nil => have := HST.out.2.2; have h2 := hb.out; have h3 := hiS.out; simp at this; omega
        | cons x T' => exact ⟨x, T', rfl⟩
      subst hT
      go_wp2_with fail
      obtain ⟨wo, rfl⟩ : ∃ x, x = wr := ⟨_, rfl⟩
      go_loopw [9] (fun jv wi => ∃ (j : Nat) (S1 S2 : List (Int × Int)), jv = .int .i64 j ∧ j = A + S1.length ∧ S = S1 ++ S2 ∧ (∀ p ∈ S2, x.1 < p.1) ∧ OwnG PE 40 wi B (some ⟨g, 0, none⟩) n cap ((P ++ S1) ++ x :: (S2 ++ (T' ++ Q))) ∧ w.grownBy wi (some g)) (fun jv _ => (intOf jv).toNat)
      case atStart => exact ⟨i, S, [], rfl, hiS.out, by simp, fun p hp => by simp at hp, by simpa using ho, hgr⟩
      case round =>
        clear ho hgr
        obtain ⟨j, S1, S2, rfl, hj, hS, hgt, ho, hgr⟩ := hrel
        have HJ : Hid (j = A + S1.length ∧ S = S1 ++ S2 ∧ ∀ p ∈ S2, x.1 < p.1) := ⟨hj, hS, hgt⟩
        clear hj hS hgt
        by_cases hja : A < j
        · have p2 : (A : Int) < (j : Int) := by omega
          obtain ⟨S1', y, hS1⟩ : ∃ S1' y, S1 = S1' ++ [y] := by
            have h1 : S1 ≠ [] := fun e => by have := HJ.out.1; rw [e] at this; simp at this; omega
            exact ⟨S1.dropLast, S1.getLast h1, (List.dropLast_concat_getLast h1).symm⟩
          subst hS1
          obtain ⟨X, X0⟩ := x
          obtain ⟨Z, Z0⟩ := y
          have hjl : Hid (j - 1 = (P ++ S1').length ∧ j = (P ++ S1').length + 1) := by
            have h1 := HJ.out.1; have h2 := hP.out
            simp at h1 ⊢
            show _ ∧ _
            omega
          have hcur : Hid ((P ++ (S1' ++ [(Z, Z0)])) ++ (X, X0) :: (S2 ++ (T' ++ Q)) = (P ++ S1') ++ (Z, Z0) :: (X, X0) :: (S2 ++ (T' ++ Q))) := by show _ = _; simp
          rw [hcur.out] at ho
          have hjn : j < n := by
            have := ho.1; have h2 := hjl.out
            simp only [List.length_append, List.length_cons] at this h2
            omega
          have p3 : (j : Int) < (n : Int) := by omega
          have hq : ((j : Int) - 1) = ((j - 1 : Nat) : Int) := by omega
          have p4 : ((j - 1 : Nat) : Int) < (n : Int) := by omega
          have p5 : j - 1 < n := by omega
          have hwr : IntKind.i64.wrap ((j - 1 : Nat) : Int) = ((j - 1 : Nat) : Int) := by rw [IntKind.wrap_i64]; omega
          have e1 : Hid (((P ++ S1') ++ (Z, Z0) :: (X, X0) :: (S2 ++ (T' ++ Q)))[j]? = some (X, X0)) := by
            show _ = _
            rw [hjl.out.2, List.getElem?_append_right (by omega), Nat.add_sub_cancel_left]; rfl
          have e2 : Hid (((P ++ S1') ++ (Z, Z0) :: (X, X0) :: (S2 ++ (T' ++ Q)))[j - 1]? = some (Z, Z0)) := by
            show _ = _
            rw [hjl.out.1, List.getElem?_append_right (by omega), Nat.sub_self]; rfl
          have okX : PE.ok (X, X0) := ho.2.1.get e1.out
          have okZ : PE.ok (Z, Z0) := ho.2.1.get e2.out
          have HC : Hid (∀ W, (fun W => Below wr.heap.size wr W) W → W.cell? ⟨g, j * 2, none⟩ = some (.int .u16 X) ∧ W.cell? ⟨g, j * 2 + 1, none⟩ = some (.int .u8 X0) ∧ W.cell? ⟨g, (j - 1) * 2, none⟩ = some (.int .u16 Z) ∧ W.cell? ⟨g, (j - 1) * 2 + 1, none⟩ = some (.int .u8 Z0)) := fun W h => by
            have h1 := (ho.below h).row.pair e1.out
            have h2 := (ho.below h).row.pair e2.out
            simp only [Nat.zero_add] at h1 h2
            exact ⟨h1.1, h1.2, h2.1, h2.2⟩
          go_wp2_with fail
          refine wp_region_noPanic ?_
          refine wp_region_held_drew (S := fun W => Below wr.heap.size wr W) (by kernel_rfl) (ext_drew wr) fun hS => ?_
          refine take_to (i := 0) (v := ?_) 18 rfl rfl (by kernel_rfl) (by kernel_rfl) (by kernel_rfl) (fun _ _ _ h => h) (Or.inl ⟨by rfl, ?_⟩) hS ?_
          rotate_left
          · intro W hW
            obtain ⟨s0, s1, s2, s3⟩ := HC.out W hW
            go_simp
            try with_reducible rfl
          simp only [List.setIfInBounds_toArray, List.set_cons_zero, List.set_cons_succ]
          refine take_to (i := 1) (v := ?_) 19 rfl rfl (by kernel_rfl) (by kernel_rfl) (by kernel_rfl) (fun _ _ _ h => h) (Or.inl ⟨by rfl, ?_⟩) hS ?_
          rotate_left
          · intro W hW
            obtain ⟨s0, s1, s2, s3⟩ := HC.out W hW
            go_simp
            try with_reducible rfl
          simp only [List.setIfInBounds_toArray, List.set_cons_zero, List.set_cons_succ]
          refine take_to (i := 2) (v := ?_) 20 rfl rfl (by kernel_rfl) (by kernel_rfl) (by kernel_rfl) (fun _ _ _ h => h) (Or.inl ⟨by rfl, ?_⟩) hS ?_
          rotate_left
          · intro W hW
            obtain ⟨s0, s1, s2, s3⟩ := HC.out W hW
            go_simp
            try with_reducible rfl
          simp only [List.setIfInBounds_toArray, List.set_cons_zero, List.set_cons_succ]
          refine take_to (i := 3) (v := ?_) 21 rfl rfl (by kernel_rfl) (by kernel_rfl) (by kernel_rfl) (fun _ _ _ h => h) (Or.inl ⟨by rfl, ?_⟩) hS ?_
          rotate_left
          · intro W hW
            obtain ⟨s0, s1, s2, s3⟩ := HC.out W hW
            go_simp
            try with_reducible rfl
          simp only [List.setIfInBounds_toArray, List.set_cons_zero, List.set_cons_succ]
          refine take_to (i := 4) (v := ?_) 22 rfl rfl (by kernel_rfl) (by kernel_rfl) (by kernel_rfl) (fun _ _ _ h => h) (Or.inl ⟨by rfl, ?_⟩) hS ?_
          rotate_left
          · intro W hW
            obtain ⟨s0, s1, s2, s3⟩ := HC.out W hW
            go_simp
            try with_reducible rfl
          simp only [List.setIfInBounds_toArray, List.set_cons_zero, List.set_cons_succ]
          refine take_to (i := 5) (v := ?_) 23 rfl rfl (by kernel_rfl) (by kernel_rfl) (by kernel_rfl) (fun _ _ _ h => h) (Or.inl ⟨by rfl, ?_⟩) hS ?_
          rotate_left
          · intro W hW
            obtain ⟨s0, s1, s2, s3⟩ := HC.out W hW
            go_simp
            try with_reducible rfl
          simp only [List.setIfInBounds_toArray, List.set_cons_zero, List.set_cons_succ]
          refine take_to (i := 6) (v := ?_) 24 rfl rfl (by kernel_rfl) (by kernel_rfl) (by kernel_rfl) (fun _ _ _ h => h) (Or.inl ⟨by rfl, ?_⟩) hS ?_
          rotate_left
          · intro W hW
            obtain ⟨s0, s1, s2, s3⟩ := HC.out W hW
            go_simp
            try with_reducible rfl
          simp only [List.setIfInBounds_toArray, List.set_cons_zero, List.set_cons_succ]
          refine take_to (i := 7) (v := ?_) 25 rfl rfl (by kernel_rfl) (by kernel_rfl) (by kernel_rfl) (fun _ _ _ h => h) (Or.inl ⟨by rfl, ?_⟩) hS ?_
          rotate_left
          · intro W hW
            obtain ⟨s0, s1, s2, s3⟩ := HC.out W hW
            go_simp
            try with_reducible rfl
          simp only [List.setIfInBounds_toArray, List.set_cons_zero, List.set_cons_succ]
          refine take_to (i := 8) (v := ?_) 26 rfl rfl (by kernel_rfl) (by kernel_rfl) (by kernel_rfl) (fun _ _ _ h => h) (Or.inl ⟨by rfl, ?_⟩) hS ?_
          rotate_left
          · intro W hW
            obtain ⟨s0, s1, s2, s3⟩ := HC.out W hW
            go_simp
            try with_reducible rfl
          simp only [List.setIfInBounds_toArray, List.set_cons_zero, List.set_cons_succ]
          refine take_to (i := 9) (v := ?_) 27 rfl rfl (by kernel_rfl) (by kernel_rfl) (by kernel_rfl) (fun _ _ _ h => h) (Or.inl ⟨by rfl, ?_⟩) hS ?_
          rotate_left
          · intro W hW
            obtain ⟨s0, s1, s2, s3⟩ := HC.out W hW
            go_simp
            try with_reducible rfl
          simp only [List.setIfInBounds_toArray, List.set_cons_zero, List.set_cons_succ]
          refine take_to (i := 10) (v := ?_) 28 rfl rfl (by kernel_rfl) (by kernel_rfl) (by kernel_rfl) (fun _ _ _ h => h) (Or.inl ⟨by rfl, ?_⟩) hS ?_
          rotate_left
          · intro W hW
            obtain ⟨s0, s1, s2, s3⟩ := HC.out W hW
            go_simp
            try with_reducible rfl
          simp only [List.setIfInBounds_toArray, List.set_cons_zero, List.set_cons_succ]
          refine take_to (i := 11) (v := ?_) 29 rfl rfl (by kernel_rfl) (by kernel_rfl) (by kernel_rfl) (fun _ _ _ h => h) (Or.inl ⟨by rfl, ?_⟩) hS ?_
          rotate_left
          · intro W hW
            obtain ⟨s0, s1, s2, s3⟩ := HC.out W hW
            go_simp
            try with_reducible rfl
          simp only [List.setIfInBounds_toArray, List.set_cons_zero, List.set_cons_succ]
          refine take_to (i := 12) (v := ?_) 30 rfl rfl (by kernel_rfl) (by kernel_rfl) (by kernel_rfl) (fun _ _ _ h => h) (Or.inl ⟨by rfl, ?_⟩) hS ?_
          rotate_left
          · intro W hW
            obtain ⟨s0, s1, s2, s3⟩ := HC.out W hW
            go_simp
            try with_reducible rfl
          simp only [List.setIfInBounds_toArray, List.set_cons_zero, List.set_cons_succ]
          refine take_to (i := 13) (v := ?_) 31 rfl rfl (by kernel_rfl) (by kernel_rfl) (by kernel_rfl) (fun _ _ _ h => h) (Or.inl ⟨by rfl, ?_⟩) hS ?_
          rotate_left
          · intro W hW
            obtain ⟨s0, s1, s2, s3⟩ := HC.out W hW
            go_simp
            try with_reducible rfl
          simp only [List.setIfInBounds_toArray, List.set_cons_zero, List.set_cons_succ]
          refine wpAnyH_ready (rs := [14]) (by kernel_rfl) (by simp) ?_
          refine AllReadyH.cons rfl (fun K hK => ?_) AllReadyH.nil
          go_simp
          refine (makeF_any X X0 Z Z0 _).mono ?_
          rintro e w3 ⟨rfl, hb3⟩
          have hB3 : Below wr.heap.size wr w3 := ext_trans (ext_drew _) hb3
          refine hK.out _ _ hB3 fun _ => ?_
          clear hK K
          by_cases hXZ : X < Z
          · have hcm : cmpI X Z = -1 := by simp [cmpI, hXZ]
            rw [hcm]
            refine wpAnyH_ready (rs := [15]) (by kernel_rfl) (by simp) ?_
            refine AllReadyH.cons rfl (fun K hK => ?_) AllReadyH.nil
            go_simp
            refine hK.out _ _ hB3 fun _ => ?_
            clear hK K
            refine wpAnyH_ready (rs := [16]) (by kernel_rfl) (by simp) ?_
            refine AllReadyH.cons rfl (fun K hK => ?_) AllReadyH.nil
            go_simp
            refine hK.out _ _ hB3 fun _ => ?_
            clear hK K
            refine wpAnyH_done (by kernel_rfl) ?_ _
            refine NoPanic.normal ?_
            have ho3 := ho.below hB3
            have hgr3 : w.grownBy w3 (some g) := grown_trans hgr (grown_of_below hB3 none) (fun x hx => by simp at hx)
            obtain ⟨c1, c2, c3, c4⟩ := HC.out w3 hB3
            have m1 := ho3.fz (j * 2)
            have m2 := ho3.fz (j * 2 + 1)
            have m3 := ho3.fz ((j - 1) * 2)
            have m4 := ho3.fz ((j - 1) * 2 + 1)
            have HREL : Hid (∃ (jx : Nat) (S1 S2x : List (Int × Int)), Value.int .i64 ((j - 1 : Nat) : Int) = .int .i64 jx ∧ jx = A + S1.length ∧ S = S1 ++ S2x ∧ (∀ p ∈ S2x, (X, X0).1 < p.1) ∧ OwnG PE 40 ((((w3.setCell ⟨g, j * 2, none⟩ (.int .u16 Z)).setCell ⟨g, j * 2 + 1, none⟩ (.int .u8 Z0)).setCell ⟨g, (j - 1) * 2, none⟩ (.int .u16 X)).setCell ⟨g, (j - 1) * 2 + 1, none⟩ (.int .u8 X0)).drew B (some ⟨g, 0, none⟩) n cap ((P ++ S1) ++ (X, X0) :: (S2x ++ (T' ++ Q))) ∧ w.grownBy ((((w3.setCell ⟨g, j * 2, none⟩ (.int .u16 Z)).setCell ⟨g, j * 2 + 1, none⟩ (.int .u8 Z0)).setCell ⟨g, (j - 1) * 2, none⟩ (.int .u16 X)).setCell ⟨g, (j - 1) * 2 + 1, none⟩ (.int .u8 X0)).drew (some g)) := by
              refine ⟨j - 1, S1', (Z, Z0) :: S2, rfl, ?_, ?_, ?_, ?_, ?_⟩
              · have := HJ.out.1; simp at this; omega
              · rw [HJ.out.2.1]; simp
              · intro p hp
                rcases List.mem_cons.1 hp with rfl | hp
                · exact hXZ
                · exact HJ.out.2.2 p hp
              · have h1 := ((ho3.set_pair j hjn Z Z0 okZ).set_pair (j - 1) p5 X X0 okX).below (ext_drew _)
                have h2 : (((P ++ S1') ++ (Z, Z0) :: (X, X0) :: (S2 ++ (T' ++ Q))).set j (Z, Z0)).set (j - 1) (X, X0) = (P ++ S1') ++ (X, X0) :: ((Z, Z0) :: S2 ++ (T' ++ Q)) := by
                  rw [hjl.out.1, hjl.out.2, swap_at]; rfl
                rw [h2] at h1
                exact h1
              · refine grown_trans ?_ (grown_of_below (ext_drew _) none) (fun x hx => by simp at hx)
                exact grown_trans (grown_trans (grown_trans (grown_trans hgr3 (grown_set _ _ _ _) (fun x hx => .inl hx)) (grown_set _ _ _ _) (fun x hx => .inl hx)) (grown_set _ _ _ _) (fun x hx => .inl hx)) (grown_set _ _ _ _) (fun x hx => .inl hx)
            clear HC
            go_wp2_with fail
            refine wp_region_noPanic ?_
            refine wp_region_held_drew (S := fun _ => True) (by kernel_rfl) trivial fun hS => ?_
            refine take_to (i := 0) (v := ?_) 37 rfl rfl (by kernel_rfl) (by kernel_rfl) (by kernel_rfl) (fun _ _ _ h => h) (Or.inl ⟨by rfl, ?_⟩) hS ?_
            rotate_left
            · intro W hW
              go_simp
              try with_reducible rfl
            simp only [List.setIfInBounds_toArray, List.set_cons_zero, List.set_cons_succ]
            refine take_to (i := 1) (v := ?_) 38 rfl rfl (by kernel_rfl) (by kernel_rfl) (by kernel_rfl) (fun _ _ _ h => h) (Or.inl ⟨by rfl, ?_⟩) hS ?_
            rotate_left
            · intro W hW
              go_simp
              try with_reducible rfl
            simp only [List.setIfInBounds_toArray, List.set_cons_zero, List.set_cons_succ]
            refine take_to (i := 2) (v := ?_) 39 rfl rfl (by kernel_rfl) (by kernel_rfl) (by kernel_rfl) (fun _ _ _ h => h) (Or.inl ⟨by rfl, ?_⟩) hS ?_
            rotate_left
            · intro W hW
              go_simp
              try with_reducible rfl
            simp only [List.setIfInBounds_toArray, List.set_cons_zero, List.set_cons_succ]
            refine take_to (i := 3) (v := ?_) 40 rfl rfl (by kernel_rfl) (by kernel_rfl) (by kernel_rfl) (fun _ _ _ h => h) (Or.inl ⟨by rfl, ?_⟩) hS ?_
            rotate_left
            · intro W hW
              go_simp
              try with_reducible rfl
            simp only [List.setIfInBounds_toArray, List.set_cons_zero, List.set_cons_succ]
            refine take_to (i := 4) (v := ?_) 41 rfl rfl (by kernel_rfl) (by kernel_rfl) (by kernel_rfl) (fun _ _ _ h => h) (Or.inl ⟨by rfl, ?_⟩) hS ?_
            rotate_left
            · intro W hW
              go_simp
              try with_reducible rfl
            simp only [List.setIfInBounds_toArray, List.set_cons_zero, List.set_cons_succ]
            refine take_to (i := 5) (v := ?_) 42 rfl rfl (by kernel_rfl) (by kernel_rfl) (by kernel_rfl) (fun _ _ _ h => h) (Or.inl ⟨by rfl, ?_⟩) hS ?_
            rotate_left
            · intro W hW
              go_simp
              try with_reducible rfl
            simp only [List.setIfInBounds_toArray, List.set_cons_zero, List.set_cons_succ]
            refine take_to (i := 6) (v := ?_) 43 rfl rfl (by kernel_rfl) (by kernel_rfl) (by kernel_rfl) (fun _ _ _ h => h) (Or.inl ⟨by rfl, ?_⟩) hS ?_
            rotate_left
            · intro W hW
              go_simp
              try with_reducible rfl
            simp only [List.setIfInBounds_toArray, List.set_cons_zero, List.set_cons_succ]
            refine take_to (i := 7) (v := ?_) 44 rfl rfl (by kernel_rfl) (by kernel_rfl) (by kernel_rfl) (fun _ _ _ h => h) (Or.inl ⟨by rfl, ?_⟩) hS ?_
            rotate_left
            · intro W hW
              go_simp
              try with_reducible rfl
            simp only [List.setIfInBounds_toArray, List.set_cons_zero, List.set_cons_succ]
            refine take_to (i := 8) (v := ?_) 45 rfl rfl (by kernel_rfl) (by kernel_rfl) (by kernel_rfl) (fun _ _ _ h => h) (Or.inl ⟨by rfl, ?_⟩) hS ?_
            rotate_left
            · intro W hW
              go_simp
              try with_reducible rfl
            simp only [List.setIfInBounds_toArray, List.set_cons_zero, List.set_cons_succ]
            refine take_to (i := 10) (v := ?_) 47 rfl rfl (by kernel_rfl) (by kernel_rfl) (by kernel_rfl) (fun _ _ _ h => h) (Or.inl ⟨by rfl, ?_⟩) hS ?_
            rotate_left
            · intro W hW
              go_simp
              try with_reducible rfl
            simp only [List.setIfInBounds_toArray, List.set_cons_zero, List.set_cons_succ]
            refine take_to (i := 11) (v := ?_) 48 rfl rfl (by kernel_rfl) (by kernel_rfl) (by kernel_rfl) (fun _ _ _ h => h) (Or.inl ⟨by rfl, ?_⟩) hS ?_
            rotate_left
            · intro W hW
              go_simp
              try with_reducible rfl
            simp only [List.setIfInBounds_toArray, List.set_cons_zero, List.set_cons_succ]
            refine take_to (i := 12) (v := ?_) 49 rfl rfl (by kernel_rfl) (by kernel_rfl) (by kernel_rfl) (fun _ _ _ h => h) (Or.inl ⟨by rfl, ?_⟩) hS ?_
            rotate_left
            · intro W hW
              go_simp
              try with_reducible rfl
            simp only [List.setIfInBounds_toArray, List.set_cons_zero, List.set_cons_succ]
            refine wpAnyH_ready (rs := [9, 13]) (by kernel_rfl) (by simp) ?_
            refine AllReadyH.cons rfl (fun K hK => ?_) (AllReadyH.cons rfl (fun K hK => ?_) AllReadyH.nil)
            · go_simp
              refine hK.out _ _ trivial fun _ => ?_
              clear hK K
              refine wpAnyH_ready (rs := [13]) (by kernel_rfl) (by simp) ?_
              refine AllReadyH.cons rfl (fun K hK => ?_) AllReadyH.nil
              go_simp
              refine hK.out _ _ trivial fun _ => ?_
              clear hK K
              refine wpAnyH_ready (rs := [14]) (by kernel_rfl) (by simp) ?_
              refine AllReadyH.cons rfl (fun K hK => ?_) AllReadyH.nil
              go_simp
              refine hK.out _ _ trivial fun _ => ?_
              clear hK K
              refine wpAnyH_ready (rs := [15]) (by kernel_rfl) (by simp) ?_
              refine AllReadyH.cons rfl (fun K hK => ?_) AllReadyH.nil
              go_simp
              refine hK.out _ _ trivial fun _ => ?_
              clear hK K
              refine wpAnyH_ready (rs := [16]) (by kernel_rfl) (by simp) ?_
              refine AllReadyH.cons rfl (fun K hK => ?_) AllReadyH.nil
              go_simp
              refine hK.out _ _ trivial fun _ => ?_
              clear hK K
              refine wpAnyH_ready (rs := [17]) (by kernel_rfl) (by simp) ?_
              refine AllReadyH.cons rfl (fun K hK => ?_) AllReadyH.nil
              go_simp
              refine hK.out _ _ trivial fun _ => ?_
              clear hK K
              refine wpAnyH_done (by kernel_rfl) ?_ _
              refine NoPanic.normal ?_
              go_wp2_with fail
              go_roundw
              case rel => exact HREL.out
              case measure => simp [intOf]; omega
            · go_simp
              refine hK.out _ _ trivial fun _ => ?_
              clear hK K
              refine wpAnyH_ready (rs := [9]) (by kernel_rfl) (by simp) ?_
              refine AllReadyH.cons rfl (fun K hK => ?_) AllReadyH.nil
              go_simp
              refine hK.out _ _ trivial fun _ => ?_
              clear hK K
              refine wpAnyH_ready (rs := [14]) (by kernel_rfl) (by simp) ?_
              refine AllReadyH.cons rfl (fun K hK => ?_) AllReadyH.nil
              go_simp
              refine hK.out _ _ trivial fun _ => ?_
              clear hK K
              refine wpAnyH_ready (rs := [15]) (by kernel_rfl) (by simp) ?_
              refine AllReadyH.cons rfl (fun K hK => ?_) AllReadyH.nil
              go_simp
              refine hK.out _ _ trivial fun _ => ?_
              clear hK K
              refine wpAnyH_ready (rs := [16]) (by kernel_rfl) (by simp) ?_
              refine AllReadyH.cons rfl (fun K hK => ?_) AllReadyH.nil
              go_simp
              refine hK.out _ _ trivial fun _ => ?_
              clear hK K
              refine wpAnyH_ready (rs := [17]) (by kernel_rfl) (by simp) ?_
              refine AllReadyH.cons rfl (fun K hK => ?_) AllReadyH.nil
              go_simp
              refine hK.out _ _ trivial fun _ => ?_
              clear hK K
              refine wpAnyH_done (by kernel_rfl) ?_ _
              refine NoPanic.normal ?_
              go_wp2_with fail
              go_roundw
              case rel => exact HREL.out
              case measure => simp [intOf]; omega
          · have hcm : decide (cmpI X Z < 0) = false := by simp [cmpI, hXZ]; split <;> omega
            refine wpAnyH_ready (rs := [15]) (by kernel_rfl) (by simp) ?_
            refine AllReadyH.cons rfl (fun K hK => ?_) AllReadyH.nil
            go_simp
            refine hK.out _ _ hB3 fun _ => ?_
            clear hK K
            refine wpAnyH_ready (rs := [16]) (by kernel_rfl) (by simp) ?_
            refine AllReadyH.cons rfl (fun K hK => ?_) AllReadyH.nil
            go_simp
            refine hK.out _ _ hB3 fun _ => ?_
            clear hK K
            refine wpAnyH_done (by kernel_rfl) ?_ _
            refine NoPanic.normal ?_
            have hgr3 : w.grownBy w3 (some g) := grown_trans hgr (grown_of_below hB3 none) (fun x hx => by simp at hx)
            go_wp2_with fail
            go_roundw
            case rel =>
              refine ⟨i + 1, S1' ++ [(Z, Z0)] ++ (X, X0) :: S2, T', by go_num, .inl ?_, ?_, ?_, ?_, ?_, hgr3⟩
              · have h1 := hiS.out; rw [HJ.out.2.1] at h1; simp at h1 ⊢; omega
              · have h1 := ho.below hB3
                simpa using h1
              · have h1 := (steq_ins (S1 := S1' ++ [(Z, Z0)]) (x := (X, X0)) HJ.out.2.2).append (StEq.refl T')
                have h2 := HST.out.1
                rw [HJ.out.2.1] at h2
                refine h1.trans ?_
                simpa using h2
              · have h1 := HST.out.2.1
                rw [HJ.out.2.1] at h1
                refine nd_ins h1 (fun p hp => ?_) HJ.out.2.2
                have h2 := nd_last (List.pairwise_append.1 h1).1 p hp
                simp only at h2 ⊢
                omega
              · have h1 := HST.out.2.2
                rw [HJ.out.2.1] at h1
                simp at h1 ⊢; omega
            case measure => simp [intOf]; omega
        · have p2 : decide ((A : Int) < (j : Int)) = false := by simp; omega
          have p2' : decide (A < j) = false := by simp; omega
          have hS1 : Hid (S1 = []) := by
            have := HJ.out.1
            exact List.eq_nil_of_length_eq_zero (by omega)
          go_wp2_with fail
          refine wp_region_noPanic ?_
          refine wp_region_held_drew (S := fun W => Below wr.heap.size wr W) (by kernel_rfl) (ext_drew wr) fun hS => ?_
          refine take_to (i := 0) (v := ?_) 18 rfl rfl (by kernel_rfl) (by kernel_rfl) (by kernel_rfl) (fun _ _ _ h => h) (Or.inl ⟨by rfl, ?_⟩) hS ?_
          rotate_left
          · intro W hW
            go_simp
            try with_reducible rfl
          simp only [List.setIfInBounds_toArray, List.set_cons_zero, List.set_cons_succ]
          refine take_to (i := 1) (v := ?_) 19 rfl rfl (by kernel_rfl) (by kernel_rfl) (by kernel_rfl) (fun _ _ _ h => h) (Or.inl ⟨by rfl, ?_⟩) hS ?_
          rotate_left
          · intro W hW
            go_simp
            try with_reducible rfl
          simp only [List.setIfInBounds_toArray, List.set_cons_zero, List.set_cons_succ]
          refine take_to (i := 2) (v := ?_) 20 rfl rfl (by kernel_rfl) (by kernel_rfl) (by kernel_rfl) (fun _ _ _ h => h) (Or.inl ⟨by rfl, ?_⟩) hS ?_
          rotate_left
          · intro W hW
            go_simp
            try with_reducible rfl
          simp only [List.setIfInBounds_toArray, List.set_cons_zero, List.set_cons_succ]
          refine take_to (i := 3) (v := ?_) 21 rfl rfl (by kernel_rfl) (by kernel_rfl) (by kernel_rfl) (fun _ _ _ h => h) (Or.inl ⟨by rfl, ?_⟩) hS ?_
          rotate_left
          · intro W hW
            go_simp
            try with_reducible rfl
          simp only [List.setIfInBounds_toArray, List.set_cons_zero, List.set_cons_succ]
          refine take_to (i := 4) (v := undef) 22 rfl rfl (by kernel_rfl) (by kernel_rfl) (by kernel_rfl) (fun _ _ _ h => h) (Or.inr ⟨by rfl, rfl⟩) hS ?_
          simp only [List.setIfInBounds_toArray, List.set_cons_zero, List.set_cons_succ]
          refine take_to (i := 5) (v := undef) 23 rfl rfl (by kernel_rfl) (by kernel_rfl) (by kernel_rfl) (fun _ _ _ h => h) (Or.inr ⟨by rfl, rfl⟩) hS ?_
          simp only [List.setIfInBounds_toArray, List.set_cons_zero, List.set_cons_succ]
          refine take_to (i := 6) (v := undef) 24 rfl rfl (by kernel_rfl) (by kernel_rfl) (by kernel_rfl) (fun _ _ _ h => h) (Or.inr ⟨by rfl, rfl⟩) hS ?_
          simp only [List.setIfInBounds_toArray, List.set_cons_zero, List.set_cons_succ]
          refine take_to (i := 7) (v := undef) 25 rfl rfl (by kernel_rfl) (by kernel_rfl) (by kernel_rfl) (fun _ _ _ h => h) (Or.inr ⟨by rfl, rfl⟩) hS ?_
          simp only [List.setIfInBounds_toArray, List.set_cons_zero, List.set_cons_succ]
          refine take_to (i := 8) (v := undef) 26 rfl rfl (by kernel_rfl) (by kernel_rfl) (by kernel_rfl) (fun _ _ _ h => h) (Or.inr ⟨by rfl, rfl⟩) hS ?_
          simp only [List.setIfInBounds_toArray, List.set_cons_zero, List.set_cons_succ]
          refine take_to (i := 9) (v := undef) 27 rfl rfl (by kernel_rfl) (by kernel_rfl) (by kernel_rfl) (fun _ _ _ h => h) (Or.inr ⟨by rfl, rfl⟩) hS ?_
          simp only [List.setIfInBounds_toArray, List.set_cons_zero, List.set_cons_succ]
          refine take_to (i := 10) (v := undef) 28 rfl rfl (by kernel_rfl) (by kernel_rfl) (by kernel_rfl) (fun _ _ _ h => h) (Or.inr ⟨by rfl, rfl⟩) hS ?_
          simp only [List.setIfInBounds_toArray, List.set_cons_zero, List.set_cons_succ]
          refine take_to (i := 11) (v := undef) 29 rfl rfl (by kernel_rfl) (by kernel_rfl) (by kernel_rfl) (fun _ _ _ h => h) (Or.inr ⟨by rfl, rfl⟩) hS ?_
          simp only [List.setIfInBounds_toArray, List.set_cons_zero, List.set_cons_succ]
          refine take_to (i := 12) (v := undef) 30 rfl rfl (by kernel_rfl) (by kernel_rfl) (by kernel_rfl) (fun _ _ _ h => h) (Or.inr ⟨by rfl, rfl⟩) hS ?_
          simp only [List.setIfInBounds_toArray, List.set_cons_zero, List.set_cons_succ]
          refine take_to (i := 13) (v := undef) 31 rfl rfl (by kernel_rfl) (by kernel_rfl) (by kernel_rfl) (fun _ _ _ h => h) (Or.inr ⟨by rfl, rfl⟩) hS ?_
          simp only [List.setIfInBounds_toArray, List.set_cons_zero, List.set_cons_succ]
          refine take_to (i := 14) (v := undef) 32 rfl rfl (by kernel_rfl) (by kernel_rfl) (by kernel_rfl) (fun _ _ _ h => h) (Or.inr ⟨by rfl, rfl⟩) hS ?_
          simp only [List.setIfInBounds_toArray, List.set_cons_zero, List.set_cons_succ]
          refine take_to (i := 15) (v := undef) 33 rfl rfl (by kernel_rfl) (by kernel_rfl) (by kernel_rfl) (fun _ _ _ h => h) (Or.inr ⟨by rfl, rfl⟩) hS ?_
          simp only [List.setIfInBounds_toArray, List.set_cons_zero, List.set_cons_succ]
          refine take_to (i := 16) (v := ?_) 34 rfl rfl (by kernel_rfl) (by kernel_rfl) (by kernel_rfl) (fun _ _ _ h => h) (Or.inl ⟨by rfl, ?_⟩) hS ?_
          rotate_left
          · intro W hW
            go_simp
            try with_reducible rfl
          simp only [List.setIfInBounds_toArray, List.set_cons_zero, List.set_cons_succ]
          refine wpAnyH_done (by kernel_rfl) ?_ _
          refine NoPanic.normal ?_
          go_wp2_with fail
          go_roundw
          case rel =>
            have h0 := HJ.out.2.1
            rw [hS1.out, List.nil_append] at h0
            refine ⟨i + 1, x :: S2, T', by go_num, .inl ?_, ?_, ?_, ?_, ?_, grown_trans hgr (grown_of_below (ext_drew _) none) (fun x hx => by simp at hx)⟩
            · have h1 := hiS.out; rw [h0] at h1; simp at h1 ⊢; omega
            · have h1 := ho.below (ext_drew _)
              rw [hS1.out] at h1
              simpa using h1
            · have h1 := (steq_ins (S1 := []) (x := x) HJ.out.2.2).append (StEq.refl T')
              have h2 := HST.out.1
              rw [h0] at h2
              refine h1.trans ?_
              simpa using h2
            · have h1 := HST.out.2.1
              rw [h0] at h1
              exact nd_ins (S1 := []) h1 (fun p hp => by simp at hp) HJ.out.2.2
            · have h1 := HST.out.2.2
              rw [h0] at h1
              simp at h1 ⊢; omega
          case measure => simp [intOf]; omega
    · have p1 : decide ((i : Int) < (b : Int)) = false := by simp; omega
      go_wp2_with fail
      go_end0
      refine ⟨rfl, S ++ T, by simpa using ho, HST.out.1, ?_, HST.out.2.2, hgr⟩
      have hT : T = [] := by
        have h1 := HST.out.2.2; have h2 := hb.out
        rcases HI.out with h | ⟨_, h⟩
        · simp at h1; exact List.eq_nil_of_length_eq_zero (by omega)
        · rw [h] at h1; simp at h1; exact h1.2
      rw [hT, List.append_nil]
      exact HST.out.2.1
end Go.Proofs.Ytdoemkncgfgkhaa
