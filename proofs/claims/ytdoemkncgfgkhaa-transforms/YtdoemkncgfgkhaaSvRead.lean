/- What the functions that only ask labels of sets answer, and the document's own: contracts. -/
import Derived.Test.YtdoemkncgfgkhaaSv
namespace Go.Proofs.Ytdoemkncgfgkhaa
open Go.RowKit
set_option maxRecDepth 100000

theorem mayS_len {xs : List Int} {n : Nat} (h : mayS' xs = true) (hl : xs.length = n) : n ≤ 16 := hl ▸ ((mayS'_iff xs).1 h).1

theorem or_le {A B Z : List Int} {k n m : Nat} (hk : Z.length = k) (hZ : Srt Z) (hn : A.length = n) (hm : B.length = m) (h : ∀ x, x ∈ Z ↔ x ∈ A ++ B) (hA : mayS' A = true) (hB : mayS' B = true) (h1 : n ≤ 16) (h2 : m ≤ 16) : k ≤ 32 := by
  have e := or_eq ((mayS'_iff A).1 hA).2 ((mayS'_iff B).1 hB).2 hZ h
  have l := mrg_len true true true A B
  rw [e] at l
  omega

set_option maxHeartbeats 4000000 in
theorem refMaySets_any (x : Sv) (w : World) (hx : x.In w) :
    Calls Try.prog 11 #[.agg #[.slice x.a1 x.n1 x.c1, .slice x.a2 x.n2 x.c2, .slice x.a3 x.n3 x.c3]] w fun e w' => e = .returned (.bool (mayV x.xs x.ys x.zs)) ∧ Below w.heap.size w w' := by
  have HC : Hid _ := one_sv w x
  have HL : Hid (x.xs.length = x.n1 ∧ x.ys.length = x.n2 ∧ x.zs.length = x.n3) := ⟨hx.r1.len, hx.r2.len, hx.r3.len⟩
  go_enter Try.func11, Try.ntmps11
  go_wp2_with fail
  have hb0 := Below.refl (w.alloc (Obj.cells #[.slice x.a1 x.n1 x.c1, .slice x.a2 x.n2 x.c2, .slice x.a3 x.n3 x.c3] 27)).heap.size (w.alloc (Obj.cells #[.slice x.a1 x.n1 x.c1, .slice x.a2 x.n2 x.c2, .slice x.a3 x.n3 x.c3] 27))
  obtain ⟨_, _, _, bw0⟩ := HC.out _ hb0
  refine (refMay_any x.a1 x.n1 x.c1 x.xs _ (hx.r1.below bw0)).mono ?_
  rintro e w1 ⟨rfl, hb1⟩
  replace hb1 := ext_trans hb0 hb1
  clear hb0 bw0
  obtain ⟨s0, s1, s2, bw1⟩ := HC.out _ hb1
  obtain ⟨q0, hq⟩ : ∃ q, q = mayS x.xs := ⟨_, rfl⟩
  rw [← hq]
  have HQ0 : Hid (q0 = mayS x.xs) := hq
  clear hq
  cases q0
  · go_wp2_with fail
    go_ret
    refine ⟨?_, bw1⟩
    unfold mayV
    rw [show mayS' x.xs = false from HQ0.out.symm]; 
    simp
  · have l1 := mayS_len HQ0.out.symm HL.out.1
    go_wp2_with fail
    clear s0 s1 s2
    refine (refMay_any x.a2 x.n2 x.c2 x.ys _ (hx.r2.below bw1)).mono ?_
    rintro e w2 ⟨rfl, hb2⟩
    replace hb2 := ext_trans hb1 hb2
    clear hb1 bw1
    obtain ⟨s0, s1, s2, bw2⟩ := HC.out _ hb2
    obtain ⟨q1, hq⟩ : ∃ q, q = mayS x.ys := ⟨_, rfl⟩
    rw [← hq]
    have HQ1 : Hid (q1 = mayS x.ys) := hq
    clear hq
    cases q1
    · go_wp2_with fail
      go_ret
      refine ⟨?_, bw2⟩
      unfold mayV
      rw [show mayS' x.xs = true from HQ0.out.symm]; rw [show mayS' x.ys = false from HQ1.out.symm]; 
      simp
    · have l2 := mayS_len HQ1.out.symm HL.out.2.1
      go_wp2_with fail
      clear s0 s1 s2
      refine (refMay_any x.a3 x.n3 x.c3 x.zs _ (hx.r3.below bw2)).mono ?_
      rintro e w3 ⟨rfl, hb3⟩
      replace hb3 := ext_trans hb2 hb3
      clear hb2 bw2
      obtain ⟨s0, s1, s2, bw3⟩ := HC.out _ hb3
      obtain ⟨q2, hq⟩ : ∃ q, q = mayS x.zs := ⟨_, rfl⟩
      rw [← hq]
      have HQ2 : Hid (q2 = mayS x.zs) := hq
      clear hq
      cases q2
      · go_wp2_with fail
        go_ret
        refine ⟨?_, bw3⟩
        unfold mayV
        rw [show mayS' x.xs = true from HQ0.out.symm]; rw [show mayS' x.ys = true from HQ1.out.symm]; rw [show mayS' x.zs = false from HQ2.out.symm]; 
        simp
      · have l3 := mayS_len HQ2.out.symm HL.out.2.2
        go_wp2_with fail
        clear s0 s1 s2
        have hB0 := ext_trans hb3 (ext_drew w3)
        refine wp_region_noPanic ?_
        refine wp_region_held_drew (S := fun W => Below (w.alloc (Obj.cells #[.slice x.a1 x.n1 x.c1, .slice x.a2 x.n2 x.c2, .slice x.a3 x.n3 x.c3] 27)).heap.size (w.alloc (Obj.cells #[.slice x.a1 x.n1 x.c1, .slice x.a2 x.n2 x.c2, .slice x.a3 x.n3 x.c3] 27)) W) (by kernel_rfl) hB0 fun hS => ?_
        refine take_to (i := 0) (v := ?_) 20 rfl rfl (by kernel_rfl) (by kernel_rfl) (by kernel_rfl) (fun _ _ _ h => h) (Or.inl ⟨by rfl, ?_⟩) hS ?_
        rotate_left
        · intro W hW
          obtain ⟨s0, s1, s2, _⟩ := HC.out W hW
          go_simp
          try with_reducible rfl
        simp only [List.setIfInBounds_toArray, List.set_cons_zero, List.set_cons_succ]
        refine take_to (i := 1) (v := ?_) 21 rfl rfl (by kernel_rfl) (by kernel_rfl) (by kernel_rfl) (fun _ _ _ h => h) (Or.inl ⟨by rfl, ?_⟩) hS ?_
        rotate_left
        · intro W hW
          obtain ⟨s0, s1, s2, _⟩ := HC.out W hW
          go_simp
          try with_reducible rfl
        simp only [List.setIfInBounds_toArray, List.set_cons_zero, List.set_cons_succ]
        refine take_to (i := 2) (v := ?_) 22 rfl rfl (by kernel_rfl) (by kernel_rfl) (by kernel_rfl) (fun _ _ _ h => h) (Or.inl ⟨by rfl, ?_⟩) hS ?_
        rotate_left
        · intro W hW
          obtain ⟨s0, s1, s2, _⟩ := HC.out W hW
          go_simp
          try with_reducible rfl
        simp only [List.setIfInBounds_toArray, List.set_cons_zero, List.set_cons_succ]
        refine take_to (i := 3) (v := ?_) 23 rfl rfl (by kernel_rfl) (by kernel_rfl) (by kernel_rfl) (fun _ _ _ h => h) (Or.inl ⟨by rfl, ?_⟩) hS ?_
        rotate_left
        · intro W hW
          obtain ⟨s0, s1, s2, _⟩ := HC.out W hW
          go_simp
          try with_reducible rfl
        simp only [List.setIfInBounds_toArray, List.set_cons_zero, List.set_cons_succ]
        refine take_to (i := 5) (v := ?_) 25 rfl rfl (by kernel_rfl) (by kernel_rfl) (by kernel_rfl) (fun _ _ _ h => h) (Or.inl ⟨by rfl, ?_⟩) hS ?_
        rotate_left
        · intro W hW
          obtain ⟨s0, s1, s2, _⟩ := HC.out W hW
          go_simp
          try with_reducible rfl
        simp only [List.setIfInBounds_toArray, List.set_cons_zero, List.set_cons_succ]
        refine take_to (i := 6) (v := ?_) 26 rfl rfl (by kernel_rfl) (by kernel_rfl) (by kernel_rfl) (fun _ _ _ h => h) (Or.inl ⟨by rfl, ?_⟩) hS ?_
        rotate_left
        · intro W hW
          obtain ⟨s0, s1, s2, _⟩ := HC.out W hW
          go_simp
          try with_reducible rfl
        simp only [List.setIfInBounds_toArray, List.set_cons_zero, List.set_cons_succ]
        refine wpAnyH_ready (rs := [4]) (by kernel_rfl) (by simp) ?_
        refine AllReadyH.cons rfl (fun K hK => ?_) AllReadyH.nil
        go_simp
        obtain ⟨_, _, _, bw⟩ := HC.out _ hB0
        refine (refOr_any x.a1 x.a2 x.n1 x.c1 x.n2 x.c2 x.xs x.ys _ (hx.r1.below bw) (hx.r2.below bw) (by omega)).mono ?_
        rintro e w4 ⟨so, k, co, us, rfl, hown4, hb4, hs4, hm4⟩
        have hr4 := hown4.row
        have HS4 : Hid (Srt us ∧ ∀ x_1, x_1 ∈ us ↔ x_1 ∈ x.xs ++ x.ys) := ⟨hs4, hm4⟩
        have hk4 : k ≤ 32 := or_le hr4.len HS4.out.1 HL.out.1 HL.out.2.1 HS4.out.2 HQ0.out.symm HQ1.out.symm l1 l2
        clear hown4 hs4 hm4
        replace hb4 := ext_trans hB0 hb4
        refine hK.out _ _ hb4 fun hS => ?_
        clear hK K
        refine wpAnyH_ready (rs := [7]) (by kernel_rfl) (by simp) ?_
        refine AllReadyH.cons rfl (fun K hK => ?_) AllReadyH.nil
        go_simp
        obtain ⟨_, _, _, bw⟩ := HC.out _ hb4
        refine (refOr_any so x.a3 k co x.n3 x.c3 us x.zs _ hr4 (hx.r3.below bw) (by omega)).mono ?_
        rintro e w5 ⟨so5, k5, co5, vs, rfl, hown5, hb5, hs5, hm5⟩
        have hr5 := hown5.row
        have HS5 : Hid (Srt vs ∧ ∀ x_1, x_1 ∈ vs ↔ x_1 ∈ us ++ x.zs) := ⟨hs5, hm5⟩
        have hl5 := hr5.cap_le
        clear hown5 hs5 hm5
        replace hb5 := ext_trans hb4 hb5
        refine hK.out _ _ hb5 fun hS => ?_
        clear hK K
        refine take_to (i := 8) (v := ?_) 3 rfl rfl (by kernel_rfl) (by kernel_rfl) (by kernel_rfl) (fun _ _ _ h => h) (Or.inl ⟨by rfl, ?_⟩) hS ?_
        rotate_left
        · intro W hW
          obtain ⟨s0, s1, s2, _⟩ := HC.out W hW
          go_simp
          try with_reducible rfl
        simp only [List.setIfInBounds_toArray, List.set_cons_zero, List.set_cons_succ]
        refine wpAnyH_done (by kernel_rfl) ?_ _
        refine NoPanic.normal ?_
        obtain ⟨s0, s1, s2, bw5⟩ := HC.out _ hb5
        have HE : Hid (mayV x.xs x.ys x.zs = (decide (k5 = x.n1 + x.n2 + x.n3) && decide (k5 ≤ 16))) := by
          have h := mayV_or (show mayS' x.xs = true from HQ0.out.symm) (show mayS' x.ys = true from HQ1.out.symm) (show mayS' x.zs = true from HQ2.out.symm) HS4.out.1 HS5.out.1 HS4.out.2 HS5.out.2
          rwa [hr5.len, HL.out.1, HL.out.2.1, HL.out.2.2] at h
        by_cases h1 : k5 = x.n1 + x.n2 + x.n3
        · have h1' : ((k5 : Int) == (x.n1 : Int) + (x.n2 : Int) + (x.n3 : Int)) = true := by simp; omega
          by_cases h2 : k5 ≤ 16
          · have h2' : (x.n1 : Int) + (x.n2 : Int) + (x.n3 : Int) ≤ 16 := by omega
            go_wp2_with fail
            go_ret
            exact ⟨by rw [HE.out, decide_eq_true h1, decide_eq_true h2]; rfl, bw5⟩
          · have h2' : decide ((x.n1 : Int) + (x.n2 : Int) + (x.n3 : Int) ≤ 16) = false := by simp; omega
            go_wp2_with fail
            go_ret
            exact ⟨by rw [HE.out, decide_eq_true h1, decide_eq_false h2]; rfl, bw5⟩
        · have h1' : ((k5 : Int) == (x.n1 : Int) + (x.n2 : Int) + (x.n3 : Int)) = false := by simp; omega
          go_wp2_with fail
          go_ret
          exact ⟨by rw [HE.out, decide_eq_false h1]; rfl, bw5⟩

/-- Are two labels one? -/
def Sv.same (x y : Sv) : Bool := decide (x.xs = y.xs) && decide (x.ys = y.ys) && decide (x.zs = y.zs)
theorem Sv.same_iff (x y : Sv) : x.same y = true ↔ x.xs = y.xs ∧ x.ys = y.ys ∧ x.zs = y.zs := by simp [Sv.same, and_assoc]
/-- Does one flow to the other? -/
def Sv.flows (x y : Sv) : Bool := decide (mrg true false false x.xs y.xs = []) && decide (mrg true false false y.ys x.ys = [])
theorem Sv.flows_iff {x y : Sv} (h1 : Srt x.xs) (h2 : Srt x.ys) (h3 : Srt y.xs) (h4 : Srt y.ys) : x.flows y = true ↔ (∀ z, z ∈ x.xs → z ∈ y.xs) ∧ ∀ z, z ∈ y.ys → z ∈ x.ys := by
  unfold Sv.flows
  rw [Bool.and_eq_true, decide_eq_true_eq, decide_eq_true_eq, less_nil h1 h3, less_nil h4 h2]

set_option maxHeartbeats 4000000 in
theorem refSameS_any (x y : Sv) (w : World) (hx : x.In w) (hy : y.In w) :
    Calls Try.prog 14 #[.agg #[.slice x.a1 x.n1 x.c1, .slice x.a2 x.n2 x.c2, .slice x.a3 x.n3 x.c3], .agg #[.slice y.a1 y.n1 y.c1, .slice y.a2 y.n2 y.c2, .slice y.a3 y.n3 y.c3]] w fun e w' => e = .returned (.bool (x.same y)) ∧ Below w.heap.size w w' := by
  have HC : Hid _ := two_sv w x y
  go_enter Try.func14, Try.ntmps14
  go_wp2_with fail
  have hb0 := Below.refl ((w.alloc (Obj.cells #[.slice x.a1 x.n1 x.c1, .slice x.a2 x.n2 x.c2, .slice x.a3 x.n3 x.c3] 27)).alloc (Obj.cells #[.slice y.a1 y.n1 y.c1, .slice y.a2 y.n2 y.c2, .slice y.a3 y.n3 y.c3] 27)).heap.size ((w.alloc (Obj.cells #[.slice x.a1 x.n1 x.c1, .slice x.a2 x.n2 x.c2, .slice x.a3 x.n3 x.c3] 27)).alloc (Obj.cells #[.slice y.a1 y.n1 y.c1, .slice y.a2 y.n2 y.c2, .slice y.a3 y.n3 y.c3] 27))
  obtain ⟨_, _, _, _, _, _, bw0⟩ := HC.out _ hb0
  refine (same_any x.a1 x.n1 x.c1 x.xs y.a1 y.n1 y.c1 y.xs _ (hx.r1.below bw0) (hy.r1.below bw0)).mono ?_
  rintro e w1 ⟨rfl, hb1⟩
  replace hb1 := ext_trans hb0 hb1
  clear hb0 bw0
  obtain ⟨s0, s1, s2, s3, s4, s5, bw1⟩ := HC.out _ hb1
  obtain ⟨q0, hq⟩ : ∃ q, q = decide (x.xs = y.xs) := ⟨_, rfl⟩
  rw [← hq]
  have HQ0 : Hid (q0 = decide (x.xs = y.xs)) := hq
  clear hq
  cases q0
  · go_wp2_with fail
    go_ret
    exact ⟨by unfold Sv.same; rw [← HQ0.out]; rfl, bw1⟩
  · go_wp2_with fail
    clear s0 s1 s2 s3 s4 s5
    refine (same_any x.a2 x.n2 x.c2 x.ys y.a2 y.n2 y.c2 y.ys _ (hx.r2.below bw1) (hy.r2.below bw1)).mono ?_
    rintro e w2 ⟨rfl, hb2⟩
    replace hb2 := ext_trans hb1 hb2
    clear hb1 bw1
    obtain ⟨s0, s1, s2, s3, s4, s5, bw2⟩ := HC.out _ hb2
    obtain ⟨q1, hq⟩ : ∃ q, q = decide (x.ys = y.ys) := ⟨_, rfl⟩
    rw [← hq]
    have HQ1 : Hid (q1 = decide (x.ys = y.ys)) := hq
    clear hq
    cases q1
    · go_wp2_with fail
      go_ret
      exact ⟨by unfold Sv.same; rw [← HQ0.out]; rw [← HQ1.out]; rfl, bw2⟩
    · go_wp2_with fail
      clear s0 s1 s2 s3 s4 s5
      refine (same_any x.a3 x.n3 x.c3 x.zs y.a3 y.n3 y.c3 y.zs _ (hx.r3.below bw2) (hy.r3.below bw2)).mono ?_
      rintro e w3 ⟨rfl, hb3⟩
      replace hb3 := ext_trans hb2 hb3
      clear hb2 bw2
      obtain ⟨s0, s1, s2, s3, s4, s5, bw3⟩ := HC.out _ hb3
      obtain ⟨q2, hq⟩ : ∃ q, q = decide (x.zs = y.zs) := ⟨_, rfl⟩
      rw [← hq]
      have HQ2 : Hid (q2 = decide (x.zs = y.zs)) := hq
      clear hq
      cases q2
      · go_wp2_with fail
        go_ret
        exact ⟨by unfold Sv.same; rw [← HQ0.out]; rw [← HQ1.out]; rw [← HQ2.out]; rfl, bw3⟩
      · go_wp2_with fail
        go_ret
        exact ⟨by unfold Sv.same; rw [← HQ0.out]; rw [← HQ1.out]; rw [← HQ2.out]; rfl, bw3⟩

set_option maxHeartbeats 4000000 in
theorem flowsS_any (x y : Sv) (w : World) (hx : x.In w) (hy : y.In w) (h1 : x.n1 + y.n1 ≤ 70368744177664) (h2 : y.n2 + x.n2 ≤ 70368744177664) :
    Calls Try.prog 31 #[.agg #[.slice x.a1 x.n1 x.c1, .slice x.a2 x.n2 x.c2, .slice x.a3 x.n3 x.c3], .agg #[.slice y.a1 y.n1 y.c1, .slice y.a2 y.n2 y.c2, .slice y.a3 y.n3 y.c3]] w fun e w' => e = .returned (.bool (x.flows y)) ∧ Below w.heap.size w w' := by
  have HC : Hid _ := two_sv w x y
  go_enter Try.func31, Try.ntmps31
  go_wp2_with fail
  have hb0 := Below.refl ((w.alloc (Obj.cells #[.slice x.a1 x.n1 x.c1, .slice x.a2 x.n2 x.c2, .slice x.a3 x.n3 x.c3] 27)).alloc (Obj.cells #[.slice y.a1 y.n1 y.c1, .slice y.a2 y.n2 y.c2, .slice y.a3 y.n3 y.c3] 27)).heap.size ((w.alloc (Obj.cells #[.slice x.a1 x.n1 x.c1, .slice x.a2 x.n2 x.c2, .slice x.a3 x.n3 x.c3] 27)).alloc (Obj.cells #[.slice y.a1 y.n1 y.c1, .slice y.a2 y.n2 y.c2, .slice y.a3 y.n3 y.c3] 27))
  obtain ⟨_, _, _, _, _, _, bw0⟩ := HC.out _ hb0
  refine (in_any x.a1 y.a1 x.n1 x.c1 y.n1 y.c1 x.xs y.xs _ (hx.r1.below bw0) (hy.r1.below bw0) h1).mono ?_
  rintro e w1 ⟨rfl, hb1⟩
  replace hb1 := ext_trans hb0 hb1
  clear hb0 bw0
  obtain ⟨s0, s1, s2, s3, s4, s5, bw1⟩ := HC.out _ hb1
  obtain ⟨q0, hq⟩ : ∃ q, q = decide (mrg true false false x.xs y.xs = []) := ⟨_, rfl⟩
  rw [← hq]
  have HQ0 : Hid (q0 = decide (mrg true false false x.xs y.xs = [])) := hq
  clear hq
  cases q0
  · go_wp2_with fail
    go_ret
    exact ⟨by unfold Sv.flows; rw [← HQ0.out]; rfl, bw1⟩
  · go_wp2_with fail
    clear s0 s1 s2 s3 s4 s5
    refine (in_any y.a2 x.a2 y.n2 y.c2 x.n2 x.c2 y.ys x.ys _ (hy.r2.below bw1) (hx.r2.below bw1) h2).mono ?_
    rintro e w2 ⟨rfl, hb2⟩
    replace hb2 := ext_trans hb1 hb2
    clear hb1 bw1
    obtain ⟨s0, s1, s2, s3, s4, s5, bw2⟩ := HC.out _ hb2
    obtain ⟨q1, hq⟩ : ∃ q, q = decide (mrg true false false y.ys x.ys = []) := ⟨_, rfl⟩
    rw [← hq]
    have HQ1 : Hid (q1 = decide (mrg true false false y.ys x.ys = [])) := hq
    clear hq
    cases q1
    · go_wp2_with fail
      go_ret
      exact ⟨by unfold Sv.flows; rw [← HQ0.out]; rw [← HQ1.out]; rfl, bw2⟩
    · go_wp2_with fail
      go_ret
      exact ⟨by unfold Sv.flows; rw [← HQ0.out]; rw [← HQ1.out]; rfl, bw2⟩

end Go.Proofs.Ytdoemkncgfgkhaa
