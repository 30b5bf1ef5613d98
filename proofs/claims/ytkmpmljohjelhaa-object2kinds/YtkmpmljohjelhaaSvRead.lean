/- What the functions that only ask labels of sets answer, and the document's own: contracts. -/
import Derived.Test.YtkmpmljohjelhaaJSets
namespace Go.Proofs.Ytkmpmljohjelhaa
open Go.RowKit
set_option maxRecDepth 100000

set_option maxHeartbeats 1000000 in
theorem equalW_any (a : Option Addr) (n cap : Nat) (xs : List Int) (b : Option Addr) (m cap2 : Nat) (ys : List Int) (w : World) (hr : RowW w a n cap xs) (hs : RowW w b m cap2 ys) :
    Calls Try.prog 47 #[.slice a n cap, .slice b m cap2] w fun e w' => e = .returned (.bool (decide (xs = ys))) ∧ Below w.heap.size w w' := by
  have hl : Hid (xs.length = n) := hr.len
  have hm : Hid (ys.length = m) := hs.len
  have hcap := hr.cap_le
  by_cases hnm : n = m
  · subst hnm
    go_enter Try.func47, Try.ntmps47
    go_wp2_with fail
    go_loopw [13] (fun i wr => ∃ k : Nat, k ≤ n ∧ i = .int .i64 k ∧ Below w.heap.size w wr ∧ ∀ j, j < k → xs.getD j 0 = ys.getD j 0) (fun i _ => n - (intOf i).toNat)
    case atStart => exact ⟨0, by omega, rfl, Below.refl _ _, fun j h => by omega⟩
    case round =>
      obtain ⟨k, hk, rfl, hbel, hup⟩ := hrel
      by_cases hlt : k < n
      · have hp : (k : Int) < (n : Int) := by omega
        obtain ⟨b1, off1, rfl, hc⟩ := (hr.below hbel).at (by omega)
        obtain ⟨b2, off2, rfl, hd⟩ := (hs.below hbel).at (by omega)
        have c1 := hc k hlt
        have c2 := hd k hlt
        generalize hX : xs.getD k 0 = X at c1
        generalize hY : ys.getD k 0 = Y at c2
        have HX : Hid (xs.getD k 0 = X) := hX
        have HY : Hid (ys.getD k 0 = Y) := hY
        clear hX hY hc hd
        by_cases hle : X = Y
        · subst hle
          go_wp2
          go_quiet (fail)
          go_wp2
          go_roundw
          case rel =>
            refine ⟨k + 1, by omega, by go_num, bel_drewN hbel _, fun j h2 => ?_⟩
            by_cases hj : j < k
            · exact hup j hj
            · obtain rfl : j = k := by omega
              rw [HX.out, HY.out]
          case measure => simp [intOf]; omega
        · have hle' : (X == Y) = false := by simpa using hle
          go_wp2
          go_quiet (fail)
          go_wp2
          go_ret
          refine ⟨?_, bel_drewN hbel _⟩
          rw [decide_eq_false (fun e => hle (by rw [← HX.out, ← HY.out, e]))]; rfl
      · obtain rfl : k = n := by omega
        go_wp2
        go_ret
        refine ⟨?_, hbel⟩
        rw [decide_eq_true (list_ext (hl.out.trans hm.out.symm) (fun j hj => hup j (by have := hl.out; omega)))]; rfl
  · have h1 : ((n : Int) == (m : Int)) = false := by simp; omega
    go_enter Try.func47, Try.ntmps47
    go_wp2_with fail
    go_ret
    refine ⟨?_, Below.refl _ _⟩
    rw [decide_eq_false (fun e => hnm (by rw [← hl.out, ← hm.out, e]))]; rfl

set_option maxHeartbeats 400000 in
theorem apart_any (a b : Option Addr) (n cap m cap2 : Nat) (xs ys : List Int) (w : World) (hr : RowW w a n cap xs) (hs : RowW w b m cap2 ys) (hbd : n + m ≤ 70368744177664) :
    Calls Try.prog 65 #[.slice a n cap, .slice b m cap2] w fun e w' => e = .returned (.bool (apB xs ys)) ∧ Below w.heap.size w w' := by
  unfold apB
  go_enter Try.func65, Try.ntmps65
  go_wp2_with fail
  refine (and_any a b n cap m cap2 xs ys w hr hs hbd).mono ?_
  rintro e w2 ⟨so, k, co, rfl, hown, hbel⟩
  have hk := hown.1
  by_cases h : k = 0
  · subst h
    go_wp2_with fail
    go_ret
    refine ⟨?_, hbel⟩
    rw [decide_eq_true (List.eq_nil_of_length_eq_zero hk)]; rfl
  · have h1 : ((k : Int) == 0) = false := by simp; omega
    have hk' : Hid (_ = _) := hk
    clear hk
    go_wp2_with fail
    go_ret
    refine ⟨?_, hbel⟩
    rw [decide_eq_false (fun e => h (by rw [← hk'.out, e]; rfl))]; rfl
theorem mayS_len {xs : List Int} {n : Nat} (h : mayS' xs = true) (hl : xs.length = n) : n ≤ 16 := hl ▸ ((mayS'_iff xs).1 h).1

set_option maxHeartbeats 4000000 in
theorem maySets_any (x : Sv) (w : World) (hx : x.In w) :
    Calls Try.prog 56 #[.agg #[.slice x.a1 x.n1 x.c1, .slice x.a2 x.n2 x.c2, .slice x.a3 x.n3 x.c3]] w fun e w' => e = .returned (.bool (mayV x.xs x.ys x.zs)) ∧ Below w.heap.size w w' := by
  have HC : Hid _ := one_sv w x
  have HL : Hid (x.xs.length = x.n1 ∧ x.ys.length = x.n2 ∧ x.zs.length = x.n3) := ⟨hx.r1.len, hx.r2.len, hx.r3.len⟩
  go_enter Try.func56, Try.ntmps56
  go_wp2_with fail
  have hb0 := Below.refl (w.alloc (Obj.cells #[.slice x.a1 x.n1 x.c1, .slice x.a2 x.n2 x.c2, .slice x.a3 x.n3 x.c3] 28)).heap.size (w.alloc (Obj.cells #[.slice x.a1 x.n1 x.c1, .slice x.a2 x.n2 x.c2, .slice x.a3 x.n3 x.c3] 28))
  obtain ⟨_, _, _, bw0⟩ := HC.out _ hb0
  refine (may_any x.a1 x.n1 x.c1 x.xs _ (hx.r1.below bw0)).mono ?_
  rintro e w1 ⟨rfl, hb1⟩
  replace hb1 := ext_trans hb0 hb1
  clear hb0 bw0
  obtain ⟨s0, s1, s2, bw1⟩ := HC.out _ hb1
  obtain ⟨q0, hq⟩ : ∃ q, q = mayS x.xs := ⟨_, rfl⟩
  rw [← hq]
  have HQ0 : Hid (q0 = mayS x.xs) := hq
  clear hq
  cases q0
  · go_wp2_with fail
    go_ret
    refine ⟨?_, bw1⟩
    unfold mayV
    rw [show mayS' x.xs = false from HQ0.out.symm]; 
    simp
  · have l1 := mayS_len HQ0.out.symm HL.out.1
    go_wp2_with fail
    clear s0 s1 s2
    refine (may_any x.a2 x.n2 x.c2 x.ys _ (hx.r2.below bw1)).mono ?_
    rintro e w2 ⟨rfl, hb2⟩
    replace hb2 := ext_trans hb1 hb2
    clear hb1 bw1
    obtain ⟨s0, s1, s2, bw2⟩ := HC.out _ hb2
    obtain ⟨q1, hq⟩ : ∃ q, q = mayS x.ys := ⟨_, rfl⟩
    rw [← hq]
    have HQ1 : Hid (q1 = mayS x.ys) := hq
    clear hq
    cases q1
    · go_wp2_with fail
      go_ret
      refine ⟨?_, bw2⟩
      unfold mayV
      rw [show mayS' x.xs = true from HQ0.out.symm]; rw [show mayS' x.ys = false from HQ1.out.symm]; 
      simp
    · have l2 := mayS_len HQ1.out.symm HL.out.2.1
      go_wp2_with fail
      clear s0 s1 s2
      refine (may_any x.a3 x.n3 x.c3 x.zs _ (hx.r3.below bw2)).mono ?_
      rintro e w3 ⟨rfl, hb3⟩
      replace hb3 := ext_trans hb2 hb3
      clear hb2 bw2
      obtain ⟨s0, s1, s2, bw3⟩ := HC.out _ hb3
      obtain ⟨q2, hq⟩ : ∃ q, q = mayS x.zs := ⟨_, rfl⟩
      rw [← hq]
      have HQ2 : Hid (q2 = mayS x.zs) := hq
      clear hq
      cases q2
      · go_wp2_with fail
        go_ret
        refine ⟨?_, bw3⟩
        unfold mayV
        rw [show mayS' x.xs = true from HQ0.out.symm]; rw [show mayS' x.ys = true from HQ1.out.symm]; rw [show mayS' x.zs = false from HQ2.out.symm]; 
        simp
      · have l3 := mayS_len HQ2.out.symm HL.out.2.2
        go_wp2_with fail
        clear s0 s1 s2
        refine (apart_any x.a1 x.a2 x.n1 x.c1 x.n2 x.c2 x.xs x.ys _ (hx.r1.below bw3) (hx.r2.below bw3) (by omega)).mono ?_
        rintro e w4 ⟨rfl, hb4⟩
        replace hb4 := ext_trans hb3 hb4
        clear hb3 bw3
        obtain ⟨s0, s1, s2, bw4⟩ := HC.out _ hb4
        obtain ⟨q3, hq⟩ : ∃ q, q = apB x.xs x.ys := ⟨_, rfl⟩
        rw [← hq]
        have HQ3 : Hid (q3 = apB x.xs x.ys) := hq
        clear hq
        cases q3
        · go_wp2_with fail
          go_ret
          refine ⟨?_, bw4⟩
          unfold mayV
          rw [show mayS' x.xs = true from HQ0.out.symm]; rw [show mayS' x.ys = true from HQ1.out.symm]; rw [show mayS' x.zs = true from HQ2.out.symm]; rw [show apB x.xs x.ys = false from HQ3.out.symm]; 
          simp
        · go_wp2_with fail
          clear s0 s1 s2
          refine (apart_any x.a1 x.a3 x.n1 x.c1 x.n3 x.c3 x.xs x.zs _ (hx.r1.below bw4) (hx.r3.below bw4) (by omega)).mono ?_
          rintro e w5 ⟨rfl, hb5⟩
          replace hb5 := ext_trans hb4 hb5
          clear hb4 bw4
          obtain ⟨s0, s1, s2, bw5⟩ := HC.out _ hb5
          obtain ⟨q4, hq⟩ : ∃ q, q = apB x.xs x.zs := ⟨_, rfl⟩
          rw [← hq]
          have HQ4 : Hid (q4 = apB x.xs x.zs) := hq
          clear hq
          cases q4
          · go_wp2_with fail
            go_ret
            refine ⟨?_, bw5⟩
            unfold mayV
            rw [show mayS' x.xs = true from HQ0.out.symm]; rw [show mayS' x.ys = true from HQ1.out.symm]; rw [show mayS' x.zs = true from HQ2.out.symm]; rw [show apB x.xs x.ys = true from HQ3.out.symm]; rw [show apB x.xs x.zs = false from HQ4.out.symm]; 
            simp
          · go_wp2_with fail
            clear s0 s1 s2
            refine (apart_any x.a2 x.a3 x.n2 x.c2 x.n3 x.c3 x.ys x.zs _ (hx.r2.below bw5) (hx.r3.below bw5) (by omega)).mono ?_
            rintro e w6 ⟨rfl, hb6⟩
            replace hb6 := ext_trans hb5 hb6
            clear hb5 bw5
            obtain ⟨s0, s1, s2, bw6⟩ := HC.out _ hb6
            obtain ⟨q5, hq⟩ : ∃ q, q = apB x.ys x.zs := ⟨_, rfl⟩
            rw [← hq]
            have HQ5 : Hid (q5 = apB x.ys x.zs) := hq
            clear hq
            cases q5
            · go_wp2_with fail
              go_ret
              refine ⟨?_, bw6⟩
              unfold mayV
              rw [show mayS' x.xs = true from HQ0.out.symm]; rw [show mayS' x.ys = true from HQ1.out.symm]; rw [show mayS' x.zs = true from HQ2.out.symm]; rw [show apB x.xs x.ys = true from HQ3.out.symm]; rw [show apB x.xs x.zs = true from HQ4.out.symm]; rw [show apB x.ys x.zs = false from HQ5.out.symm]; 
              simp
            · by_cases hs : x.n1 + x.n2 + x.n3 ≤ 16
              · have hs1 : (x.n1 : Int) + (x.n2 : Int) + (x.n3 : Int) ≤ 16 := by omega
                go_wp2_with fail
                go_ret
                refine ⟨?_, bw6⟩
                unfold mayV
                rw [show mayS' x.xs = true from HQ0.out.symm]; rw [show mayS' x.ys = true from HQ1.out.symm]; rw [show mayS' x.zs = true from HQ2.out.symm]; rw [show apB x.xs x.ys = true from HQ3.out.symm]; rw [show apB x.xs x.zs = true from HQ4.out.symm]; rw [show apB x.ys x.zs = true from HQ5.out.symm]; 
                rw [HL.out.1, HL.out.2.1, HL.out.2.2, decide_eq_true hs]; rfl
              · have hs1 : decide ((x.n1 : Int) + (x.n2 : Int) + (x.n3 : Int) ≤ 16) = false := by simp; omega
                go_wp2_with fail
                go_ret
                refine ⟨?_, bw6⟩
                unfold mayV
                rw [show mayS' x.xs = true from HQ0.out.symm]; rw [show mayS' x.ys = true from HQ1.out.symm]; rw [show mayS' x.zs = true from HQ2.out.symm]; rw [show apB x.xs x.ys = true from HQ3.out.symm]; rw [show apB x.xs x.zs = true from HQ4.out.symm]; rw [show apB x.ys x.zs = true from HQ5.out.symm]; 
                rw [HL.out.1, HL.out.2.1, HL.out.2.2, decide_eq_false hs]; rfl
theorem or_le {A B Z : List Int} {k n m : Nat} (hk : Z.length = k) (hZ : Srt Z) (hn : A.length = n) (hm : B.length = m) (h : ∀ x, x ∈ Z ↔ x ∈ A ++ B) (hA : mayS' A = true) (hB : mayS' B = true) (h1 : n ≤ 16) (h2 : m ≤ 16) : k ≤ 32 := by
  have e := or_eq ((mayS'_iff A).1 hA).2 ((mayS'_iff B).1 hB).2 hZ h
  have l := mrg_len true true true A B
  rw [e] at l
  omega

set_option maxHeartbeats 4000000 in
theorem refMaySets_any (x : Sv) (w : World) (hx : x.In w) :
    Calls Try.prog 22 #[.agg #[.slice x.a1 x.n1 x.c1, .slice x.a2 x.n2 x.c2, .slice x.a3 x.n3 x.c3]] w fun e w' => e = .returned (.bool (mayV x.xs x.ys x.zs)) ∧ Below w.heap.size w w' := by
  have HC : Hid _ := one_sv w x
  have HL : Hid (x.xs.length = x.n1 ∧ x.ys.length = x.n2 ∧ x.zs.length = x.n3) := ⟨hx.r1.len, hx.r2.len, hx.r3.len⟩
  go_enter Try.func22, Try.ntmps22
  go_wp2_with fail
  have hb0 := Below.refl (w.alloc (Obj.cells #[.slice x.a1 x.n1 x.c1, .slice x.a2 x.n2 x.c2, .slice x.a3 x.n3 x.c3] 28)).heap.size (w.alloc (Obj.cells #[.slice x.a1 x.n1 x.c1, .slice x.a2 x.n2 x.c2, .slice x.a3 x.n3 x.c3] 28))
  obtain ⟨_, _, _, bw0⟩ := HC.out _ hb0
  refine (refMay_any x.a1 x.n1 x.c1 x.xs _ (hx.r1.below bw0)).mono ?_
  rintro e w1 ⟨rfl, hb1⟩
  replace hb1 := ext_trans hb0 hb1
  clear hb0 bw0
  obtain ⟨s0, s1, s2, bw1⟩ := HC.out _ hb1
  obtain ⟨q0, hq⟩ : ∃ q, q = mayS x.xs := ⟨_, rfl⟩
  rw [← hq]
  have HQ0 : Hid (q0 = mayS x.xs) := hq
  clear hq
  cases q0
  · go_wp2_with fail
    go_ret
    refine ⟨?_, bw1⟩
    unfold mayV
    rw [show mayS' x.xs = false from HQ0.out.symm]; 
    simp
  · have l1 := mayS_len HQ0.out.symm HL.out.1
    go_wp2_with fail
    clear s0 s1 s2
    refine (refMay_any x.a2 x.n2 x.c2 x.ys _ (hx.r2.below bw1)).mono ?_
    rintro e w2 ⟨rfl, hb2⟩
    replace hb2 := ext_trans hb1 hb2
    clear hb1 bw1
    obtain ⟨s0, s1, s2, bw2⟩ := HC.out _ hb2
    obtain ⟨q1, hq⟩ : ∃ q, q = mayS x.ys := ⟨_, rfl⟩
    rw [← hq]
    have HQ1 : Hid (q1 = mayS x.ys) := hq
    clear hq
    cases q1
    · go_wp2_with fail
      go_ret
      refine ⟨?_, bw2⟩
      unfold mayV
      rw [show mayS' x.xs = true from HQ0.out.symm]; rw [show mayS' x.ys = false from HQ1.out.symm]; 
      simp
    · have l2 := mayS_len HQ1.out.symm HL.out.2.1
      go_wp2_with fail
      clear s0 s1 s2
      refine (refMay_any x.a3 x.n3 x.c3 x.zs _ (hx.r3.below bw2)).mono ?_
      rintro e w3 ⟨rfl, hb3⟩
      replace hb3 := ext_trans hb2 hb3
      clear hb2 bw2
      obtain ⟨s0, s1, s2, bw3⟩ := HC.out _ hb3
      obtain ⟨q2, hq⟩ : ∃ q, q = mayS x.zs := ⟨_, rfl⟩
      rw [← hq]
      have HQ2 : Hid (q2 = mayS x.zs) := hq
      clear hq
      cases q2
      · go_wp2_with fail
        go_ret
        refine ⟨?_, bw3⟩
        unfold mayV
        rw [show mayS' x.xs = true from HQ0.out.symm]; rw [show mayS' x.ys = true from HQ1.out.symm]; rw [show mayS' x.zs = false from HQ2.out.symm]; 
        simp
      · have l3 := mayS_len HQ2.out.symm HL.out.2.2
        go_wp2_with fail
        clear s0 s1 s2
        have hB0 := ext_trans hb3 (ext_drew w3)
        refine wp_region_noPanic ?_
        refine wp_region_held_drew (S := fun W => Below (w.alloc (Obj.cells #[.slice x.a1 x.n1 x.c1, .slice x.a2 x.n2 x.c2, .slice x.a3 x.n3 x.c3] 28)).heap.size (w.alloc (Obj.cells #[.slice x.a1 x.n1 x.c1, .slice x.a2 x.n2 x.c2, .slice x.a3 x.n3 x.c3] 28)) W) (by kernel_rfl) hB0 fun hS => ?_
        refine take_to (i := 0) (v := ?_) 20 rfl rfl (by kernel_rfl) (by kernel_rfl) (by kernel_rfl) (fun _ _ _ h => h) (Or.inl ⟨by rfl, ?_⟩) hS ?_
        rotate_left
        · intro W hW
          obtain ⟨s0, s1, s2, _⟩ := HC.out W hW
          go_simp
          try with_reducible rfl
        simp only [List.setIfInBounds_toArray, List.set_cons_zero, List.set_cons_succ]
        refine take_to (i := 1) (v := ?_) 21 rfl rfl (by kernel_rfl) (by kernel_rfl) (by kernel_rfl) (fun _ _ _ h => h) (Or.inl ⟨by rfl, ?_⟩) hS ?_
        rotate_left
        · intro W hW
          obtain ⟨s0, s1, s2, _⟩ := HC.out W hW
          go_simp
          try with_reducible rfl
        simp only [List.setIfInBounds_toArray, List.set_cons_zero, List.set_cons_succ]
        refine take_to (i := 2) (v := ?_) 22 rfl rfl (by kernel_rfl) (by kernel_rfl) (by kernel_rfl) (fun _ _ _ h => h) (Or.inl ⟨by rfl, ?_⟩) hS ?_
        rotate_left
        · intro W hW
          obtain ⟨s0, s1, s2, _⟩ := HC.out W hW
          go_simp
          try with_reducible rfl
        simp only [List.setIfInBounds_toArray, List.set_cons_zero, List.set_cons_succ]
        refine take_to (i := 3) (v := ?_) 23 rfl rfl (by kernel_rfl) (by kernel_rfl) (by kernel_rfl) (fun _ _ _ h => h) (Or.inl ⟨by rfl, ?_⟩) hS ?_
        rotate_left
        · intro W hW
          obtain ⟨s0, s1, s2, _⟩ := HC.out W hW
          go_simp
          try with_reducible rfl
        simp only [List.setIfInBounds_toArray, List.set_cons_zero, List.set_cons_succ]
        refine take_to (i := 5) (v := ?_) 25 rfl rfl (by kernel_rfl) (by kernel_rfl) (by kernel_rfl) (fun _ _ _ h => h) (Or.inl ⟨by rfl, ?_⟩) hS ?_
        rotate_left
        · intro W hW
          obtain ⟨s0, s1, s2, _⟩ := HC.out W hW
          go_simp
          try with_reducible rfl
        simp only [List.setIfInBounds_toArray, List.set_cons_zero, List.set_cons_succ]
        refine take_to (i := 6) (v := ?_) 26 rfl rfl (by kernel_rfl) (by kernel_rfl) (by kernel_rfl) (fun _ _ _ h => h) (Or.inl ⟨by rfl, ?_⟩) hS ?_
        rotate_left
        · intro W hW
          obtain ⟨s0, s1, s2, _⟩ := HC.out W hW
          go_simp
          try with_reducible rfl
        simp only [List.setIfInBounds_toArray, List.set_cons_zero, List.set_cons_succ]
        refine wpAnyH_ready (rs := [4]) (by kernel_rfl) (by simp) ?_
        refine AllReadyH.cons rfl (fun K hK => ?_) AllReadyH.nil
        go_simp
        obtain ⟨_, _, _, bw⟩ := HC.out _ hB0
        refine (refOr_any x.a1 x.a2 x.n1 x.c1 x.n2 x.c2 x.xs x.ys _ (hx.r1.below bw) (hx.r2.below bw) (by omega)).mono ?_
        rintro e w4 ⟨so, k, co, us, rfl, hown4, hb4, hs4, hm4⟩
        have hr4 := hown4.row
        have HS4 : Hid (Srt us ∧ ∀ x_1, x_1 ∈ us ↔ x_1 ∈ x.xs ++ x.ys) := ⟨hs4, hm4⟩
        have hk4 : k ≤ 32 := or_le hr4.len HS4.out.1 HL.out.1 HL.out.2.1 HS4.out.2 HQ0.out.symm HQ1.out.symm l1 l2
        clear hown4 hs4 hm4
        replace hb4 := ext_trans hB0 hb4
        refine hK.out _ _ hb4 fun hS => ?_
        clear hK K
        refine wpAnyH_ready (rs := [7]) (by kernel_rfl) (by simp) ?_
        refine AllReadyH.cons rfl (fun K hK => ?_) AllReadyH.nil
        go_simp
        obtain ⟨_, _, _, bw⟩ := HC.out _ hb4
        refine (refOr_any so x.a3 k co x.n3 x.c3 us x.zs _ hr4 (hx.r3.below bw) (by omega)).mono ?_
        rintro e w5 ⟨so5, k5, co5, vs, rfl, hown5, hb5, hs5, hm5⟩
        have hr5 := hown5.row
        have HS5 : Hid (Srt vs ∧ ∀ x_1, x_1 ∈ vs ↔ x_1 ∈ us ++ x.zs) := ⟨hs5, hm5⟩
        have hl5 := hr5.cap_le
        clear hown5 hs5 hm5
        replace hb5 := ext_trans hb4 hb5
        refine hK.out _ _ hb5 fun hS => ?_
        clear hK K
        refine take_to (i := 8) (v := ?_) 3 rfl rfl (by kernel_rfl) (by kernel_rfl) (by kernel_rfl) (fun _ _ _ h => h) (Or.inl ⟨by rfl, ?_⟩) hS ?_
        rotate_left
        · intro W hW
          obtain ⟨s0, s1, s2, _⟩ := HC.out W hW
          go_simp
          try with_reducible rfl
        simp only [List.setIfInBounds_toArray, List.set_cons_zero, List.set_cons_succ]
        refine wpAnyH_done (by kernel_rfl) ?_ _
        refine NoPanic.normal ?_
        obtain ⟨s0, s1, s2, bw5⟩ := HC.out _ hb5
        have HE : Hid (mayV x.xs x.ys x.zs = (decide (k5 = x.n1 + x.n2 + x.n3) && decide (k5 ≤ 16))) := by
          have h := mayV_or (show mayS' x.xs = true from HQ0.out.symm) (show mayS' x.ys = true from HQ1.out.symm) (show mayS' x.zs = true from HQ2.out.symm) HS4.out.1 HS5.out.1 HS4.out.2 HS5.out.2
          rwa [hr5.len, HL.out.1, HL.out.2.1, HL.out.2.2] at h
        by_cases h1 : k5 = x.n1 + x.n2 + x.n3
        · have h1' : ((k5 : Int) == (x.n1 : Int) + (x.n2 : Int) + (x.n3 : Int)) = true := by simp; omega
          by_cases h2 : k5 ≤ 16
          · have h2' : (x.n1 : Int) + (x.n2 : Int) + (x.n3 : Int) ≤ 16 := by omega
            go_wp2_with fail
            go_ret
            exact ⟨by rw [HE.out, decide_eq_true h1, decide_eq_true h2]; rfl, bw5⟩
          · have h2' : decide ((x.n1 : Int) + (x.n2 : Int) + (x.n3 : Int) ≤ 16) = false := by simp; omega
            go_wp2_with fail
            go_ret
            exact ⟨by rw [HE.out, decide_eq_true h1, decide_eq_false h2]; rfl, bw5⟩
        · have h1' : ((k5 : Int) == (x.n1 : Int) + (x.n2 : Int) + (x.n3 : Int)) = false := by simp; omega
          go_wp2_with fail
          go_ret
          exact ⟨by rw [HE.out, decide_eq_false h1]; rfl, bw5⟩

/-- Are two labels one? -/
def Sv.same (x y : Sv) : Bool := decide (x.xs = y.xs) && decide (x.ys = y.ys) && decide (x.zs = y.zs)
theorem Sv.same_iff (x y : Sv) : x.same y = true ↔ x.xs = y.xs ∧ x.ys = y.ys ∧ x.zs = y.zs := by simp [Sv.same, and_assoc]
/-- Does one flow to the other? -/
def Sv.flows (x y : Sv) : Bool := decide (mrg true false false x.xs y.xs = []) && decide (mrg true false false y.ys x.ys = [])
theorem Sv.flows_iff {x y : Sv} (h1 : Srt x.xs) (h2 : Srt x.ys) (h3 : Srt y.xs) (h4 : Srt y.ys) : x.flows y = true ↔ (∀ z, z ∈ x.xs → z ∈ y.xs) ∧ ∀ z, z ∈ y.ys → z ∈ x.ys := by
  unfold Sv.flows
  rw [Bool.and_eq_true, decide_eq_true_eq, decide_eq_true_eq, less_nil h1 h3, less_nil h4 h2]

end Go.Proofs.Ytkmpmljohjelhaa
