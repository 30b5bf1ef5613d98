/- CatsCount walked: it answers true, and turns nothing that was there. -/
import Derived.Test.YtpajojkhpnklfaaCatsMakeWalk
namespace Go.Proofs.Ytpajojkhpnklfaa
open Go.RowKit

theorem mrg_sum (a b : List Int) : (mrg true true true a b).length + (mrg false true false a b).length = a.length + b.length := by
  induction a, b using mrg.induct with
  | case1 b => simp [mrg_nil_left]
  | case2 x a => simp [mrg_nil_right]
  | case3 x a y b h ih => rw [mrg_lt _ _ _ h, mrg_lt _ _ _ h]; simp at ih ⊢; omega
  | case4 x a y b h h' ih => rw [mrg_gt _ _ _ h', mrg_gt _ _ _ h']; simp at ih ⊢; omega
  | case5 x a y b h h' ih => rw [mrg_eq _ _ _ (by omega), mrg_eq _ _ _ (by omega)]; simp at ih ⊢; omega
theorem mrg_part (a b : List Int) : (mrg true false false a b).length + (mrg false true false a b).length = a.length := by
  induction a, b using mrg.induct with
  | case1 b => simp [mrg_nil_left]
  | case2 x a => simp [mrg_nil_right]
  | case3 x a y b h ih => rw [mrg_lt _ _ _ h, mrg_lt _ _ _ h]; simp at ih ⊢; omega
  | case4 x a y b h h' ih => rw [mrg_gt _ _ _ h', mrg_gt _ _ _ h']; simp at ih ⊢; omega
  | case5 x a y b h h' ih => rw [mrg_eq _ _ _ (by omega), mrg_eq _ _ _ (by omega)]; simp at ih ⊢; omega
theorem srt_one (c : Int) : Srt [c] := List.pairwise_singleton _ _
theorem mrg_one {A : List Int} (hA : Srt A) (c : Int) : (mrg true true true A [c]).length = A.length + (if decide (c ∈ A) then 0 else 1) := by
  have h1 := mrg_sum A [c]
  have h2 : (mrg false true false A [c]).length = if decide (c ∈ A) then 1 else 0 := by
    by_cases h : c ∈ A
    · rw [srt_unique (ys := [c]) (mrg_srt _ _ _ _ _ hA (srt_one c)) (srt_one c) (fun x => by
        rw [mrg_mem _ _ _ _ _ hA (srt_one c)]
        simp
        intro e
        exact e ▸ h)]
      simp [h]
    · rw [srt_unique (ys := []) (mrg_srt _ _ _ _ _ hA (srt_one c)) Srt.nil (fun x => by
        rw [mrg_mem _ _ _ _ _ hA (srt_one c)]
        simp
        intro e e'
        exact h (e' ▸ e))]
      simp [h]
  rw [List.length_singleton] at h1
  by_cases h : c ∈ A
  · rw [decide_eq_true h, if_pos rfl] at h2 ⊢
    omega
  · rw [decide_eq_false h, if_neg (by simp)] at h2 ⊢
    omega
theorem mrg_in_one {A : List Int} (hA : Srt A) (c : Int) : decide (mrg true false false [c] A = []) = decide (c ∈ A) := by
  by_cases h : c ∈ A
  · rw [decide_eq_true h, decide_eq_true]
    refine srt_unique (mrg_srt _ _ _ _ _ (srt_one c) hA) Srt.nil fun x => ?_
    rw [mrg_mem _ _ _ _ _ (srt_one c) hA]
    simp
    intro e
    exact e ▸ h
  · rw [decide_eq_false h, decide_eq_false]
    intro e
    have : c ∈ mrg true false false [c] A := by
      rw [mrg_mem _ _ _ _ _ (srt_one c) hA]
      simp [h]
    rw [e] at this
    simp at this

set_option maxHeartbeats 400000 in
theorem catsCount_long (a b : Option Addr) (n cap m cap2 : Nat) (c : Int) (w : World) (h : 30 < n ∨ 30 < m) :
    Calls Try.prog 8 #[.slice a n cap, .slice b m cap2, .int .u16 c] w fun e w' => e = .returned (.bool true) ∧ Below w.heap.size w w' := by
  by_cases h1 : (n : Int) > 30
  · go_enter Try.func8, Try.ntmps8
    go_wp2_with fail
    refine (begun_true _).mono ?_
    rintro e w1 ⟨rfl, hb1⟩
    go_wp2_with fail
    go_ret
    exact ⟨rfl, hb1⟩
  · have h2 : (m : Int) > 30 := by omega
    have h3 : decide ((30 : Int) < n) = false := by simpa using h1
    go_enter Try.func8, Try.ntmps8
    go_wp2_with fail
    refine (begun_true _).mono ?_
    rintro e w1 ⟨rfl, hb1⟩
    go_wp2_with fail
    go_ret
    exact ⟨rfl, hb1⟩

set_option maxHeartbeats 4000000 in
theorem catsCount_walk (a b : Option Addr) (n cap m cap2 : Nat) (xs ys : List Int) (c : Int) (hc : 0 ≤ c ∧ c < 65536) (w : World) (hr : RowW w a n cap xs) (hs : RowW w b m cap2 ys) :
    Calls Try.prog 8 #[.slice a n cap, .slice b m cap2, .int .u16 c] w fun e w' => e = .returned (.bool true) ∧ Below w.heap.size w w' := by
  by_cases hlong : 30 < n ∨ 30 < m
  · exact catsCount_long a b n cap m cap2 c w hlong
  have h1 : decide ((30 : Int) < n) = false := by simp; omega
  have h2 : decide ((30 : Int) < m) = false := by simp; omega
  have h3 : ¬ (n : Int) > 30 := by omega
  have h4 : ¬ (m : Int) > 30 := by omega
  go_enter Try.func8, Try.ntmps8
  go_wp2_with fail
  refine (begun_true _).mono ?_
  rintro e w1 ⟨rfl, b1⟩
  replace hr := hr.below b1
  replace hs := hs.below b1
  go_wp2_with fail
  refine (make_all a n cap xs _ hr (by omega)).mono ?_
  rintro e w2 ⟨sa, na, ca, A, rfl, oa, b2, hA, mA, lA⟩
  replace hs := hs.below b2
  replace b1 := ext_trans b1 b2
  have ra := oa.row
  clear oa b2 hr mA
  go_wp2_with fail
  refine (make_all b m cap2 ys _ hs (by omega)).mono ?_
  rintro e w3 ⟨sb, nb, cb, B, rfl, ob, b3, hB, mB, lB⟩
  replace ra := ra.below b3
  replace b1 := ext_trans b1 b3
  have rb := ob.row
  clear ob b3 hs mB
  have lna := ra.len
  have lnb := rb.len
  have HC : Hid (0 ≤ c ∧ c < 65536) := hc
  clear hc
  go_wp2_with fail
  have r1 := roww_lit w3 27 [c] 1 rfl (by omega) (Wrd.one HC.out)
  have ba := below_alloc w3 (.cells ([c].map (Value.int .u16)).toArray 27)
  refine (or_any sa _ na ca 1 1 A [c] _ (ra.below ba) r1 (by omega)).mono ?_
  rintro e w4 ⟨sx, nx, cx, rfl, ox, b4⟩
  replace r1 := r1.below b4
  replace b4 := ext_trans ba b4
  have rx := ox.row
  have ln4 := ox.1
  rw [mrg_one hA c, lna] at ln4
  have hx : decide (c ∈ mrg true true true A [c]) = true := by
    apply decide_eq_true
    rw [mrg_mem _ _ _ _ _ hA (srt_one c)]
    by_cases h : c ∈ A <;> simp [h]
  have sX := mrg_srt true true true A [c] hA (srt_one c)
  clear ox ba
  go_wp2_with fail
  have q1 := fun W (hW : Below w3.heap.size w3 W) => has_any sa na ca A c W (ra.below hW) hA (by omega)
  have q2 := fun W (hW : Below w4.heap.size w4 W) => in_any _ sa 1 1 na ca [c] A W (r1.below hW) ((ra.below b4).below hW) (by omega)
  rw [mrg_in_one hA c] at q2
  have HL : Hid (decide (c ∈ mrg true false false A [c]) = false ∧ Srt (mrg true false false A [c])) := by
    refine ⟨?_, mrg_srt _ _ _ _ _ hA (srt_one c)⟩
    apply decide_eq_false
    rw [mrg_mem _ _ _ _ _ hA (srt_one c)]
    simp
  have S1 := mrg_sum A B
  have S2 := mrg_part A B
  rw [lna, lnb] at S1
  rw [lna] at S2
  obtain ⟨q, hq⟩ : ∃ q, decide (c ∈ A) = q := ⟨_, rfl⟩
  rw [hq] at q1 q2 ln4
  clear hq
  have HX : Hid (decide (c ∈ mrg true true true A [c]) = true ∧ Srt (mrg true true true A [c])) := ⟨hx, sX⟩
  clear hx sX
  refine (q1 _ b4).mono ?_
  rintro e w4' ⟨rfl, rfl⟩
  cases q
  all_goals (
    simp only [if_true, if_false, Bool.false_eq_true, Nat.add_zero] at ln4
    subst ln4
    go_wp2_with fail
    refine (or_any sa sb na ca nb cb A B _ (ra.below b4) (rb.below b4) (by omega)).mono ?_
    rintro e w5 ⟨s5, n5, c5, rfl, o5, b5⟩
    have l5 := o5.1
    clear o5
    rw [l5] at S1
    clear l5
    have b45 := b5
    replace b4 := ext_trans b4 b5
    clear b5
    go_wp2_with fail
    refine (and_any sa sb na ca nb cb A B _ (ra.below b4) (rb.below b4) (by omega)).mono ?_
    rintro e w6 ⟨s6, n6, c6, rfl, o6, b6⟩
    have l6 := o6.1
    clear o6
    rw [l6] at S1 S2
    have b46 := ext_trans b45 b6
    replace b4 := ext_trans b4 b6
    have e1 : ((n5 : Int) + n6 == (na : Int) + nb) = true := by simp; omega
    clear b6 b45
    go_wp2_with fail
    refine (less_set_any sa sb na ca nb cb A B _ (ra.below b4) (rb.below b4) (by omega)).mono ?_
    rintro e w7 ⟨s7, n7, c7, rfl, o7, b7⟩
    have l7 := o7.1
    clear o7
    rw [l7] at S2
    clear l7
    replace b46 := ext_trans b46 b7
    replace b4 := ext_trans b4 b7
    clear b7
    go_wp2_with fail
    refine (and_any sa sb na ca nb cb A B _ (ra.below b4) (rb.below b4) (by omega)).mono ?_
    rintro e w8 ⟨s8, n8, c8, rfl, o8, b8⟩
    have l8 := o8.1.symm.trans l6
    clear o8 l6
    replace b46 := ext_trans b46 b8
    replace b4 := ext_trans b4 b8
    clear b8
    obtain rfl := l8
    have e2 : ((n7 : Int) + n8 == (na : Int)) = true := by simp; omega
    go_wp2_with fail
    refine (has_any sx _ cx _ c _ (rx.below b46) HX.out.2 (by omega)).mono ?_
    rintro e w9 ⟨rfl, rfl⟩
    rw [HX.out.1]
    go_wp2_with fail
    refine (less_set_any sa _ na ca 1 1 A [c] _ (ra.below b4) (r1.below b46) (by omega)).mono ?_
    rintro e w10 ⟨s10, n10, c10, rfl, o10, b10⟩
    replace b46 := ext_trans b46 b10
    replace b4 := ext_trans b4 b10
    clear b10
    have l10 : n10 ≤ 100 := by
      have h5 := o10.1
      have h6 := mrg_len true false false A [c]
      rw [lna, List.length_singleton] at h6
      omega
    go_wp2_with fail
    refine (has_any s10 n10 c10 _ c _ o10.row HL.out.2 (by omega)).mono ?_
    rintro e w11 ⟨rfl, rfl⟩
    rw [HL.out.1]
    go_wp2_with fail
    refine (q2 _ b46).mono ?_
    rintro e w12 ⟨rfl, b12⟩
    replace b4 := ext_trans b4 b12
    go_wp2_with fail
    refine (q1 _ b4).mono ?_
    rintro e w13 ⟨rfl, rfl⟩
    go_wp2_with fail
    go_ret
    exact ⟨rfl, ext_trans b1 b4⟩)
end Go.Proofs.Ytpajojkhpnklfaa
