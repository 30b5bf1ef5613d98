/- How the library's sort of lists of categories chooses its pivot and breaks patterns: what the plain functions say. -/
import Derived.Test.YtpajojkhpnklfaaPivot
import Derived.Test.YtpajojkhpnklfaaShelf
namespace Go.Proofs.Ytpajojkhpnklfaa
open Go.RowKit Go.Sort

theorem medianAdj_lt (d : Array Int) (a v n : Nat) (ha1 : 1 ≤ a) (ha : a + 1 < n) : (medianAdjacent ltInt d a v).1 < n ∧ (medianAdjacent ltInt d a v).2 ≤ v + 3 := by
  unfold medianAdjacent
  exact median_lt d (a - 1) a (a + 1) v n (by omega) (by omega) (by omega)

set_option maxRecDepth 100000 in
set_option maxHeartbeats 4000000 in
theorem choosePivot_any (g cap B a b : Nat) (d : Array Int) (w : World) (hown : OwnA w B g cap d) (w0 : World) (hb0 : RowKit.Below B w0 w) (hB : B ≤ w.heap.size) (hab : a + 12 < b) (hb' : b ≤ d.size) (hsz : d.size ≤ 1000000) :
    Calls Try.prog 53 #[.slice (some ⟨g, 0, none⟩) d.size cap, .int .i64 a, .int .i64 b] w fun e w' => e = .returned (.tuple #[.int .i64 (choosePivot ltInt d a b).1, .int .i64 (hintV (choosePivot ltInt d a b).2)]) ∧ OwnA w' B g cap d ∧ RowKit.Below B w0 w' := by
  have hgw := hown.lt.2
  obtain ⟨l, hl⟩ : ∃ l, l = b - a := ⟨_, rfl⟩
  obtain ⟨q, hq⟩ : ∃ q, q = l / 4 := ⟨_, rfl⟩
  obtain ⟨i, hi⟩ : ∃ i, i = a + q := ⟨_, rfl⟩
  obtain ⟨j, hj⟩ : ∃ j, j = a + q * 2 := ⟨_, rfl⟩
  obtain ⟨k, hk⟩ : ∃ k, k = a + q * 3 := ⟨_, rfl⟩
  have e0 : (b : Int) - (a : Int) = (l : Int) := by omega
  have e1 : (l : Int) / 4 = (q : Int) := by omega
  have e1' : (l : Int).tdiv 4 = (q : Int) := by rw [Int.tdiv_eq_ediv_of_nonneg (by omega)]; exact e1
  have e3 : (a : Int) + (q : Int) = (i : Int) := by omega
  have e4 : (a : Int) + (q : Int) * 2 = (j : Int) := by omega
  have e5 : (a : Int) + (q : Int) * 3 = (k : Int) := by omega
  have h8 : (l : Int) ≥ 8 := by omega
  have hi1 : 1 ≤ i ∧ i + 1 < d.size := by omega
  have hj1 : 1 ≤ j ∧ j + 1 < d.size := by omega
  have hk1 : 1 ≤ k ∧ k + 1 < d.size := by omega
  obtain ⟨R, hR⟩ : ∃ R : Nat × Nat, R = if l ≥ 50 then median ltInt d (medianAdjacent ltInt d i 0).1 (medianAdjacent ltInt d j (medianAdjacent ltInt d i 0).2).1 (medianAdjacent ltInt d k (medianAdjacent ltInt d j (medianAdjacent ltInt d i 0).2).2).1 (medianAdjacent ltInt d k (medianAdjacent ltInt d j (medianAdjacent ltInt d i 0).2).2).2 else median ltInt d i j k 0 := ⟨_, rfl⟩
  have hC : choosePivot ltInt d a b = (R.1, if R.2 = 0 then .increasing else if R.2 = 12 then .decreasing else .unknown) := by
    unfold choosePivot
    simp only [← hl, ← hq, show a + q * 1 = i by omega, ← hj, ← hk]
    rw [if_pos (by omega), hR]
  rw [hC]
  clear hC hl hq hi hj hk
  obtain ⟨w1, hw1⟩ : ∃ w1, w1 = w.alloc (.cells #[Value.int .i64 0] 3) := ⟨_, rfl⟩
  have p0 : PSt w1 w0 B g cap w.heap.size d 0 := by
    rw [hw1]
    refine ⟨OwnW.below hown (below_alloc _ _), hb0.alloc hB _, ?_, ?_⟩
    · simp [World.cell?_alloc_new]
    · simp only [World.frozen?]
      rw [heap_alloc_new]
      rfl
  have hne : g ≠ w.heap.size := by omega
  clear hown hb0
  have fin : ∀ (W : World) (v : Nat), PSt W w0 B g cap w.heap.size d v → OwnA W B g cap d ∧ RowKit.Below B w0 W := fun W v h => ⟨h.1, h.2.1⟩
  have FIN : Hid (∀ (W : World) (v : Nat), PSt W w0 B g cap w.heap.size d v → OwnA W B g cap d ∧ RowKit.Below B w0 W) := fin
  clear fin
  by_cases h50 : l ≥ 50
  · have g50 : (l : Int) ≥ 50 := by omega
    rw [if_pos h50] at hR
    have r1 := medianAdj_any g cap B w.heap.size d w0 hne hB hsz i 0 w1 p0 hi1.1 hi1.2 (by omega)
    have b1 := medianAdj_lt d i 0 d.size hi1.1 hi1.2
    generalize medianAdjacent ltInt d i 0 = R1 at r1 b1 hR
    obtain ⟨x1, v1⟩ := R1
    simp only at r1 b1 hR
    have r2 := fun W hW => medianAdj_any g cap B w.heap.size d w0 hne hB hsz j v1 W hW hj1.1 hj1.2 (by omega)
    have b2 := medianAdj_lt d j v1 d.size hj1.1 hj1.2
    generalize medianAdjacent ltInt d j v1 = R2 at r2 b2 hR
    obtain ⟨x2, v2⟩ := R2
    simp only at r2 b2 hR
    have r3 := fun W hW => medianAdj_any g cap B w.heap.size d w0 hne hB hsz k v2 W hW hk1.1 hk1.2 (by omega)
    have b3 := medianAdj_lt d k v2 d.size hk1.1 hk1.2
    generalize medianAdjacent ltInt d k v2 = R3 at r3 b3 hR
    obtain ⟨x3, v3⟩ := R3
    simp only at r3 b3 hR
    have r4 := fun W hW => median_any g cap B w.heap.size d w0 hne hB hsz x1 x2 x3 v3 W hW b1.1 b2.1 b3.1 (by omega)
    rw [← hR] at r4
    obtain ⟨pv, v4⟩ := R
    simp only at r4 ⊢
    have HP : Hid (PSt w1 w0 B g cap w.heap.size d 0) := p0
    clear hR p0 b1 b2 b3 hi1 hj1 hk1
    subst hw1
    by_cases z0 : v4 = 0
    · subst z0
      go_enter Try.func53, Try.ntmps53
      go_wp2_with fail
      refine r1.mono ?_
      rintro e W1 ⟨rfl, p1⟩
      go_wp2_with fail
      refine (r2 _ p1).mono ?_
      rintro e W2 ⟨rfl, p2⟩
      go_wp2_with fail
      refine (r3 _ p2).mono ?_
      rintro e W3 ⟨rfl, p3⟩
      go_wp2_with fail
      refine (r4 _ p3).mono ?_
      rintro e W4 ⟨rfl, p4⟩
      have c4 := p4.2.2.1
      go_wp2_with fail
      go_ret2
      exact ⟨by simp [hintV], FIN.out _ _ p4⟩
    · by_cases z12 : v4 = 12
      · subst z12
        go_enter Try.func53, Try.ntmps53
        go_wp2_with fail
        refine r1.mono ?_
        rintro e W1 ⟨rfl, p1⟩
        go_wp2_with fail
        refine (r2 _ p1).mono ?_
        rintro e W2 ⟨rfl, p2⟩
        go_wp2_with fail
        refine (r3 _ p2).mono ?_
        rintro e W3 ⟨rfl, p3⟩
        go_wp2_with fail
        refine (r4 _ p3).mono ?_
        rintro e W4 ⟨rfl, p4⟩
        have c4 := p4.2.2.1
        go_wp2_with fail
        go_ret2
        exact ⟨by simp [hintV], FIN.out _ _ p4⟩
      · have y0 : ((v4 : Int) == 0) = false := by simp; omega
        have y12 : ((v4 : Int) == 12) = false := by simp; omega
        go_enter Try.func53, Try.ntmps53
        go_wp2_with fail
        refine r1.mono ?_
        rintro e W1 ⟨rfl, p1⟩
        go_wp2_with fail
        refine (r2 _ p1).mono ?_
        rintro e W2 ⟨rfl, p2⟩
        go_wp2_with fail
        refine (r3 _ p2).mono ?_
        rintro e W3 ⟨rfl, p3⟩
        go_wp2_with fail
        refine (r4 _ p3).mono ?_
        rintro e W4 ⟨rfl, p4⟩
        have c4 := p4.2.2.1
        go_wp2_with fail
        go_ret2
        exact ⟨by simp [hintV], FIN.out _ _ p4⟩
  · have g50 : decide ((l : Int) ≥ 50) = false := by simp; omega
    have g51 : ¬ (l : Int) ≥ 50 := by omega
    rw [if_neg h50] at hR
    have r4 := median_any g cap B w.heap.size d w0 hne hB hsz i j k 0 w1 p0 (by omega) (by omega) (by omega) (by omega)
    rw [← hR] at r4
    obtain ⟨pv, v4⟩ := R
    simp only at r4 ⊢
    clear hR p0 hi1 hj1 hk1
    subst hw1
    by_cases z0 : v4 = 0
    · subst z0
      go_enter Try.func53, Try.ntmps53
      go_wp2_with fail
      refine r4.mono ?_
      rintro e W4 ⟨rfl, p4⟩
      have c4 := p4.2.2.1
      go_wp2_with fail
      go_ret2
      exact ⟨by simp [hintV], FIN.out _ _ p4⟩
    · by_cases z12 : v4 = 12
      · subst z12
        go_enter Try.func53, Try.ntmps53
        go_wp2_with fail
        refine r4.mono ?_
        rintro e W4 ⟨rfl, p4⟩
        have c4 := p4.2.2.1
        go_wp2_with fail
        go_ret2
        exact ⟨by simp [hintV], FIN.out _ _ p4⟩
      · have y0 : ((v4 : Int) == 0) = false := by simp; omega
        have y12 : ((v4 : Int) == 12) = false := by simp; omega
        go_enter Try.func53, Try.ntmps53
        go_wp2_with fail
        refine r4.mono ?_
        rintro e W4 ⟨rfl, p4⟩
        have c4 := p4.2.2.1
        go_wp2_with fail
        go_ret2
        exact ⟨by simp [hintV], FIN.out _ _ p4⟩

end Go.Proofs.Ytpajojkhpnklfaa
