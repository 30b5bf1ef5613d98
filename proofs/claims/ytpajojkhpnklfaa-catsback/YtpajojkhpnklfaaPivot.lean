/- How the library's sort of lists of categories chooses its pivot: what the plain function says; the row is as it was. -/
import Derived.Test.YtpajojkhpnklfaaHeap
namespace Go.Proofs.Ytpajojkhpnklfaa
open Go.RowKit Go.Sort

def hintV : Hint → Int
  | .unknown => 0
  | .increasing => 1
  | .decreasing => 2
/-- The row holds d, the counter v; all below B is as it was. -/
def PSt (w : World) (w0 : World) (B g cap sb : Nat) (d : Array Int) (v : Nat) : Prop :=
  OwnA w B g cap d ∧ RowKit.Below B w0 w ∧ w.cell? ⟨sb, 0, none⟩ = some (.int .i64 v) ∧ w.frozen? ⟨sb, 0, none⟩ = false
theorem OwnA.other {w : World} {B g cap sb : Nat} {d : Array Int} (h : OwnA w B g cap d) (hne : g ≠ sb) (v : Value) : OwnA (w.setCell ⟨sb, 0, none⟩ v) B g cap d := by
  obtain ⟨cur, hB, hg, hn, hm, hs, ht⟩ := OwnW.block h
  exact OwnW.of_cells hB (by rw [heap_setCell_other w ⟨sb, 0, none⟩ g v hne]; exact hg) hn hm hs h.1 h.2.1 ht
theorem PSt.drewN {w w0 : World} {B g cap sb : Nat} {d : Array Int} {v : Nat} (h : PSt w w0 B g cap sb d v) (k : Nat) : PSt (w.drewN k) w0 B g cap sb d v := ⟨h.1.drewN k, bel_drewN h.2.1 k, h.2.2.1, h.2.2.2⟩

set_option maxHeartbeats 2000000 in
theorem order2_any (g cap B sb : Nat) (d : Array Int) (w0 : World) (hne : g ≠ sb) (hBs : B ≤ sb) (hsz : d.size ≤ 1000000) (a b v : Nat) (w : World) (h : PSt w w0 B g cap sb d v) (ha : a < d.size) (hb : b < d.size) (hv : v ≤ 100) :
    Calls Try.prog 66 #[.slice (some ⟨g, 0, none⟩) d.size cap, .int .i64 a, .int .i64 b, .pointer (some ⟨sb, 0, none⟩)] w fun e w' => e = .returned (.tuple #[.int .i64 (order2 ltInt d a b v).1, .int .i64 (order2 ltInt d a b v).2.1]) ∧ PSt w' w0 B g cap sb d (order2 ltInt d a b v).2.2 := by
  obtain ⟨ho, hb0, hc, hf⟩ := h
  obtain ⟨n, hn⟩ : ∃ n, n = d.size := ⟨_, rfl⟩
  have c1 := ho.cell a ha
  have c2 := ho.cell b hb
  have l1 : (a : Int) < (n : Int) := by omega
  have l2 : (b : Int) < (n : Int) := by omega
  have hn6 : n ≤ 1000000 := by omega
  unfold order2
  rw [← hn]
  obtain ⟨X, hX⟩ : ∃ X, X = d[a]! := ⟨_, rfl⟩
  obtain ⟨Y, hY⟩ : ∃ Y, Y = d[b]! := ⟨_, rfl⟩
  rw [← hX] at c1
  rw [← hY] at c2
  rw [← hX, ← hY]
  clear hX hY hn ha hb hsz
  by_cases hYX : Y < X
  · have hYX' : decide (Y < X) = true := by simpa using hYX
    rw [if_pos (by simp [ltInt, hYX])]
    go_enter Try.func66, Try.ntmps66
    go_wp2_with fail
    go_quiet (first | (go_at_call 46; refine Calls.quiet_of_same (less_any Y X _)))
    go_wp2_with fail
    go_ret2
    refine ⟨rfl, (ho.drewN nq).other hne _, (bel_drewN hb0 nq).setCell (p := ⟨sb, 0, none⟩) hBs _, ?_, by simpa using hf⟩
    exact World.cell?_setCell_same _ _ _ hc
  · have hYX' : decide (Y < X) = false := by simpa using hYX
    rw [if_neg (by simp [ltInt]; omega)]
    go_enter Try.func66, Try.ntmps66
    go_wp2_with fail
    go_quiet (first | (go_at_call 46; refine Calls.quiet_of_same (less_any Y X _)))
    go_wp2_with fail
    go_ret2
    exact ⟨rfl, ho.drewN nq, bel_drewN hb0 nq, hc, hf⟩

theorem order2_lt (d : Array Int) (a b v n : Nat) (ha : a < n) (hb : b < n) : (order2 ltInt d a b v).1 < n ∧ (order2 ltInt d a b v).2.1 < n ∧ (order2 ltInt d a b v).2.2 ≤ v + 1 := by
  unfold order2; split <;> simp <;> omega

set_option maxHeartbeats 2000000 in
theorem median_any (g cap B sb : Nat) (d : Array Int) (w0 : World) (hne : g ≠ sb) (hBs : B ≤ sb) (hsz : d.size ≤ 1000000) (a b c v : Nat) (w : World) (h : PSt w w0 B g cap sb d v) (ha : a < d.size) (hb : b < d.size) (hc : c < d.size) (hv : v ≤ 90) :
    Calls Try.prog 65 #[.slice (some ⟨g, 0, none⟩) d.size cap, .int .i64 a, .int .i64 b, .int .i64 c, .pointer (some ⟨sb, 0, none⟩)] w fun e w' => e = .returned (.int .i64 (median ltInt d a b c v).1) ∧ PSt w' w0 B g cap sb d (median ltInt d a b c v).2 := by
  unfold median
  have r1 := order2_any g cap B sb d w0 hne hBs hsz a b v w h ha hb (by omega)
  have b1 := order2_lt d a b v d.size ha hb
  generalize order2 ltInt d a b v = R1 at r1 b1 ⊢
  obtain ⟨x1, y1, v1⟩ := R1
  have r2 := fun W hW => order2_any g cap B sb d w0 hne hBs hsz y1 c v1 W hW b1.2.1 hc (by have := b1.2.2; simp at this; omega)
  have b2 := order2_lt d y1 c v1 d.size b1.2.1 hc
  simp only at b1 r1 ⊢
  generalize order2 ltInt d y1 c v1 = R2 at r2 b2 ⊢
  obtain ⟨x2, y2, v2⟩ := R2
  simp only at b2 r2 ⊢
  have r3 := fun W hW => order2_any g cap B sb d w0 hne hBs hsz x1 x2 v2 W hW b1.1 b2.1 (by omega)
  generalize order2 ltInt d x1 x2 v2 = R3 at r3 ⊢
  obtain ⟨x3, y3, v3⟩ := R3
  simp only at r3 ⊢
  clear h
  go_enter Try.func65, Try.ntmps65
  go_wp2_with fail
  refine r1.mono ?_
  rintro e w1 ⟨rfl, p1⟩
  clear r1
  go_wp2_with fail
  refine (r2 _ p1).mono ?_
  rintro e w2 ⟨rfl, p2⟩
  clear r2 p1
  go_wp2_with fail
  refine (r3 _ p2).mono ?_
  rintro e w3 ⟨rfl, p3⟩
  clear r3 p2
  go_wp2_with fail
  go_ret
  exact ⟨rfl, p3⟩
theorem median_lt (d : Array Int) (a b c v n : Nat) (ha : a < n) (hb : b < n) (hc : c < n) : (median ltInt d a b c v).1 < n ∧ (median ltInt d a b c v).2 ≤ v + 3 := by
  unfold median
  have b1 := order2_lt d a b v n ha hb
  have b2 := order2_lt d (order2 ltInt d a b v).2.1 c (order2 ltInt d a b v).2.2 n b1.2.1 hc
  have b3 := order2_lt d (order2 ltInt d a b v).1 (order2 ltInt d (order2 ltInt d a b v).2.1 c (order2 ltInt d a b v).2.2).1 (order2 ltInt d (order2 ltInt d a b v).2.1 c (order2 ltInt d a b v).2.2).2.2 n b1.1 b2.1
  simp only
  exact ⟨b3.2.1, by omega⟩

set_option maxHeartbeats 2000000 in
theorem medianAdj_any (g cap B sb : Nat) (d : Array Int) (w0 : World) (hne : g ≠ sb) (hBs : B ≤ sb) (hsz : d.size ≤ 1000000) (a v : Nat) (w : World) (h : PSt w w0 B g cap sb d v) (ha1 : 1 ≤ a) (ha : a + 1 < d.size) (hv : v ≤ 90) :
    Calls Try.prog 64 #[.slice (some ⟨g, 0, none⟩) d.size cap, .int .i64 a, .pointer (some ⟨sb, 0, none⟩)] w fun e w' => e = .returned (.int .i64 (medianAdjacent ltInt d a v).1) ∧ PSt w' w0 B g cap sb d (medianAdjacent ltInt d a v).2 := by
  unfold medianAdjacent
  have r1 := median_any g cap B sb d w0 hne hBs hsz (a - 1) a (a + 1) v w h (by omega) (by omega) (by omega) hv
  generalize median ltInt d (a - 1) a (a + 1) v = R at r1 ⊢
  have e1 : (a : Int) - 1 = ((a - 1 : Nat) : Int) := by omega
  have e2 : ((a + 1 : Nat) : Int) = (a : Int) + 1 := by omega
  rw [e2] at r1
  clear e2 h
  go_enter Try.func64, Try.ntmps64
  go_wp2_with fail
  refine r1.mono ?_
  rintro e w1 ⟨rfl, p1⟩
  go_wp2_with fail
  go_ret
  exact ⟨rfl, p1⟩
end Go.Proofs.Ytpajojkhpnklfaa
