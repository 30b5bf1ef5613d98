/- The library's sort of lists of categories, piece by piece: the row holds what the plain function (Go.Sort, the library's) says. -/
import Derived.Test.YtpajojkhpnklfaaMem
import Derived.Sort.Statements
import Derived.BigRegion
import Derived.BigGuard
import Derived.BigCall
namespace Go.Proofs.Ytpajojkhpnklfaa
open Go.RowKit Go.Sort

/-- The row of the call's own at block g holds the numbers d. -/
def OwnA (w : World) (B g cap : Nat) (d : Array Int) : Prop := OwnW 27 w B (some ⟨g, 0, none⟩) d.size cap d.toList
theorem getD_arr (d : Array Int) (i : Nat) : d.toList.getD i 0 = d[i]! := by
  rw [List.getD_eq_getElem?_getD, Array.getElem?_toList, Array.getElem!_eq_getD, Array.getD_eq_getD_getElem?]; rfl
theorem OwnA.cell {w : World} {B g cap : Nat} {d : Array Int} (h : OwnA w B g cap d) (i : Nat) (hi : i < d.size) : w.cell? ⟨g, i, none⟩ = some (.int .u16 d[i]!) := by
  rw [OwnW.cell h i hi, getD_arr]
theorem OwnA.melt {w : World} {B g cap : Nat} {d : Array Int} (h : OwnA w B g cap d) (i : Nat) : w.frozen? ⟨g, i, none⟩ = false := OwnW.melt h i
theorem OwnA.drewN {w : World} {B g cap : Nat} {d : Array Int} (h : OwnA w B g cap d) (k : Nat) : OwnA (w.drewN k) B g cap d := OwnW.drewN h k
theorem swp_size (d : Array Int) (i j : Nat) : (swp d i j).size = d.size := by simp [swp]
theorem OwnA.swap {w : World} {B g cap : Nat} {d : Array Int} (h : OwnA w B g cap d) (i j : Nat) (_ : i < d.size) (_ : j < d.size) :
    OwnA ((w.setCell ⟨g, i, none⟩ (.int .u16 d[j]!)).setCell ⟨g, j, none⟩ (.int .u16 d[i]!)) B g cap (swp d i j) := by
  have hi' := h.2.1.get i
  have hj' := h.2.1.get j
  rw [getD_arr] at hi' hj'
  have h1 := (OwnW.set h i d[j]! hj').set j d[i]! hi'
  unfold OwnA
  rw [swp_size]
  simpa [swp] using h1
theorem OwnA.lt {w : World} {B g cap : Nat} {d : Array Int} (h : OwnA w B g cap d) : B ≤ g ∧ g < w.heap.size := OwnW.lt h

set_option maxHeartbeats 2000000 in
theorem insSort_any (g cap B a b : Nat) (d : Array Int) (w : World) (hown : OwnA w B g cap d) (w0 : World) (hb0 : Below B w0 w) (hab : a ≤ b) (hb : b ≤ d.size) (hsz : d.size ≤ 1000000) :
    Calls Try.prog 50 #[.slice (some ⟨g, 0, none⟩) d.size cap, .int .i64 a, .int .i64 b] w fun e w' => e = .returned (.tuple #[]) ∧ OwnA w' B g cap (insertionSort ltInt d a b) ∧ (insertionSort ltInt d a b).size = d.size ∧ Below B w0 w' := by
  have hBg := hown.lt.1
  obtain ⟨n, hn⟩ : ∃ n, n = d.size := ⟨_, rfl⟩
  obtain ⟨D, hD⟩ : ∃ D, D = insertionSort ltInt d a b := ⟨_, rfl⟩
  rw [← hn] at hb hsz ⊢
  rw [← hD]
  have HD : Hid (insOuter ltInt a b (a + 1) d = D) := hD.symm
  have HN : Hid (d.size = n) := hn.symm
  clear hD hn
  go_enter Try.func50, Try.ntmps50
  go_wp2_with fail
  go_loopw [6] (fun iv wr => ∃ (i : Nat) (dk : Array Int), a + 1 ≤ i ∧ (i ≤ b ∨ i = a + 1) ∧ iv = .int .i64 i ∧ OwnA wr B g cap dk ∧ dk.size = n ∧ Below B w0 wr ∧ insOuter ltInt a b i dk = D) (fun iv _ => b - (intOf iv).toNat)
  case atStart => exact ⟨a + 1, d, by omega, .inr rfl, by go_num, hown, HN.out, hb0, HD.out⟩
  case round =>
    clear hown hb0
    obtain ⟨i, dk, hi1, hi2, rfl, hown, hdk, hb0, hD⟩ := hrel
    have HD2 : Hid (insOuter ltInt a b i dk = D) := hD
    have HK : Hid (dk.size = n) := hdk
    clear hD hdk
    by_cases hlt : i < b
    · have p1 : (i : Int) < (b : Int) := by omega
      go_wp2_with fail
      obtain ⟨wo, rfl⟩ : ∃ x, x = wr := ⟨_, rfl⟩
      go_loopw [7] (fun jv wi => ∃ (j : Nat) (dj : Array Int), a ≤ j ∧ j ≤ i ∧ jv = .int .i64 j ∧ OwnA wi B g cap dj ∧ dj.size = n ∧ Below B w0 wi ∧ insOuter ltInt a b (i + 1) (insInner ltInt a j dj) = D) (fun jv _ => (intOf jv).toNat)
      case atStart =>
        refine ⟨i, dk, by omega, by omega, rfl, hown, HK.out, hb0, ?_⟩
        have := HD2.out
        rwa [insOuter, if_pos hlt] at this
      case round =>
        clear hown hb0 HD2
        obtain ⟨j, dj, hj1, hj2, rfl, hown, hdj, hb0, hD⟩ := hrel
        have HD2 : Hid (insOuter ltInt a b (i + 1) (insInner ltInt a j dj) = D) := hD
        have HJ : Hid (dj.size = n) := hdj
        clear hD hdj
        by_cases hja : a < j
        · have p2 : (j : Int) > (a : Int) := by omega
          have p3 : (j : Int) < (n : Int) := by omega
          have hq : ((j : Int) - 1) = ((j - 1 : Nat) : Int) := by omega
          have c1 := hown.cell j (by rw [HJ.out]; omega)
          have c2 := hown.cell (j - 1) (by rw [HJ.out]; omega)
          have m1 := hown.melt j
          have m2 := hown.melt (j - 1)
          have hsw := hown.swap j (j - 1) (by rw [HJ.out]; omega) (by rw [HJ.out]; omega)
          have hsz2 := swp_size dj j (j - 1)
          have HS : Hid (insInner ltInt a j dj = if ltInt dj[j]! dj[j - 1]! = true then insInner ltInt a (j - 1) (swp dj j (j - 1)) else dj) := by
            show _ = _
            obtain ⟨j', rfl⟩ : ∃ j', j = j' + 1 := ⟨j - 1, by omega⟩
            rw [insInner]
            simp [hja]
          generalize hX : dj[j]! = X at c1 hsw HS
          generalize hY : dj[j - 1]! = Y at c2 hsw HS
          clear hX hY
          by_cases hXY : X < Y
          · have hXY' : decide (X < Y) = true := by simpa using hXY
            go_wp2_with fail
            go_quiet (first | (go_at_call 46; refine Calls.quiet_of_same (less_any X Y _)))
            go_wp2_with fail
            go_region
            all_goals go_wp2
            go_roundw
            case rel =>
              refine ⟨j - 1, swp dj j (j - 1), by omega, by omega, by go_num, ?_, by rw [hsz2]; exact HJ.out, ?_, ?_⟩
              · exact hsw.drewN _
              · exact ((bel_drewN hb0 _).setCell hBg _).setCell hBg _
              · have h1 := HD2.out
                rwa [HS.out, if_pos (by simp [ltInt, hXY])] at h1
            case measure => simp [intOf]; omega
          · have hXY' : decide (X < Y) = false := by simpa using hXY
            go_wp2_with fail
            go_quiet (first | (go_at_call 46; refine Calls.quiet_of_same (less_any X Y _)))
            go_wp2_with fail
            go_roundw
            case rel =>
              refine ⟨i + 1, dj, by omega, by omega, by go_num, hown.drewN _, HJ.out, bel_drewN hb0 _, ?_⟩
              have h1 := HD2.out
              rwa [HS.out, if_neg (by simp [ltInt, hXY])] at h1
            case measure => simp [intOf]; omega
        · obtain rfl : a = j := by omega
          have p2 : decide ((a : Int) < (a : Int)) = false := by simp
          go_wp2_with fail
          go_quiet (first | (go_at_call 46; refine Calls.quiet_of_same (less_any 0 0 _)))
          go_wp2_with fail
          go_roundw
          case rel =>
            refine ⟨i + 1, dj, by omega, by omega, by go_num, hown.drewN _, HJ.out, bel_drewN hb0 _, ?_⟩
            have h1 := HD2.out
            have h2 : insInner ltInt a a dj = dj := by
              cases a with
              | zero => rfl
              | succ a => rw [insInner]; simp
            rwa [h2] at h1
          case measure => simp [intOf]; omega
    · have p1 : decide ((i : Int) < (b : Int)) = false := by simp; omega
      go_wp2_with fail
      go_end0
      have h1 := HD2.out
      rw [insOuter, if_neg hlt] at h1
      subst h1
      exact ⟨rfl, hown, HK.out, hb0⟩

end Go.Proofs.Ytpajojkhpnklfaa
