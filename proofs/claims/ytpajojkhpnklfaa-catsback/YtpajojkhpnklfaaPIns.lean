/- The library's partial insertion sort of lists of categories: the row holds what the plain function says. -/
import Derived.Test.YtpajojkhpnklfaaHeap
import Derived.Deep.CutRange
namespace Go.Proofs.Ytpajojkhpnklfaa
open Go.RowKit Go.Sort

theorem scanSorted_go2 (d : Array Int) (b i : Nat) (h : i < b) (hp : ltInt d[i]! d[i - 1]! = false) : scanSorted ltInt d b i = scanSorted ltInt d b (i + 1) := by
  rw [scanSorted, if_pos (by simp [h, hp])]
theorem scanSorted_end2 (d : Array Int) (b i : Nat) (h : ¬ i < b ∨ ltInt d[i]! d[i - 1]! = true) : scanSorted ltInt d b i = i := by
  rw [scanSorted, if_neg (by rcases h with h | h <;> simp [h])]
theorem shiftDown_stop (d : Array Int) (j : Nat) (h : ltInt d[j]! d[j - 1]! = false) : shiftDown ltInt j d = d := by
  cases j with
  | zero => rfl
  | succ k => rw [shiftDown, if_pos (by simpa using h)]
theorem shiftDown_go (d : Array Int) (j : Nat) (h0 : 0 < j) (h : ltInt d[j]! d[j - 1]! = true) : shiftDown ltInt j d = shiftDown ltInt (j - 1) (swp d j (j - 1)) := by
  obtain ⟨k, rfl⟩ : ∃ k, j = k + 1 := ⟨j - 1, by omega⟩
  rw [shiftDown, if_neg (by simpa using h)]; rfl
theorem shiftUp_stop (d : Array Int) (b j : Nat) (h : ltInt d[j]! d[j - 1]! = false) : shiftUp ltInt b j d = d := by
  rw [shiftUp]; split
  · rw [if_pos (by simpa using h)]
  · rfl
theorem shiftUp_go (d : Array Int) (b j : Nat) (hj : j < b) (h : ltInt d[j]! d[j - 1]! = true) : shiftUp ltInt b j d = shiftUp ltInt b (j + 1) (swp d j (j - 1)) := by
  rw [shiftUp, if_pos hj, if_neg (by simpa using h)]
theorem shiftUp_end (d : Array Int) (b j : Nat) (hj : ¬ j < b) : shiftUp ltInt b j d = d := by rw [shiftUp, if_neg hj]

set_option maxRecDepth 100000 in
set_option maxHeartbeats 8000000 in
theorem partialIns_any (g cap B a b : Nat) (d : Array Int) (w : World) (hown : OwnA w B g cap d) (w0 : World) (hb0 : RowKit.Below B w0 w) (hab : a < b) (hb' : b ≤ d.size) (hsz : d.size ≤ 1000000) :
    Calls Try.prog 55 #[.slice (some ⟨g, 0, none⟩) d.size cap, .int .i64 a, .int .i64 b] w fun e w' => e = .returned (.bool (partialInsertionSort ltInt d a b).2) ∧ OwnA w' B g cap (partialInsertionSort ltInt d a b).1 ∧ (partialInsertionSort ltInt d a b).1.size = d.size ∧ RowKit.Below B w0 w' := by
  have hBg := hown.lt.1
  obtain ⟨n, hn⟩ : ∃ n, n = d.size := ⟨_, rfl⟩
  obtain ⟨D, hD⟩ : ∃ D, D = partialInsertionSort ltInt d a b := ⟨_, rfl⟩
  have hbn : b ≤ n := by omega
  have hsz' : n ≤ 1000000 := by omega
  rw [← hn, ← hD]
  have HD : Hid (partialIns ltInt a b 5 (a + 1) d = D) := hD.symm
  have HN : Hid (d.size = n) := hn.symm
  clear hD hn hsz hb'
  go_enter Try.func55, Try.ntmps55
  go_wp2_with fail
  go_loopw [7, 8] (fun iv sv wr => ∃ (i s : Nat) (dk : Array Int), a + 1 ≤ i ∧ i ≤ b ∧ s ≤ 5 ∧ iv = .int .i64 i ∧ sv = .int .i64 s ∧ OwnA wr B g cap dk ∧ dk.size = n ∧ RowKit.Below B w0 wr ∧ partialIns ltInt a b (5 - s) i dk = D) (fun _ sv _ => 5 - (intOf sv).toNat)
  case atStart => exact ⟨a + 1, 0, d, by omega, by omega, by omega, by go_num, rfl, hown, HN.out, hb0, HD.out⟩
  case round =>
    clear hown hb0 HD HN
    obtain ⟨i, s, dk, hi1, hi2, hs5, rfl, rfl, ho, hdk, hb, hD⟩ := hrel
    have HK : Hid (dk.size = n) := hdk
    have HD : Hid (partialIns ltInt a b (5 - s) i dk = D) := hD
    clear hD hdk
    by_cases hs : s < 5
    · have p1 : (s : Int) < 5 := by omega
      refine wp_seq_k fun Ka hKa => ?_
      have HKa : Hid (∀ a w, _ → Ka a w) := hKa
      clear hKa
      go_wp2_with fail
      refine HKa.out _ _ ?_
      clear HKa
      refine wp_seq_k fun Kb hKb => ?_
      refine wp_block ?_
      refine wp_seq_k fun Kc hKc => ?_
      go_cut [7] from 13 to 132 (fun s7 wc => ∃ m : Nat, m = scanSorted ltInt dk b i ∧ s7 = .int .i64 m ∧ OwnA wc B g cap dk ∧ RowKit.Below B w0 wc ∧ i ≤ m ∧ m ≤ b)
      case first =>
        go_wp2_with fail
        go_loopw [7] (fun v wr => ∃ m : Nat, i ≤ m ∧ m ≤ b ∧ v = .int .i64 m ∧ OwnA wr B g cap dk ∧ RowKit.Below B w0 wr ∧ scanSorted ltInt dk b m = scanSorted ltInt dk b i) (fun v _ => b - (intOf v).toNat)
        case atStart => exact ⟨i, Nat.le_refl _, by omega, rfl, ho, hb, rfl⟩
        case round =>
          clear ho hb
          obtain ⟨m, hm1, hm2, rfl, ho, hb, hsc⟩ := hrel
          have HSC : Hid (_ = _) := hsc
          clear hsc
          by_cases hg : m < b
          · have g1 : (m : Int) < (b : Int) := by omega
            have g2 : (m : Int) < (n : Int) := by omega
            have hq : (m : Int) - 1 = ((m - 1 : Nat) : Int) := by omega
            have c1 := ho.cell m (by rw [HK.out]; omega)
            have c2 := ho.cell (m - 1) (by rw [HK.out]; omega)
            have m1 := ho.melt m
            have m2 := ho.melt (m - 1)
            have hsw := ho.swap m (m - 1) (by rw [HK.out]; omega) (by rw [HK.out]; omega)
            have hss := swp_size dk m (m - 1)
            obtain ⟨X, hX0⟩ : ∃ X, X = dk[m]! := ⟨_, rfl⟩
            obtain ⟨Y, hY0⟩ : ∃ Y, Y = dk[m - 1]! := ⟨_, rfl⟩
            rw [← hX0] at c1 hsw
            rw [← hY0] at c2 hsw
            have HX : Hid (X = dk[m]!) := hX0
            have HY : Hid (Y = dk[m - 1]!) := hY0
            clear hX0 hY0
            by_cases hXY : X < Y
            · have hXY' : decide (X < Y) = true := by simpa using hXY
              go_wp2_with fail
              go_quiet (first | (go_at_call 46; refine Calls.quiet_of_same (less_any X Y _)))
              go_wp2_with fail
              have hI : m = scanSorted ltInt dk b i := ((scanSorted_end2 dk b m (Or.inr (by simp [ltInt, ← HX.out, ← HY.out, hXY]))).symm.trans HSC.out)
              go_meet
              case rel => exact ⟨m, hI, rfl, ho.drewN _, bel_drewN hb _, by omega, by omega⟩
            · have hXY' : decide (X < Y) = false := by simpa using hXY
              go_wp2_with fail
              go_quiet (first | (go_at_call 46; refine Calls.quiet_of_same (less_any X Y _)))
              go_wp2_with fail
              go_roundw
              case rel => exact ⟨m + 1, by omega, by omega, by go_num, ho.drewN _, bel_drewN hb _, ((scanSorted_go2 dk b m hg (by simp [ltInt, ← HX.out, ← HY.out]; omega)).symm.trans HSC.out)⟩
              case measure => simp [intOf]; omega
          · have g1 : decide ((m : Int) < (b : Int)) = false := by simp; omega
            have g2 : ¬ (m : Int) < (b : Int) := by omega
            go_wp2_with fail
            go_quiet (first | (go_at_call 46; refine Calls.quiet_of_same (less_any 0 0 _)))
            go_wp2_with fail
            have hI : m = scanSorted ltInt dk b i := ((scanSorted_end2 dk b m (Or.inl hg)).symm.trans HSC.out)
            go_meet
            case rel => exact ⟨m, hI, rfl, ho.drewN _, bel_drewN hb _, by omega, by omega⟩
      case rest =>
        clear ho hb
        obtain ⟨i2, hI, rfl, ho, hb, hi3, hi4⟩ := hcut
        have HI : Hid (i2 = scanSorted ltInt dk b i) := hI
        clear hI
        refine hKc _ _ ?_
        clear hKc
        obtain ⟨t, ht⟩ : ∃ t, 5 - s = t + 1 := ⟨4 - s, by omega⟩
        have HT : Hid (partialIns ltInt a b (t + 1) i dk = D) := by show _ = _; rw [← ht]; exact HD.out
        by_cases hib : i2 = b
        · subst hib
          go_wp2_with fail
          go_ret
          have h1 := HT.out
          rw [partialIns] at h1
          simp only [← HI.out, if_true] at h1
          subst h1
          exact ⟨rfl, ho, HK.out, hb⟩
        · have q1 : ((i2 : Int) == (b : Int)) = false := by simp; omega
          have q2 : ¬ (i2 : Int) = (b : Int) := by omega
          by_cases h50 : b - a < 50
          · have q3 : (b : Int) - (a : Int) < 50 := by omega
            go_wp2_with fail
            go_ret
            have h1 := HT.out
            rw [partialIns] at h1
            simp only [← HI.out, if_neg hib, if_pos h50] at h1
            subst h1
            exact ⟨rfl, ho, HK.out, hb⟩
          · have q3 : decide ((b : Int) - (a : Int) < 50) = false := by simp; omega
            have q4 : ¬ (b : Int) - (a : Int) < 50 := by omega
            have g2 : (i2 : Int) < (n : Int) := by omega
            have hq : (i2 : Int) - 1 = ((i2 - 1 : Nat) : Int) := by omega
            obtain ⟨d1, hd1⟩ : ∃ d1, d1 = swp dk i2 (i2 - 1) := ⟨_, rfl⟩
            obtain ⟨d2, hd2⟩ : ∃ d2, d2 = if i2 - a ≥ 2 then shiftDown ltInt (i2 - 1) d1 else d1 := ⟨_, rfl⟩
            obtain ⟨d3, hd3⟩ : ∃ d3, d3 = if b - i2 ≥ 2 then shiftUp ltInt b (i2 + 1) d2 else d2 := ⟨_, rfl⟩
            have HE : Hid (partialIns ltInt a b t i2 d3 = D) := by
              show _ = _
              have h1 := HT.out
              rw [partialIns] at h1
              simp only [← HI.out, if_neg hib, if_neg h50, ← hd1, ← hd2, ← hd3] at h1
              exact h1
            have HD2 : Hid (d2 = if i2 - a ≥ 2 then shiftDown ltInt (i2 - 1) d1 else d1) := hd2
            have HD3 : Hid (d3 = if b - i2 ≥ 2 then shiftUp ltInt b (i2 + 1) d2 else d2) := hd3
            have c1 := ho.cell i2 (by rw [HK.out]; omega)
            have c2 := ho.cell (i2 - 1) (by rw [HK.out]; omega)
            have m1 := ho.melt i2
            have m2 := ho.melt (i2 - 1)
            have hsw := ho.swap i2 (i2 - 1) (by rw [HK.out]; omega) (by rw [HK.out]; omega)
            have hss := swp_size dk i2 (i2 - 1)
            obtain ⟨X, hX0⟩ : ∃ X, X = dk[i2]! := ⟨_, rfl⟩
            obtain ⟨Y, hY0⟩ : ∃ Y, Y = dk[i2 - 1]! := ⟨_, rfl⟩
            rw [← hX0] at c1 hsw
            rw [← hY0] at c2 hsw
            have HX : Hid (X = dk[i2]!) := hX0
            have HY : Hid (Y = dk[i2 - 1]!) := hY0
            clear hX0 hY0
            rw [← hd1] at hsw hss
            clear hd1 hd2 hd3 HT HI HD
            go_wp2_with fail
            rename_i K0 hK0
            go_region
            refine hK0 _ _ ?_
            clear hK0
            have ho1 := hsw.drewN 1
            have hb1 := bel_drewN ((hb.setCell (p := ⟨g, i2, none⟩) hBg (.int .u16 Y)).setCell (p := ⟨g, i2 - 1, none⟩) hBg (.int .u16 X)) 1
            have HK1 : Hid (d1.size = n) := by show _ = _; rw [hss]; exact HK.out
            clear ho hb c1 c2 m1 m2 hsw hss HX HY HK
            refine wp_seq_k fun Kd hKd => ?_
            go_cut [] from 13 to 132 (fun wc => OwnA wc B g cap d2 ∧ d2.size = n ∧ RowKit.Below B w0 wc)
            case first =>
              by_cases h2 : i2 - a ≥ 2
              · have q5 : (i2 : Int) - (a : Int) ≥ 2 := by omega
                have HF : Hid (d2 = shiftDown ltInt (i2 - 1) d1) := by show _ = _; rw [HD2.out, if_pos h2]
                go_wp2_with fail
                go_loopw [9] (fun v wr => ∃ (m : Nat) (dk : Array Int), m ≤ i2 ∧ v = .int .i64 m ∧ OwnA wr B g cap dk ∧ dk.size = n ∧ RowKit.Below B w0 wr ∧ shiftDown ltInt m dk = d2) (fun v _ => (intOf v).toNat)
                case atStart => exact ⟨i2 - 1, d1, by omega, by go_num, ho1, HK1.out, hb1, HF.out.symm⟩
                case round =>
                  clear ho1 hb1 HK1
                  obtain ⟨m, dk, hm1, rfl, ho, hdk, hb, hsc⟩ := hrel
                  have HK : Hid (dk.size = n) := hdk
                  have HSC : Hid (_ = _) := hsc
                  clear hsc hdk
                  by_cases hg : 1 ≤ m
                  · have g1 : (m : Int) ≥ 1 := by omega
                    have g3 : (m : Int) < (n : Int) := by omega
                    have hq2 : (m : Int) - 1 = ((m - 1 : Nat) : Int) := by omega
                    have c1 := ho.cell m (by rw [HK.out]; omega)
                    have c2 := ho.cell (m - 1) (by rw [HK.out]; omega)
                    have m1 := ho.melt m
                    have m2 := ho.melt (m - 1)
                    have hsw := ho.swap m (m - 1) (by rw [HK.out]; omega) (by rw [HK.out]; omega)
                    have hss := swp_size dk m (m - 1)
                    obtain ⟨X, hX0⟩ : ∃ X, X = dk[m]! := ⟨_, rfl⟩
                    obtain ⟨Y, hY0⟩ : ∃ Y, Y = dk[m - 1]! := ⟨_, rfl⟩
                    rw [← hX0] at c1 hsw
                    rw [← hY0] at c2 hsw
                    have HX : Hid (X = dk[m]!) := hX0
                    have HY : Hid (Y = dk[m - 1]!) := hY0
                    clear hX0 hY0
                    by_cases hXY : X < Y
                    · have hXY' : decide (X < Y) = true := by simpa using hXY
                      go_wp2_with fail
                      go_quiet (first | (go_at_call 46; refine Calls.quiet_of_same (less_any X Y _)))
                      go_wp2_with fail
                      go_region
                      all_goals go_wp2
                      go_roundw
                      case rel => exact ⟨m - 1, swp dk m (m - 1), by omega, by go_num, hsw.drewN _, by rw [hss]; exact HK.out, bel_drewN ((hb.setCell (p := ⟨g, m, none⟩) hBg _).setCell (p := ⟨g, m - 1, none⟩) hBg _) _, by rw [← HSC.out, shiftDown_go dk m (by omega) (by simp [ltInt, ← HX.out, ← HY.out, hXY])]⟩
                      case measure => simp [intOf]; omega
                    · have hXY' : decide (X < Y) = false := by simpa using hXY
                      go_wp2_with fail
                      go_quiet (first | (go_at_call 46; refine Calls.quiet_of_same (less_any X Y _)))
                      go_wp2_with fail
                      have hE : dk = d2 := by rw [← HSC.out, shiftDown_stop dk m (by simp [ltInt, ← HX.out, ← HY.out]; omega)]
                      go_meet
                      case rel => exact ⟨hE ▸ ho.drewN _, hE ▸ HK.out, bel_drewN hb _⟩
                  · obtain rfl : m = 0 := by omega
                    go_wp2_with fail
                    have hE : dk = d2 := HSC.out
                    go_meet
                    case rel => exact ⟨hE ▸ ho, hE ▸ HK.out, hb⟩
              · have q5 : decide ((i2 : Int) - (a : Int) ≥ 2) = false := by simp; omega
                have q6 : ¬ (i2 : Int) - (a : Int) ≥ 2 := by omega
                have hE : d1 = d2 := by rw [HD2.out, if_neg h2]
                go_wp2_with fail
                go_meet
                case rel => exact ⟨hE ▸ ho1, hE ▸ HK1.out, hb1⟩
            case rest =>
              clear ho1 hb1 HK1
              obtain ⟨ho, hdk2, hb⟩ := hcut
              have HK2 : Hid (d2.size = n) := hdk2
              clear hdk2
              refine hKd _ _ ?_
              clear hKd
              have hT : 5 - (s + 1) = t := by omega
              have HE2 : Hid (partialIns ltInt a b (5 - (s + 1)) i2 d3 = D) := by show _ = _; rw [hT]; exact HE.out
              by_cases h2 : b - i2 ≥ 2
              · have q5 : (b : Int) - (i2 : Int) ≥ 2 := by omega
                have HF : Hid (d3 = shiftUp ltInt b (i2 + 1) d2) := by show _ = _; rw [HD3.out, if_pos h2]
                go_wp2_with fail
                go_loopw [10] (fun v wr => ∃ (m : Nat) (dk : Array Int), i2 + 1 ≤ m ∧ m ≤ b ∧ v = .int .i64 m ∧ OwnA wr B g cap dk ∧ dk.size = n ∧ RowKit.Below B w0 wr ∧ shiftUp ltInt b m dk = d3) (fun v _ => b - (intOf v).toNat)
                case atStart => exact ⟨i2 + 1, d2, by omega, by omega, by go_num, ho, HK2.out, hb, HF.out.symm⟩
                case round =>
                  clear ho hb HK2
                  obtain ⟨m, dk, hm1, hm2, rfl, ho, hdk, hb, hsc⟩ := hrel
                  have HK : Hid (dk.size = n) := hdk
                  have HSC : Hid (_ = _) := hsc
                  clear hsc hdk
                  by_cases hg : m < b
                  · have g1 : (m : Int) < (b : Int) := by omega
                    have g3 : (m : Int) < (n : Int) := by omega
                    have hq2 : (m : Int) - 1 = ((m - 1 : Nat) : Int) := by omega
                    have c1 := ho.cell m (by rw [HK.out]; omega)
                    have c2 := ho.cell (m - 1) (by rw [HK.out]; omega)
                    have m1 := ho.melt m
                    have m2 := ho.melt (m - 1)
                    have hsw := ho.swap m (m - 1) (by rw [HK.out]; omega) (by rw [HK.out]; omega)
                    have hss := swp_size dk m (m - 1)
                    obtain ⟨X, hX0⟩ : ∃ X, X = dk[m]! := ⟨_, rfl⟩
                    obtain ⟨Y, hY0⟩ : ∃ Y, Y = dk[m - 1]! := ⟨_, rfl⟩
                    rw [← hX0] at c1 hsw
                    rw [← hY0] at c2 hsw
                    have HX : Hid (X = dk[m]!) := hX0
                    have HY : Hid (Y = dk[m - 1]!) := hY0
                    clear hX0 hY0
                    by_cases hXY : X < Y
                    · have hXY' : decide (X < Y) = true := by simpa using hXY
                      go_wp2_with fail
                      go_quiet (first | (go_at_call 46; refine Calls.quiet_of_same (less_any X Y _)))
                      go_wp2_with fail
                      go_region
                      all_goals go_wp2
                      go_roundw
                      case rel => exact ⟨m + 1, swp dk m (m - 1), by omega, by omega, by go_num, hsw.drewN _, by rw [hss]; exact HK.out, bel_drewN ((hb.setCell (p := ⟨g, m, none⟩) hBg _).setCell (p := ⟨g, m - 1, none⟩) hBg _) _, by rw [← HSC.out, shiftUp_go dk b m hg (by simp [ltInt, ← HX.out, ← HY.out, hXY])]⟩
                      case measure => simp [intOf]; omega
                    · have hXY' : decide (X < Y) = false := by simpa using hXY
                      go_wp2_with fail
                      go_quiet (first | (go_at_call 46; refine Calls.quiet_of_same (less_any X Y _)))
                      go_wp2_with fail
                      have hE : dk = d3 := by rw [← HSC.out, shiftUp_stop dk b m (by simp [ltInt, ← HX.out, ← HY.out]; omega)]
                      go_roundw
                      case rel =>
                        have hrel2 : ∃ (i' s' : Nat) (dk' : Array Int), a + 1 ≤ i' ∧ i' ≤ b ∧ s' ≤ 5 ∧ Value.int .i64 i2 = .int .i64 i' ∧ Value.int .i64 ((s : Int) + 1) = .int .i64 s' ∧ OwnA (wr.drewN nq) B g cap dk' ∧ dk'.size = n ∧ RowKit.Below B w0 (wr.drewN nq) ∧ partialIns ltInt a b (5 - s') i' dk' = D := ⟨i2, s + 1, d3, by omega, by omega, by omega, rfl, by go_num, hE ▸ ho.drewN nq, hE ▸ HK.out, bel_drewN hb nq, HE2.out⟩
                        first | exact hrel2 | ((repeat apply Exists.intro); exact ⟨hrel2, rfl⟩)
                      case measure => simp [intOf]; omega
                  · have g1 : decide ((m : Int) < (b : Int)) = false := by simp; omega
                    have g2 : ¬ (m : Int) < (b : Int) := by omega
                    go_wp2_with fail
                    have hE : dk = d3 := by rw [← HSC.out, shiftUp_end dk b m hg]
                    go_roundw
                    case rel =>
                      have hrel2 : ∃ (i' s' : Nat) (dk' : Array Int), a + 1 ≤ i' ∧ i' ≤ b ∧ s' ≤ 5 ∧ Value.int .i64 i2 = .int .i64 i' ∧ Value.int .i64 ((s : Int) + 1) = .int .i64 s' ∧ OwnA (wr) B g cap dk' ∧ dk'.size = n ∧ RowKit.Below B w0 (wr) ∧ partialIns ltInt a b (5 - s') i' dk' = D := ⟨i2, s + 1, d3, by omega, by omega, by omega, rfl, by go_num, hE ▸ ho, hE ▸ HK.out, hb, HE2.out⟩
                      first | exact hrel2 | ((repeat apply Exists.intro); exact ⟨hrel2, rfl⟩)
                    case measure => simp [intOf]; omega
              · have q5 : decide ((b : Int) - (i2 : Int) ≥ 2) = false := by simp; omega
                have q6 : ¬ (b : Int) - (i2 : Int) ≥ 2 := by omega
                have hE : d2 = d3 := by rw [HD3.out, if_neg h2]
                go_wp2_with fail
                go_roundw
                case rel =>
                  have hrel2 : ∃ (i' s' : Nat) (dk' : Array Int), a + 1 ≤ i' ∧ i' ≤ b ∧ s' ≤ 5 ∧ Value.int .i64 i2 = .int .i64 i' ∧ Value.int .i64 ((s : Int) + 1) = .int .i64 s' ∧ OwnA (wc) B g cap dk' ∧ dk'.size = n ∧ RowKit.Below B w0 (wc) ∧ partialIns ltInt a b (5 - s') i' dk' = D := ⟨i2, s + 1, d3, by omega, by omega, by omega, rfl, by go_num, hE ▸ ho, hE ▸ HK2.out, hb, HE2.out⟩
                  first | exact hrel2 | ((repeat apply Exists.intro); exact ⟨hrel2, rfl⟩)
                case measure => simp [intOf]; omega
    · obtain rfl : s = 5 := by omega
      go_wp2_with fail
      go_ret
      have h1 := HD.out
      rw [show 5 - 5 = 0 from rfl, partialIns] at h1
      subst h1
      exact ⟨rfl, ho, HK.out, hb⟩
end Go.Proofs.Ytpajojkhpnklfaa
