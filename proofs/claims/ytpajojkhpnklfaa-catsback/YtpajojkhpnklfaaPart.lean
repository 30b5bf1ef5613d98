/- The library's two partitions of lists of categories: the row holds what the plain function says. -/
import Derived.Test.YtpajojkhpnklfaaHeap
import Derived.Deep.CutRange
namespace Go.Proofs.Ytpajojkhpnklfaa
open Go.RowKit Go.Sort

theorem scanUp_go2 (p : Int → Bool) (d : Array Int) (j i : Nat) (h : i ≤ j) (hp : p d[i]! = true) : scanUp p d j i = scanUp p d j (i + 1) := by
  rw [scanUp, if_pos (by simp [h, hp])]
theorem scanUp_end2 (p : Int → Bool) (d : Array Int) (j i : Nat) (h : ¬ i ≤ j ∨ p d[i]! = false) : scanUp p d j i = i := by
  rw [scanUp, if_neg (by rcases h with h | h <;> simp [h])]
theorem scanDown_go2 (p : Int → Bool) (d : Array Int) (i j : Nat) (h : i ≤ j) (h0 : 0 < j) (hp : p d[j]! = true) : scanDown p d i j = scanDown p d i (j - 1) := by
  obtain ⟨k, rfl⟩ : ∃ k, j = k + 1 := ⟨j - 1, by omega⟩
  rw [scanDown, if_pos (by simp [h, hp])]; rfl
theorem scanDown_end2 (p : Int → Bool) (d : Array Int) (i j : Nat) (h : ¬ i ≤ j ∨ p d[j]! = false) : scanDown p d i j = j := by
  cases j with
  | zero => rfl
  | succ k => rw [scanDown, if_neg (by rcases h with h | h <;> simp [h])]

/-- How the run stands inside partitionEqual: i and j in their places, whatever else. -/
def EAct (g n cap a b pv : Nat) (i j : Value) (a' : Act) : Prop := ∃ (s8 s11 s12 s13 s14 s15 s16 s17 s18 s19 s20 s21 s22 s23 s24 s25 s26 s27 s28 s29 s30 s31 s32 s33 s34 s35 s36 s37 s38 s39 s40 s41 s42 s43 s44 s45 s46 s47 s48 s49 s50 s51 s52 s53 s54 s55 s56 s57 s58 s59 s60 s61 s62 s63 s64 s65 s66 s67 s68 s69 s70 s71 s72 s73 s74 s75 s76 s77 s78 s79 s80 s81 s82 s83 : Value), a' = { tmps := #[.slice (some ⟨g, 0, none⟩) n cap, .int .i64 a, .int .i64 b, .int .i64 pv, undef, undef, undef, undef, s8, i, j, s11, s12, s13, s14, s15, s16, s17, s18, s19, s20, s21, s22, s23, s24, s25, s26, s27, s28, s29, s30, s31, s32, s33, s34, s35, s36, s37, s38, s39, s40, s41, s42, s43, s44, s45, s46, s47, s48, s49, s50, s51, s52, s53, s54, s55, s56, s57, s58, s59, s60, s61, s62, s63, s64, s65, s66, s67, s68, s69, s70, s71, s72, s73, s74, s75, s76, s77, s78, s79, s80, s81, s82, s83], defers := [] }

set_option maxHeartbeats 8000000 in
theorem partitionEqual_any (g cap B a b pv : Nat) (d : Array Int) (w : World) (hown : OwnA w B g cap d) (w0 : World) (hb0 : RowKit.Below B w0 w) (hap : a ≤ pv) (hpb : pv < b) (hb' : b ≤ d.size) (hsz : d.size ≤ 1000000) :
    Calls Try.prog 56 #[.slice (some ⟨g, 0, none⟩) d.size cap, .int .i64 a, .int .i64 b, .int .i64 pv] w fun e w' => e = .returned (.int .i64 (partitionEqual ltInt d a b pv).1) ∧ OwnA w' B g cap (partitionEqual ltInt d a b pv).2 ∧ (partitionEqual ltInt d a b pv).2.size = d.size ∧ RowKit.Below B w0 w' ∧ a < (partitionEqual ltInt d a b pv).1 ∧ (partitionEqual ltInt d a b pv).1 ≤ b := by
  have hBg := hown.lt.1
  obtain ⟨n, hn⟩ : ∃ n, n = d.size := ⟨_, rfl⟩
  obtain ⟨D, hD⟩ : ∃ D, D = partitionEqual ltInt d a b pv := ⟨_, rfl⟩
  have hbn : b ≤ n := by omega
  have hsz' : n ≤ 1000000 := by omega
  have l1 : (a : Int) < (n : Int) := by omega
  have l2 : (pv : Int) < (n : Int) := by omega
  rw [← hn, ← hD]
  have HD : Hid (partEqLoop ltInt a (a + 1) (b - 1) (swp d a pv) = D) := hD.symm
  have HN : Hid (d.size = n) := hn.symm
  have k0 := hown.cell a (by omega)
  have k1 := hown.cell pv (by omega)
  have k5 := hown.mid a pv (by omega) _ rfl
  have m0 := hown.melt a
  have m1 := hown.melt pv
  have hsw := hown.swap a pv (by omega) (by omega)
  have hss := swp_size d a pv
  generalize d[a]! = A at k0 hsw
  generalize d[pv]! = X at k1 k5 hsw
  clear hD hn hsz hb'
  go_enter Try.func56, Try.ntmps56
  go_wp2_with fail
  go_region
  all_goals go_wp2_with fail
  go_loopw [9, 10] (fun iv jv wr => ∃ (i j : Nat) (dk : Array Int), a + 1 ≤ i ∧ i ≤ j + 1 ∧ j < b ∧ iv = .int .i64 i ∧ jv = .int .i64 j ∧ OwnA wr B g cap dk ∧ dk.size = n ∧ RowKit.Below B w0 wr ∧ partEqLoop ltInt a i j dk = D) (fun iv jv _ => (intOf jv).toNat + 1 - (intOf iv).toNat)
  case atStart =>
    refine ⟨a + 1, b - 1, swp d a pv, by omega, by omega, by omega, by go_num, ?_, hsw.drewN _, by rw [hss]; exact HN.out, ((bel_drewN hb0 _).setCell hBg _).setCell hBg _, HD.out⟩
    congr 1; omega
  case round =>
    clear hown hb0 HD k0 k1 k5 m0 m1 hsw hss HN l2
    obtain ⟨i, j, dk, hi1, hij, hjb, rfl, rfl, ho, hdk, hb, hD⟩ := hrel
    have HK : Hid (dk.size = n) := hdk
    have HD : Hid (partEqLoop ltInt a i j dk = D) := hD
    clear hD hdk
    refine wp_block ?_
    refine wp_seq_k fun K1 hK1 => ?_
    go_cut [9] from 29 to 82 (fun s9 wc => ∃ m : Nat, m = scanUp (fun x => !ltInt dk[a]! x) dk j i ∧ s9 = .int .i64 m ∧ OwnA wc B g cap dk ∧ RowKit.Below B w0 wc ∧ i ≤ m ∧ m ≤ j + 1 ∧ (m ≤ j → (fun x => !ltInt dk[a]! x) dk[m]! = false))
    case first =>
      go_wp2_with fail
      go_loopw [9] (fun v wr => ∃ m : Nat, i ≤ m ∧ m ≤ j + 1 ∧ v = .int .i64 m ∧ OwnA wr B g cap dk ∧ RowKit.Below B w0 wr ∧ scanUp (fun x => !ltInt dk[a]! x) dk j m = scanUp (fun x => !ltInt dk[a]! x) dk j i) (fun v _ => j + 1 - (intOf v).toNat)
      case atStart => exact ⟨i, Nat.le_refl _, by omega, rfl, ho, hb, rfl⟩
      case round =>
        clear ho hb
        obtain ⟨m, hm1, hm2, rfl, ho, hb, hsc⟩ := hrel
        have HSC : Hid (_ = _) := hsc
        clear hsc
        by_cases hg : m ≤ j
        · have g1 : (m : Int) ≤ (j : Int) := by omega
          have g2 : (m : Int) < (n : Int) := by omega
          have c1 := ho.cell m (by rw [HK.out]; omega)
          have c2 := ho.cell a (by rw [HK.out]; omega)
          obtain ⟨X, hX0⟩ : ∃ X, X = dk[m]! := ⟨_, rfl⟩
          obtain ⟨P, hP0⟩ : ∃ P, P = dk[a]! := ⟨_, rfl⟩
          rw [← hX0] at c1
          rw [← hP0] at c2
          have HX : Hid (X = dk[m]!) := hX0
          have HP : Hid (P = dk[a]!) := hP0
          clear hX0 hP0
          by_cases hXP : P < X
          · have hXP' : decide (P < X) = true := by simpa using hXP
            go_wp2_with fail
            go_quiet (first | (go_at_call 46; refine Calls.quiet_of_same (less_any P X _)))
            go_wp2_with fail
            have hI : m = scanUp (fun x => !ltInt dk[a]! x) dk j i := ((scanUp_end2 (fun x => !ltInt dk[a]! x) dk j m (Or.inr (by simp [ltInt, ← HX.out, ← HP.out, hXP]))).symm.trans HSC.out)
            go_meet
            case rel => exact ⟨m, hI, rfl, ho.drewN _, bel_drewN hb _, by omega, by omega, fun _ => by simp [ltInt, ← HX.out, ← HP.out, hXP]⟩
          · have hXP' : decide (P < X) = false := by simpa using hXP
            go_wp2_with fail
            go_quiet (first | (go_at_call 46; refine Calls.quiet_of_same (less_any P X _)))
            go_wp2_with fail
            go_roundw
            case rel => exact ⟨m + 1, by omega, by omega, by go_num, ho.drewN _, bel_drewN hb _, ((scanUp_go2 (fun x => !ltInt dk[a]! x) dk j m hg (by simp [ltInt, ← HX.out, ← HP.out, hXP])).symm.trans HSC.out)⟩
            case measure => simp [intOf]; omega
        · have g1 : decide ((m : Int) ≤ (j : Int)) = false := by simp; omega
          have g2 : ¬ (m : Int) ≤ (j : Int) := by omega
          go_wp2_with fail
          go_quiet (first | (go_at_call 46; refine Calls.quiet_of_same (less_any 0 0 _)))
          go_wp2_with fail
          have hI : m = scanUp (fun x => !ltInt dk[a]! x) dk j i := ((scanUp_end2 (fun x => !ltInt dk[a]! x) dk j m (Or.inl hg)).symm.trans HSC.out)
          go_meet
          case rel => exact ⟨m, hI, rfl, ho.drewN _, bel_drewN hb _, by omega, by omega, fun h => absurd h hg⟩
    case rest =>
      clear ho hb
      obtain ⟨i2, hI, rfl, ho, hb, hi2, hi3, hst1⟩ := hcut
      have HS1 : Hid (_ → _) := hst1
      clear hst1
      have HI : Hid (i2 = scanUp (fun x => !ltInt dk[a]! x) dk j i) := hI
      clear hI
      refine hK1 _ _ ?_
      clear hK1
      refine wp_seq_k fun K2 hK2 => ?_
      go_cut [10] from 29 to 82 (fun s10 wc => ∃ m : Nat, m = scanDown (fun x => ltInt dk[a]! x) dk i2 j ∧ s10 = .int .i64 m ∧ OwnA wc B g cap dk ∧ RowKit.Below B w0 wc ∧ i2 ≤ m + 1 ∧ m ≤ j ∧ (i2 ≤ m → (fun x => ltInt dk[a]! x) dk[m]! = false))
      case first =>
        go_wp2_with fail
        go_loopw [10] (fun v wr => ∃ m : Nat, i2 ≤ m + 1 ∧ m ≤ j ∧ v = .int .i64 m ∧ OwnA wr B g cap dk ∧ RowKit.Below B w0 wr ∧ scanDown (fun x => ltInt dk[a]! x) dk i2 m = scanDown (fun x => ltInt dk[a]! x) dk i2 j) (fun v _ => (intOf v).toNat)
        case atStart => exact ⟨j, by omega, Nat.le_refl _, rfl, ho, hb, rfl⟩
        case round =>
          clear ho hb
          obtain ⟨m, hm1, hm2, rfl, ho, hb, hsc⟩ := hrel
          have HSC : Hid (_ = _) := hsc
          clear hsc
          by_cases hg : i2 ≤ m
          · have g1 : (i2 : Int) ≤ (m : Int) := by omega
            have g2 : (m : Int) < (n : Int) := by omega
            have hq : (m : Int) - 1 = ((m - 1 : Nat) : Int) := by omega
            have c1 := ho.cell m (by rw [HK.out]; omega)
            have c2 := ho.cell a (by rw [HK.out]; omega)
            obtain ⟨X, hX0⟩ : ∃ X, X = dk[m]! := ⟨_, rfl⟩
            obtain ⟨P, hP0⟩ : ∃ P, P = dk[a]! := ⟨_, rfl⟩
            rw [← hX0] at c1
            rw [← hP0] at c2
            have HX : Hid (X = dk[m]!) := hX0
            have HP : Hid (P = dk[a]!) := hP0
            clear hX0 hP0
            by_cases hXP : P < X
            · have hXP' : decide (P < X) = true := by simpa using hXP
              go_wp2_with fail
              go_quiet (first | (go_at_call 46; refine Calls.quiet_of_same (less_any P X _)))
              go_wp2_with fail
              go_roundw
              case rel => exact ⟨m - 1, by omega, by omega, by go_num, ho.drewN _, bel_drewN hb _, ((scanDown_go2 (fun x => ltInt dk[a]! x) dk i2 m hg (by omega) (by simp [ltInt, ← HX.out, ← HP.out, hXP])).symm.trans HSC.out)⟩
              case measure => simp [intOf]; omega
            · have hXP' : decide (P < X) = false := by simpa using hXP
              go_wp2_with fail
              go_quiet (first | (go_at_call 46; refine Calls.quiet_of_same (less_any P X _)))
              go_wp2_with fail
              have hI : m = scanDown (fun x => ltInt dk[a]! x) dk i2 j := ((scanDown_end2 (fun x => ltInt dk[a]! x) dk i2 m (Or.inr (by simp [ltInt, ← HX.out, ← HP.out]; omega))).symm.trans HSC.out)
              go_meet
              case rel => exact ⟨m, hI, rfl, ho.drewN _, bel_drewN hb _, by omega, by omega, fun _ => by simp [ltInt, ← HX.out, ← HP.out]; omega⟩
          · have g1 : decide ((i2 : Int) ≤ (m : Int)) = false := by simp; omega
            have g2 : ¬ (i2 : Int) ≤ (m : Int) := by omega
            go_wp2_with fail
            go_quiet (first | (go_at_call 46; refine Calls.quiet_of_same (less_any 0 0 _)))
            go_wp2_with fail
            have hI : m = scanDown (fun x => ltInt dk[a]! x) dk i2 j := ((scanDown_end2 (fun x => ltInt dk[a]! x) dk i2 m (Or.inl hg)).symm.trans HSC.out)
            go_meet
            case rel => exact ⟨m, hI, rfl, ho.drewN _, bel_drewN hb _, by omega, by omega, fun h => absurd h hg⟩
      case rest =>
        clear ho hb
        obtain ⟨j2, hJ, rfl, ho, hb, hj2, hj3, hst2⟩ := hcut
        have HS2 : Hid (_ → _) := hst2
        clear hst2
        have HJ : Hid (j2 = scanDown (fun x => ltInt dk[a]! x) dk i2 j) := hJ
        clear hJ
        refine hK2 _ _ ?_
        clear hK2
        by_cases hgt : i2 > j2
        · have g1 : (i2 : Int) > (j2 : Int) := by omega
          go_wp2_with fail
          go_ret
          have h1 := HD.out
          rw [partEqLoop] at h1
          simp only [← HI.out, ← HJ.out, if_pos hgt] at h1
          subst h1
          exact ⟨rfl, ho, HK.out, hb, by simp; omega, by simp; omega⟩
        · have g1 : decide ((i2 : Int) > (j2 : Int)) = false := by simp; omega
          have g2 : ¬ (i2 : Int) > (j2 : Int) := by omega
          have hne : i2 ≠ j2 := by
            intro e
            have f1 := HS1.out (by omega)
            have f2 := HS2.out (by omega)
            rw [e] at f1
            simp only [f2] at f1
            cases f1
          have hlt2 : i2 < j2 := by omega
          have l3 : (i2 : Int) < (n : Int) := by omega
          have l4 : (j2 : Int) < (n : Int) := by omega
          have hq : (j2 : Int) - 1 = ((j2 - 1 : Nat) : Int) := by omega
          have k0 := ho.cell i2 (by rw [HK.out]; omega)
          have k1 := ho.cell j2 (by rw [HK.out]; omega)
          have k5 := ho.mid i2 j2 (by rw [HK.out]; omega) _ rfl
          have m0 := ho.melt i2
          have m1 := ho.melt j2
          have hsw := ho.swap i2 j2 (by rw [HK.out]; omega) (by rw [HK.out]; omega)
          have hss := swp_size dk i2 j2
          generalize dk[i2]! = A2 at k0 hsw
          generalize dk[j2]! = X2 at k1 k5 hsw
          go_wp2_with fail
          go_region
          all_goals go_wp2
          go_roundw
          case rel =>
            have hrel2 : ∃ (i' j' : Nat) (dk' : Array Int), a + 1 ≤ i' ∧ i' ≤ j' + 1 ∧ j' < b ∧ Value.int .i64 ((i2 : Int) + 1) = .int .i64 i' ∧ Value.int .i64 ((j2 - 1 : Nat) : Int) = .int .i64 j' ∧ OwnA (((wc.setCell ⟨g, i2, none⟩ (.int .u16 X2)).setCell ⟨g, j2, none⟩ (.int .u16 A2)).drewN 1) B g cap dk' ∧ dk'.size = n ∧ RowKit.Below B w0 (((wc.setCell ⟨g, i2, none⟩ (.int .u16 X2)).setCell ⟨g, j2, none⟩ (.int .u16 A2)).drewN 1) ∧ partEqLoop ltInt a i' j' dk' = D := ⟨i2 + 1, j2 - 1, swp dk i2 j2, by omega, by omega, by omega, by go_num, by go_num, hsw.drewN 1, by rw [hss]; exact HK.out, bel_drewN ((hb.setCell (p := ⟨g, i2, none⟩) hBg _).setCell (p := ⟨g, j2, none⟩) hBg _) 1, by
              have h1 := HD.out
              rw [partEqLoop] at h1
              simp only [← HI.out, ← HJ.out, if_neg hgt] at h1
              rw [dif_pos (by omega)] at h1
              exact h1⟩
            first | exact hrel2 | ((repeat apply Exists.intro); exact ⟨hrel2, rfl⟩)
          case measure => simp [intOf]; omega
end Go.Proofs.Ytpajojkhpnklfaa
