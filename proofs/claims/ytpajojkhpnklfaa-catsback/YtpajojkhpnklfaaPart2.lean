/- The library's partition of lists of categories: the row holds what the plain function says. -/
import Derived.Test.YtpajojkhpnklfaaPart
namespace Go.Proofs.Ytpajojkhpnklfaa
open Go.RowKit Go.Sort

set_option maxRecDepth 100000 in
set_option maxHeartbeats 8000000 in
theorem partition_any (g cap B a b pv : Nat) (d : Array Int) (w : World) (hown : OwnA w B g cap d) (w0 : World) (hb0 : RowKit.Below B w0 w) (hap : a ≤ pv) (hpb : pv < b) (hb' : b ≤ d.size) (hsz : d.size ≤ 1000000) :
    Calls Try.prog 57 #[.slice (some ⟨g, 0, none⟩) d.size cap, .int .i64 a, .int .i64 b, .int .i64 pv] w fun e w' => e = .returned (.tuple #[.int .i64 (partition ltInt d a b pv).1, .bool (partition ltInt d a b pv).2.1]) ∧ OwnA w' B g cap (partition ltInt d a b pv).2.2 ∧ (partition ltInt d a b pv).2.2.size = d.size ∧ RowKit.Below B w0 w' := by
  have hBg := hown.lt.1
  obtain ⟨n, hn⟩ : ∃ n, n = d.size := ⟨_, rfl⟩
  obtain ⟨D, hD⟩ : ∃ D, D = partition ltInt d a b pv := ⟨_, rfl⟩
  have hbn : b ≤ n := by omega
  have hsz' : n ≤ 1000000 := by omega
  have l1 : (a : Int) < (n : Int) := by omega
  have l2 : (pv : Int) < (n : Int) := by omega
  rw [← hn, ← hD]
  obtain ⟨dk, hdk⟩ : ∃ dk, dk = swp d a pv := ⟨_, rfl⟩
  obtain ⟨i, hi⟩ : ∃ i, i = a + 1 := ⟨_, rfl⟩
  obtain ⟨j, hj⟩ : ∃ j, j = b - 1 := ⟨_, rfl⟩
  have e1 : (a : Int) + 1 = (i : Int) := by omega
  have e2 : (b : Int) - 1 = (j : Int) := by omega
  have HD : Hid (D = partition ltInt d a b pv) := hD
  have HK : Hid (dk.size = n) := by show _ = _; rw [hdk, swp_size]; exact hn.symm
  have k0 := hown.cell a (by omega)
  have k1 := hown.cell pv (by omega)
  have k5 := hown.mid a pv (by omega) _ rfl
  have m0 := hown.melt a
  have m1 := hown.melt pv
  have hsw := hown.swap a pv (by omega) (by omega)
  rw [← hdk] at hsw
  have HV : Hid (dk = swp d a pv ∧ i = a + 1 ∧ j = b - 1) := ⟨hdk, hi, hj⟩
  have hia : a < i := by omega
  have hij : i ≤ j + 1 := by omega
  have hjb : j < b := by omega
  generalize d[a]! = A at k0 hsw
  generalize d[pv]! = X at k1 k5 hsw
  clear hD hn hsz hb' hdk hi hj
  go_enter Try.func57, Try.ntmps57
  go_wp2_with fail
  rename_i K0 hK0
  go_region
  refine hK0 _ _ ?_
  clear hK0
  have ho := hsw.drewN 1
  have hb := bel_drewN ((hb0.setCell (p := ⟨g, a, none⟩) hBg (.int .u16 X)).setCell (p := ⟨g, pv, none⟩) hBg (.int .u16 A)) 1
  clear hown hb0 k0 k1 k5 m0 m1 hsw l2
  refine wp_seq_k fun K1 hK1 => ?_
  go_cut [10, 11] from 12 to 29 (fun s10 s11 wc => s10 = .int .i64 i ∧ s11 = .int .i64 j ∧ OwnA wc B g cap dk ∧ RowKit.Below B w0 wc)
  case first =>
    go_wp2_with fail
    go_meet
    case rel => exact ⟨rfl, rfl, ho, hb⟩
  case rest =>
    clear ho hb
    obtain ⟨rfl, rfl, ho, hb⟩ := hcut
    refine hK1 _ _ ?_
    clear hK1
    refine wp_seq_k fun K2 hK2 => ?_
    go_cut [10] from 12 to 45 (fun s9 wc => ∃ m : Nat, m = scanUp (fun x => ltInt x dk[a]!) dk j i ∧ s9 = .int .i64 m ∧ OwnA wc B g cap dk ∧ RowKit.Below B w0 wc ∧ i ≤ m ∧ m ≤ j + 1 ∧ (m ≤ j → (fun x => ltInt x dk[a]!) dk[m]! = false))
    case first =>
      go_wp2_with fail
      go_loopw [10] (fun v wr => ∃ m : Nat, i ≤ m ∧ m ≤ j + 1 ∧ v = .int .i64 m ∧ OwnA wr B g cap dk ∧ RowKit.Below B w0 wr ∧ scanUp (fun x => ltInt x dk[a]!) dk j m = scanUp (fun x => ltInt x dk[a]!) dk j i) (fun v _ => j + 1 - (intOf v).toNat)
      case atStart => exact ⟨i, Nat.le_refl _, by omega, rfl, ho, hb, rfl⟩
      case round =>
        clear ho hb
        obtain ⟨m, hm1, hm2, rfl, ho, hb, hsc⟩ := hrel
        have HSC : Hid (_ = _) := hsc
        clear hsc
        by_cases hg : m ≤ j
        · have g1 : (m : Int) ≤ (j : Int) := by omega
          have g2 : (m : Int) < (n : Int) := by omega
          have c1 := ho.cell m (by rw [HK.out]; omega)
          have c2 := ho.cell a (by rw [HK.out]; omega)
          obtain ⟨X, hX0⟩ : ∃ X, X = dk[m]! := ⟨_, rfl⟩
          obtain ⟨P, hP0⟩ : ∃ P, P = dk[a]! := ⟨_, rfl⟩
          rw [← hX0] at c1
          rw [← hP0] at c2
          have HX : Hid (X = dk[m]!) := hX0
          have HP : Hid (P = dk[a]!) := hP0
          clear hX0 hP0
          by_cases hXP : X < P
          · have hXP' : decide (X < P) = true := by simpa using hXP
            go_wp2_with fail
            go_quiet (first | (go_at_call 46; refine Calls.quiet_of_same (less_any X P _)))
            go_wp2_with fail
            go_roundw
            case rel => exact ⟨m + 1, by omega, by omega, by go_num, ho.drewN _, bel_drewN hb _, ((scanUp_go2 (fun x => ltInt x dk[a]!) dk j m hg (by simp [ltInt, ← HX.out, ← HP.out, hXP])).symm.trans HSC.out)⟩
            case measure => simp [intOf]; omega
          · have hXP' : decide (X < P) = false := by simpa using hXP
            go_wp2_with fail
            go_quiet (first | (go_at_call 46; refine Calls.quiet_of_same (less_any X P _)))
            go_wp2_with fail
            have hI : m = scanUp (fun x => ltInt x dk[a]!) dk j i := ((scanUp_end2 (fun x => ltInt x dk[a]!) dk j m (Or.inr (by simp [ltInt, ← HX.out, ← HP.out]; omega))).symm.trans HSC.out)
            go_meet
            case rel => exact ⟨m, hI, rfl, ho.drewN _, bel_drewN hb _, by omega, by omega, fun _ => by simp [ltInt, ← HX.out, ← HP.out]; omega⟩
        · have g1 : decide ((m : Int) ≤ (j : Int)) = false := by simp; omega
          have g2 : ¬ (m : Int) ≤ (j : Int) := by omega
          go_wp2_with fail
          go_quiet (first | (go_at_call 46; refine Calls.quiet_of_same (less_any 0 0 _)))
          go_wp2_with fail
          have hI : m = scanUp (fun x => ltInt x dk[a]!) dk j i := ((scanUp_end2 (fun x => ltInt x dk[a]!) dk j m (Or.inl hg)).symm.trans HSC.out)
          go_meet
          case rel => exact ⟨m, hI, rfl, ho.drewN _, bel_drewN hb _, by omega, by omega, fun h => absurd h hg⟩
    case rest =>
      clear ho hb
      obtain ⟨i2, hI, rfl, ho, hb, hi2, hi3, hst1⟩ := hcut
      have HI : Hid (i2 = scanUp (fun x => ltInt x dk[a]!) dk j i) := hI
      have HS1 : Hid (_ → _) := hst1
      clear hst1 hI
      refine hK2 _ _ ?_
      clear hK2
      refine wp_seq_k fun K3 hK3 => ?_
      go_cut [11] from 12 to 62 (fun s10 wc => ∃ m : Nat, m = scanDown (fun x => !ltInt x dk[a]!) dk i2 j ∧ s10 = .int .i64 m ∧ OwnA wc B g cap dk ∧ RowKit.Below B w0 wc ∧ i2 ≤ m + 1 ∧ m ≤ j ∧ (i2 ≤ m → (fun x => !ltInt x dk[a]!) dk[m]! = false))
      case first =>
        go_wp2_with fail
        go_loopw [11] (fun v wr => ∃ m : Nat, i2 ≤ m + 1 ∧ m ≤ j ∧ v = .int .i64 m ∧ OwnA wr B g cap dk ∧ RowKit.Below B w0 wr ∧ scanDown (fun x => !ltInt x dk[a]!) dk i2 m = scanDown (fun x => !ltInt x dk[a]!) dk i2 j) (fun v _ => (intOf v).toNat)
        case atStart => exact ⟨j, by omega, Nat.le_refl _, rfl, ho, hb, rfl⟩
        case round =>
          clear ho hb
          obtain ⟨m, hm1, hm2, rfl, ho, hb, hsc⟩ := hrel
          have HSC : Hid (_ = _) := hsc
          clear hsc
          by_cases hg : i2 ≤ m
          · have g1 : (i2 : Int) ≤ (m : Int) := by omega
            have g2 : (m : Int) < (n : Int) := by omega
            have hq : (m : Int) - 1 = ((m - 1 : Nat) : Int) := by omega
            have c1 := ho.cell m (by rw [HK.out]; omega)
            have c2 := ho.cell a (by rw [HK.out]; omega)
            obtain ⟨X, hX0⟩ : ∃ X, X = dk[m]! := ⟨_, rfl⟩
            obtain ⟨P, hP0⟩ : ∃ P, P = dk[a]! := ⟨_, rfl⟩
            rw [← hX0] at c1
            rw [← hP0] at c2
            have HX : Hid (X = dk[m]!) := hX0
            have HP : Hid (P = dk[a]!) := hP0
            clear hX0 hP0
            by_cases hXP : X < P
            · have hXP' : decide (X < P) = true := by simpa using hXP
              go_wp2_with fail
              go_quiet (first | (go_at_call 46; refine Calls.quiet_of_same (less_any X P _)))
              go_wp2_with fail
              have hI : m = scanDown (fun x => !ltInt x dk[a]!) dk i2 j := ((scanDown_end2 (fun x => !ltInt x dk[a]!) dk i2 m (Or.inr (by simp [ltInt, ← HX.out, ← HP.out, hXP]))).symm.trans HSC.out)
              go_meet
              case rel => exact ⟨m, hI, rfl, ho.drewN _, bel_drewN hb _, by omega, by omega, fun _ => by simp [ltInt, ← HX.out, ← HP.out, hXP]⟩
            · have hXP' : decide (X < P) = false := by simpa using hXP
              go_wp2_with fail
              go_quiet (first | (go_at_call 46; refine Calls.quiet_of_same (less_any X P _)))
              go_wp2_with fail
              go_roundw
              case rel => exact ⟨m - 1, by omega, by omega, by go_num, ho.drewN _, bel_drewN hb _, ((scanDown_go2 (fun x => !ltInt x dk[a]!) dk i2 m hg (by omega) (by simp [ltInt, ← HX.out, ← HP.out, hXP])).symm.trans HSC.out)⟩
              case measure => simp [intOf]; omega
          · have g1 : decide ((i2 : Int) ≤ (m : Int)) = false := by simp; omega
            have g2 : ¬ (i2 : Int) ≤ (m : Int) := by omega
            go_wp2_with fail
            go_quiet (first | (go_at_call 46; refine Calls.quiet_of_same (less_any 0 0 _)))
            go_wp2_with fail
            have hI : m = scanDown (fun x => !ltInt x dk[a]!) dk i2 j := ((scanDown_end2 (fun x => !ltInt x dk[a]!) dk i2 m (Or.inl hg)).symm.trans HSC.out)
            go_meet
            case rel => exact ⟨m, hI, rfl, ho.drewN _, bel_drewN hb _, by omega, by omega, fun h => absurd h hg⟩
      case rest =>
        clear ho hb
        obtain ⟨j2, hJ, rfl, ho, hb, hj2, hj3, hst2⟩ := hcut
        have HJ : Hid (j2 = scanDown (fun x => !ltInt x dk[a]!) dk i2 j) := hJ
        have HS2 : Hid (_ → _) := hst2
        clear hst2 hJ
        refine hK3 _ _ ?_
        clear hK3
        have HP : Hid (D = if i2 > j2 then (j2, true, swp dk j2 a) else ((partLoop ltInt a (i2 + 1) (j2 - 1) (swp dk i2 j2)).1, false, swp (partLoop ltInt a (i2 + 1) (j2 - 1) (swp dk i2 j2)).2 (partLoop ltInt a (i2 + 1) (j2 - 1) (swp dk i2 j2)).1 a)) := by
          show _ = _
          have h1 := HD.out
          unfold partition at h1
          simp only [← HV.out.1, ← HV.out.2.1, ← HV.out.2.2, ← HI.out, ← HJ.out] at h1
          exact h1
        by_cases hgt : i2 > j2
        · have g1 : (i2 : Int) > (j2 : Int) := by omega
          have l4 : (j2 : Int) < (n : Int) := by omega
          have k0 := ho.cell j2 (by rw [HK.out]; omega)
          have k1 := ho.cell a (by rw [HK.out]; omega)
          have k5 := ho.mid j2 a (by rw [HK.out]; omega) _ rfl
          have m0 := ho.melt j2
          have m1 := ho.melt a
          have hsw := ho.swap j2 a (by rw [HK.out]; omega) (by rw [HK.out]; omega)
          have hss := swp_size dk j2 a
          generalize dk[j2]! = A2 at k0 hsw
          generalize dk[a]! = X2 at k1 k5 hsw
          go_wp2_with fail
          go_region
          all_goals go_wp2_with fail
          go_ret2
          have h1 := HP.out
          rw [if_pos hgt] at h1
          subst h1
          exact ⟨rfl, hsw.drewN _, by rw [hss]; exact HK.out, bel_drewN ((hb.setCell (p := ⟨g, j2, none⟩) hBg _).setCell (p := ⟨g, a, none⟩) hBg _) _⟩
        · have g1 : decide ((i2 : Int) > (j2 : Int)) = false := by simp; omega
          have g2 : ¬ (i2 : Int) > (j2 : Int) := by omega
          have hne : i2 ≠ j2 := by
            intro e
            have f1 := HS1.out (by omega)
            have f2 := HS2.out (by omega)
            rw [e] at f1
            simp only [f1] at f2
            cases f2
          have hlt2 : i2 < j2 := by omega
          have l3 : (i2 : Int) < (n : Int) := by omega
          have l4 : (j2 : Int) < (n : Int) := by omega
          have hq : (j2 : Int) - 1 = ((j2 - 1 : Nat) : Int) := by omega
          obtain ⟨R, hR⟩ : ∃ R, R = partLoop ltInt a (i2 + 1) (j2 - 1) (swp dk i2 j2) := ⟨_, rfl⟩
          have HR : Hid (partLoop ltInt a (i2 + 1) (j2 - 1) (swp dk i2 j2) = R) := hR.symm
          have HQ : Hid (D = (R.1, false, swp R.2 R.1 a)) := by show _ = _; have h1 := HP.out; rw [if_neg hgt, ← hR] at h1; exact h1
          clear hR
          have k0 := ho.cell i2 (by rw [HK.out]; omega)
          have k1 := ho.cell j2 (by rw [HK.out]; omega)
          have k5 := ho.mid i2 j2 (by rw [HK.out]; omega) _ rfl
          have m0 := ho.melt i2
          have m1 := ho.melt j2
          have hsw := ho.swap i2 j2 (by rw [HK.out]; omega) (by rw [HK.out]; omega)
          have hss := swp_size dk i2 j2
          generalize dk[i2]! = A2 at k0 hsw
          generalize dk[j2]! = X2 at k1 k5 hsw
          go_wp2_with fail
          go_region
          all_goals go_wp2_with fail
          have ho2 := hsw.drewN 1
          have hb2 := bel_drewN ((hb.setCell (p := ⟨g, i2, none⟩) hBg (.int .u16 X2)).setCell (p := ⟨g, j2, none⟩) hBg (.int .u16 A2)) 1
          have hK2' : (swp dk i2 j2).size = n := by rw [hss]; exact HK.out
          clear ho hb k0 k1 k5 m0 m1 hsw HP HJ HI HS1 HS2 HD HV
          go_loopw [10, 11] (fun iv jv wr => ∃ (i j : Nat) (dk : Array Int), a + 1 ≤ i ∧ i ≤ j + 1 ∧ j < b ∧ iv = .int .i64 i ∧ jv = .int .i64 j ∧ OwnA wr B g cap dk ∧ dk.size = n ∧ RowKit.Below B w0 wr ∧ partLoop ltInt a i j dk = R) (fun iv jv _ => (intOf jv).toNat + 1 - (intOf iv).toNat)
          case atStart => exact ⟨i2 + 1, j2 - 1, swp dk i2 j2, by omega, by omega, by omega, by go_num, by go_num, ho2, hK2', hb2, HR.out⟩
          case round =>
            clear ho2 hb2 hK2' HR HK hss
            obtain ⟨i, j, dk, hi1, hij, hjb, rfl, rfl, ho, hdk, hb, hR⟩ := hrel
            have HK : Hid (dk.size = n) := hdk
            have HR : Hid (partLoop ltInt a i j dk = R) := hR
            clear hR hdk
            refine wp_block ?_
            refine wp_seq_k fun K1 hK1 => ?_
            go_cut [10] from 99 to 152 (fun s9 wc => ∃ m : Nat, m = scanUp (fun x => ltInt x dk[a]!) dk j i ∧ s9 = .int .i64 m ∧ OwnA wc B g cap dk ∧ RowKit.Below B w0 wc ∧ i ≤ m ∧ m ≤ j + 1 ∧ (m ≤ j → (fun x => ltInt x dk[a]!) dk[m]! = false))
            case first =>
              go_wp2_with fail
              go_loopw [10] (fun v wr => ∃ m : Nat, i ≤ m ∧ m ≤ j + 1 ∧ v = .int .i64 m ∧ OwnA wr B g cap dk ∧ RowKit.Below B w0 wr ∧ scanUp (fun x => ltInt x dk[a]!) dk j m = scanUp (fun x => ltInt x dk[a]!) dk j i) (fun v _ => j + 1 - (intOf v).toNat)
              case atStart => exact ⟨i, Nat.le_refl _, by omega, rfl, ho, hb, rfl⟩
              case round =>
                clear ho hb
                obtain ⟨m, hm1, hm2, rfl, ho, hb, hsc⟩ := hrel
                have HSC : Hid (_ = _) := hsc
                clear hsc
                by_cases hg : m ≤ j
                · have g1 : (m : Int) ≤ (j : Int) := by omega
                  have g2 : (m : Int) < (n : Int) := by omega
                  have c1 := ho.cell m (by rw [HK.out]; omega)
                  have c2 := ho.cell a (by rw [HK.out]; omega)
                  obtain ⟨X, hX0⟩ : ∃ X, X = dk[m]! := ⟨_, rfl⟩
                  obtain ⟨P, hP0⟩ : ∃ P, P = dk[a]! := ⟨_, rfl⟩
                  rw [← hX0] at c1
                  rw [← hP0] at c2
                  have HX : Hid (X = dk[m]!) := hX0
                  have HP : Hid (P = dk[a]!) := hP0
                  clear hX0 hP0
                  by_cases hXP : X < P
                  · have hXP' : decide (X < P) = true := by simpa using hXP
                    go_wp2_with fail
                    go_quiet (first | (go_at_call 46; refine Calls.quiet_of_same (less_any X P _)))
                    go_wp2_with fail
                    go_roundw
                    case rel => exact ⟨m + 1, by omega, by omega, by go_num, ho.drewN _, bel_drewN hb _, ((scanUp_go2 (fun x => ltInt x dk[a]!) dk j m hg (by simp [ltInt, ← HX.out, ← HP.out, hXP])).symm.trans HSC.out)⟩
                    case measure => simp [intOf]; omega
                  · have hXP' : decide (X < P) = false := by simpa using hXP
                    go_wp2_with fail
                    go_quiet (first | (go_at_call 46; refine Calls.quiet_of_same (less_any X P _)))
                    go_wp2_with fail
                    have hI : m = scanUp (fun x => ltInt x dk[a]!) dk j i := ((scanUp_end2 (fun x => ltInt x dk[a]!) dk j m (Or.inr (by simp [ltInt, ← HX.out, ← HP.out]; omega))).symm.trans HSC.out)
                    go_meet
                    case rel => exact ⟨m, hI, rfl, ho.drewN _, bel_drewN hb _, by omega, by omega, fun _ => by simp [ltInt, ← HX.out, ← HP.out]; omega⟩
                · have g1 : decide ((m : Int) ≤ (j : Int)) = false := by simp; omega
                  have g2 : ¬ (m : Int) ≤ (j : Int) := by omega
                  go_wp2_with fail
                  go_quiet (first | (go_at_call 46; refine Calls.quiet_of_same (less_any 0 0 _)))
                  go_wp2_with fail
                  have hI : m = scanUp (fun x => ltInt x dk[a]!) dk j i := ((scanUp_end2 (fun x => ltInt x dk[a]!) dk j m (Or.inl hg)).symm.trans HSC.out)
                  go_meet
                  case rel => exact ⟨m, hI, rfl, ho.drewN _, bel_drewN hb _, by omega, by omega, fun h => absurd h hg⟩
            case rest =>
              clear ho hb
              obtain ⟨i2, hI, rfl, ho, hb, hi2, hi3, hst1⟩ := hcut
              have HI : Hid (i2 = scanUp (fun x => ltInt x dk[a]!) dk j i) := hI
              have HS1 : Hid (_ → _) := hst1
              clear hst1 hI
              refine hK1 _ _ ?_
              clear hK1
              refine wp_seq_k fun K2 hK2 => ?_
              go_cut [11] from 99 to 152 (fun s10 wc => ∃ m : Nat, m = scanDown (fun x => !ltInt x dk[a]!) dk i2 j ∧ s10 = .int .i64 m ∧ OwnA wc B g cap dk ∧ RowKit.Below B w0 wc ∧ i2 ≤ m + 1 ∧ m ≤ j ∧ (i2 ≤ m → (fun x => !ltInt x dk[a]!) dk[m]! = false))
              case first =>
                go_wp2_with fail
                go_loopw [11] (fun v wr => ∃ m : Nat, i2 ≤ m + 1 ∧ m ≤ j ∧ v = .int .i64 m ∧ OwnA wr B g cap dk ∧ RowKit.Below B w0 wr ∧ scanDown (fun x => !ltInt x dk[a]!) dk i2 m = scanDown (fun x => !ltInt x dk[a]!) dk i2 j) (fun v _ => (intOf v).toNat)
                case atStart => exact ⟨j, by omega, Nat.le_refl _, rfl, ho, hb, rfl⟩
                case round =>
                  clear ho hb
                  obtain ⟨m, hm1, hm2, rfl, ho, hb, hsc⟩ := hrel
                  have HSC : Hid (_ = _) := hsc
                  clear hsc
                  by_cases hg : i2 ≤ m
                  · have g1 : (i2 : Int) ≤ (m : Int) := by omega
                    have g2 : (m : Int) < (n : Int) := by omega
                    have hq : (m : Int) - 1 = ((m - 1 : Nat) : Int) := by omega
                    have c1 := ho.cell m (by rw [HK.out]; omega)
                    have c2 := ho.cell a (by rw [HK.out]; omega)
                    obtain ⟨X, hX0⟩ : ∃ X, X = dk[m]! := ⟨_, rfl⟩
                    obtain ⟨P, hP0⟩ : ∃ P, P = dk[a]! := ⟨_, rfl⟩
                    rw [← hX0] at c1
                    rw [← hP0] at c2
                    have HX : Hid (X = dk[m]!) := hX0
                    have HP : Hid (P = dk[a]!) := hP0
                    clear hX0 hP0
                    by_cases hXP : X < P
                    · have hXP' : decide (X < P) = true := by simpa using hXP
                      go_wp2_with fail
                      go_quiet (first | (go_at_call 46; refine Calls.quiet_of_same (less_any X P _)))
                      go_wp2_with fail
                      have hI : m = scanDown (fun x => !ltInt x dk[a]!) dk i2 j := ((scanDown_end2 (fun x => !ltInt x dk[a]!) dk i2 m (Or.inr (by simp [ltInt, ← HX.out, ← HP.out, hXP]))).symm.trans HSC.out)
                      go_meet
                      case rel => exact ⟨m, hI, rfl, ho.drewN _, bel_drewN hb _, by omega, by omega, fun _ => by simp [ltInt, ← HX.out, ← HP.out, hXP]⟩
                    · have hXP' : decide (X < P) = false := by simpa using hXP
                      go_wp2_with fail
                      go_quiet (first | (go_at_call 46; refine Calls.quiet_of_same (less_any X P _)))
                      go_wp2_with fail
                      go_roundw
                      case rel => exact ⟨m - 1, by omega, by omega, by go_num, ho.drewN _, bel_drewN hb _, ((scanDown_go2 (fun x => !ltInt x dk[a]!) dk i2 m hg (by omega) (by simp [ltInt, ← HX.out, ← HP.out, hXP])).symm.trans HSC.out)⟩
                      case measure => simp [intOf]; omega
                  · have g1 : decide ((i2 : Int) ≤ (m : Int)) = false := by simp; omega
                    have g2 : ¬ (i2 : Int) ≤ (m : Int) := by omega
                    go_wp2_with fail
                    go_quiet (first | (go_at_call 46; refine Calls.quiet_of_same (less_any 0 0 _)))
                    go_wp2_with fail
                    have hI : m = scanDown (fun x => !ltInt x dk[a]!) dk i2 j := ((scanDown_end2 (fun x => !ltInt x dk[a]!) dk i2 m (Or.inl hg)).symm.trans HSC.out)
                    go_meet
                    case rel => exact ⟨m, hI, rfl, ho.drewN _, bel_drewN hb _, by omega, by omega, fun h => absurd h hg⟩
              case rest =>
                clear ho hb
                obtain ⟨j2, hJ, rfl, ho, hb, hj2, hj3, hst2⟩ := hcut
                have HJ : Hid (j2 = scanDown (fun x => !ltInt x dk[a]!) dk i2 j) := hJ
                have HS2 : Hid (_ → _) := hst2
                clear hst2 hJ
                refine hK2 _ _ ?_
                clear hK2
                by_cases hgt : i2 > j2
                · have g1 : (i2 : Int) > (j2 : Int) := by omega
                  have l4 : (j2 : Int) < (n : Int) := by omega
                  have k0 := ho.cell j2 (by rw [HK.out]; omega)
                  have k1 := ho.cell a (by rw [HK.out]; omega)
                  have k5 := ho.mid j2 a (by rw [HK.out]; omega) _ rfl
                  have m0 := ho.melt j2
                  have m1 := ho.melt a
                  have hsw := ho.swap j2 a (by rw [HK.out]; omega) (by rw [HK.out]; omega)
                  have hss := swp_size dk j2 a
                  generalize dk[j2]! = A2 at k0 hsw
                  generalize dk[a]! = X2 at k1 k5 hsw
                  go_wp2_with fail
                  go_region
                  all_goals go_wp2_with fail
                  go_ret2
                  have h1 := HR.out
                  rw [partLoop] at h1
                  simp only [← HI.out, ← HJ.out, if_pos hgt] at h1
                  have h2 := HQ.out
                  rw [← h1] at h2
                  subst h2
                  exact ⟨rfl, hsw.drewN _, by rw [hss]; exact HK.out, bel_drewN ((hb.setCell (p := ⟨g, j2, none⟩) hBg _).setCell (p := ⟨g, a, none⟩) hBg _) _⟩
                · have g1 : decide ((i2 : Int) > (j2 : Int)) = false := by simp; omega
                  have g2 : ¬ (i2 : Int) > (j2 : Int) := by omega
                  have hne : i2 ≠ j2 := by
                    intro e
                    have f1 := HS1.out (by omega)
                    have f2 := HS2.out (by omega)
                    rw [e] at f1
                    simp only [f1] at f2
                    cases f2
                  have hlt2 : i2 < j2 := by omega
                  have l3 : (i2 : Int) < (n : Int) := by omega
                  have l4 : (j2 : Int) < (n : Int) := by omega
                  have hq : (j2 : Int) - 1 = ((j2 - 1 : Nat) : Int) := by omega
                  have k0 := ho.cell i2 (by rw [HK.out]; omega)
                  have k1 := ho.cell j2 (by rw [HK.out]; omega)
                  have k5 := ho.mid i2 j2 (by rw [HK.out]; omega) _ rfl
                  have m0 := ho.melt i2
                  have m1 := ho.melt j2
                  have hsw := ho.swap i2 j2 (by rw [HK.out]; omega) (by rw [HK.out]; omega)
                  have hss := swp_size dk i2 j2
                  generalize dk[i2]! = A2 at k0 hsw
                  generalize dk[j2]! = X2 at k1 k5 hsw
                  go_wp2_with fail
                  go_region
                  all_goals go_wp2
                  go_roundw
                  case rel =>
                    have hrel2 : ∃ (i' j' : Nat) (dk' : Array Int), a + 1 ≤ i' ∧ i' ≤ j' + 1 ∧ j' < b ∧ Value.int .i64 ((i2 : Int) + 1) = .int .i64 i' ∧ Value.int .i64 ((j2 - 1 : Nat) : Int) = .int .i64 j' ∧ OwnA (((wc.setCell ⟨g, i2, none⟩ (.int .u16 X2)).setCell ⟨g, j2, none⟩ (.int .u16 A2)).drewN 1) B g cap dk' ∧ dk'.size = n ∧ RowKit.Below B w0 (((wc.setCell ⟨g, i2, none⟩ (.int .u16 X2)).setCell ⟨g, j2, none⟩ (.int .u16 A2)).drewN 1) ∧ partLoop ltInt a i' j' dk' = R := ⟨i2 + 1, j2 - 1, swp dk i2 j2, by omega, by omega, by omega, by go_num, by go_num, hsw.drewN 1, by rw [hss]; exact HK.out, bel_drewN ((hb.setCell (p := ⟨g, i2, none⟩) hBg _).setCell (p := ⟨g, j2, none⟩) hBg _) 1, by
                      have h1 := HR.out
                      rw [partLoop] at h1
                      simp only [← HI.out, ← HJ.out, if_neg hgt] at h1
                      rw [dif_pos (by omega)] at h1
                      exact h1⟩
                    first | exact hrel2 | ((repeat apply Exists.intro); exact ⟨hrel2, rfl⟩)
                  case measure => simp [intOf]; omega
end Go.Proofs.Ytpajojkhpnklfaa
