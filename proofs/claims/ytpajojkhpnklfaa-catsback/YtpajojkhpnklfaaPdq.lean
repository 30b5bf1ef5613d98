/- The library's pdqsort of lists of categories: the row holds what the plain function says. -/
import Derived.Test.YtpajojkhpnklfaaBreak
import Derived.Test.YtpajojkhpnklfaaPart2
import Derived.Test.YtpajojkhpnklfaaPIns
import Derived.Test.YtpajojkhpnklfaaMake3
namespace Go.Proofs.Ytpajojkhpnklfaa
open Go.RowKit Go.Sort

set_option maxRecDepth 100000 in
set_option maxHeartbeats 16000000 in
theorem pdq_step (m : Nat) (g cap B : Nat) (w0 : World) (n : Nat) (hn6 : n ≤ 1000000)
    (IH : ∀ (a b L : Nat) (d : Array Int) (w : World), b - a < m → a ≤ b → b ≤ n → L ≤ 1000 → d.size = n → OwnA w B g cap d → RowKit.Below B w0 w →
      Calls Try.prog 43 #[.slice (some ⟨g, 0, none⟩) n cap, .int .i64 a, .int .i64 b, .int .i64 L] w fun e w' => e = .returned (.tuple #[]) ∧ OwnA w' B g cap (pdq ltInt d a b L true true) ∧ (pdq ltInt d a b L true true).size = n ∧ RowKit.Below B w0 w')
    (a b L : Nat) (d : Array Int) (w : World) (hm : b - a ≤ m) (hab : a ≤ b) (hbn : b ≤ n) (hL : L ≤ 1000) (hdn : d.size = n) (hown : OwnA w B g cap d) (hb0 : RowKit.Below B w0 w) :
    Calls Try.prog 43 #[.slice (some ⟨g, 0, none⟩) n cap, .int .i64 a, .int .i64 b, .int .i64 L] w fun e w' => e = .returned (.tuple #[]) ∧ OwnA w' B g cap (pdq ltInt d a b L true true) ∧ (pdq ltInt d a b L true true).size = n ∧ RowKit.Below B w0 w' := by
  obtain ⟨D, hD⟩ : ∃ D, D = pdq ltInt d a b L true true := ⟨_, rfl⟩
  rw [← hD]
  have HD0 : Hid (pdq ltInt d a b L true true = D) := hD.symm
  have HN : Hid (d.size = n) := hdn
  have HIH : Hid (∀ (a b L : Nat) (d : Array Int) (w : World), b - a < m → a ≤ b → b ≤ n → L ≤ 1000 → d.size = n → OwnA w B g cap d → RowKit.Below B w0 w →
      Calls Try.prog 43 #[.slice (some ⟨g, 0, none⟩) n cap, .int .i64 a, .int .i64 b, .int .i64 L] w fun e w' => e = .returned (.tuple #[]) ∧ OwnA w' B g cap (pdq ltInt d a b L true true) ∧ (pdq ltInt d a b L true true).size = n ∧ RowKit.Below B w0 w') := IH
  clear hD hdn IH
  go_enter Try.func43, Try.ntmps43
  go_wp2_with fail
  go_loopw [1, 2, 3, 8, 9] (fun s1 s2 s3 s8 s9 wr => ∃ (a b L : Nat) (wb wp : Bool) (dk : Array Int), b - a ≤ m ∧ a ≤ b ∧ b ≤ n ∧ L ≤ 1000 ∧ s1 = .int .i64 a ∧ s2 = .int .i64 b ∧ s3 = .int .i64 L ∧ s8 = .bool wb ∧ s9 = .bool wp ∧ OwnA wr B g cap dk ∧ dk.size = n ∧ RowKit.Below B w0 wr ∧ pdq ltInt dk a b L wb wp = D) (fun s1 s2 _ _ _ _ => (intOf s2).toNat - (intOf s1).toNat)
  case atStart => exact ⟨a, b, L, true, true, d, hm, hab, hbn, hL, rfl, rfl, rfl, rfl, rfl, hown, HN.out, hb0, HD0.out⟩
  case round =>
    clear hown hb0 HD0 HN hm hab hbn hL
    obtain ⟨a, b, L, wb, wp, dk, hm, hab, hbn, hL, rfl, rfl, rfl, rfl, rfl, ho, hdk, hb, hD⟩ := hrel
    have HK : Hid (dk.size = n) := hdk
    have HD : Hid (pdq ltInt dk a b L wb wp = D) := hD
    clear hD hdk
    by_cases h12 : b - a ≤ 12
    · have q1 : (b : Int) - (a : Int) ≤ 12 := by omega
      have hin := insSort_any g cap B a b dk wr ho w0 hb hab (by rw [HK.out]; exact hbn) (by rw [HK.out]; exact hn6)
      rw [HK.out] at hin
      have hE : insertionSort ltInt dk a b = D := by
        have h := HD.out
        rw [pdq, if_pos h12] at h
        exact h
      rw [hE] at hin
      clear hE
      go_wp2_with fail
      refine hin.mono ?_
      rintro e w1 ⟨rfl, h2, h3, h4⟩
      go_wp2_with fail
      refine bodyPost_ret (results_none rfl _ _ _) rfl ?_
      exact ⟨rfl, h2, h3, h4⟩
    have q1 : decide ((b : Int) - (a : Int) ≤ 12) = false := by simp; omega
    have q2 : ¬ (b : Int) - (a : Int) ≤ 12 := by omega
    by_cases hL0 : L = 0
    · subst hL0
      have hin := heapSort_any g cap B a b dk wr ho w0 hb (by omega) (by rw [HK.out]; exact hbn) (by rw [HK.out]; exact hn6)
      rw [HK.out] at hin
      have hE : heapSort ltInt dk a b = D := by
        have h := HD.out
        rw [pdq, if_neg h12, if_pos rfl] at h
        exact h
      rw [hE] at hin
      clear hE
      go_wp2_with fail
      refine hin.mono ?_
      rintro e w1 ⟨rfl, h2, h3, h4⟩
      go_wp2_with fail
      refine bodyPost_ret (results_none rfl _ _ _) rfl ?_
      exact ⟨rfl, h2, h3, h4⟩
    have q3 : ((L : Int) == 0) = false := by simp; omega
    obtain ⟨d1, hd1⟩ : ∃ d1, d1 = if !wb then breakPatterns dk a b else dk := ⟨_, rfl⟩
    obtain ⟨L1, hL1⟩ : ∃ L1, L1 = if !wb then L - 1 else L := ⟨_, rfl⟩
    have HP1 : Hid (d1 = (if !wb then breakPatterns dk a b else dk) ∧ L1 = (if !wb then L - 1 else L)) := ⟨hd1, hL1⟩
    clear hd1 hL1
    refine wp_block ?_
    refine wp_seq_k fun K1 hK1 => ?_
    have HK1 : Hid (∀ a w, _ → K1 a w) := hK1
    clear hK1
    go_wp2_with fail
    refine HK1.out _ _ ?_
    clear HK1
    refine wp_seq_k fun K2 hK2 => ?_
    have HK2 : Hid (∀ a w, _ → K2 a w) := hK2
    clear hK2
    go_wp2_with fail
    refine HK2.out _ _ ?_
    clear HK2
    refine wp_seq_k fun K3 hK3 => ?_
    have HK3 : Hid (∀ a w, _ → K3 a w) := hK3
    clear hK3
    go_wp2_with fail
    refine HK3.out _ _ ?_
    clear HK3
    refine wp_seq_k fun K4 hK4 => ?_
    go_cut [3] from 19 to 133 (fun s3 wc => s3 = .int .i64 L1 ∧ OwnA wc B g cap d1 ∧ d1.size = n ∧ RowKit.Below B w0 wc ∧ L1 ≤ 1000)
    case first =>
      cases wb with
      | true =>
        obtain ⟨e1, e2⟩ := HP1.out
        simp only [Bool.not_true, Bool.false_eq_true, if_false] at e1 e2
        subst e1 e2
        go_wp2_with fail
        go_meet
        case rel => exact ⟨rfl, ho, HK.out, hb, hL⟩
      | false =>
        obtain ⟨e1, e2⟩ := HP1.out
        simp only [Bool.not_false, if_true] at e1 e2
        have e3 : (L : Int) - 1 = (L1 : Int) := by omega
        have hin := breakPatterns_any g cap B a b dk wr ho w0 hb (by have := ho.lt; omega) (by omega) (by rw [HK.out]; exact hbn) (by rw [HK.out]; exact hn6)
        rw [HK.out, ← e1] at hin
        have hL1 : L1 ≤ 1000 := by omega
        clear e1 e2
        go_wp2_with fail
        refine hin.mono ?_
        rintro e w1 ⟨rfl, h2, h3, h4⟩
        go_wp2_with fail
        go_meet
        case rel => exact ⟨rfl, h2, h3, h4, hL1⟩
    case rest =>
      have HKd : Hid (dk.size = n) := HK
      clear ho hb HK hL q3
      obtain ⟨rfl, ho, hdk, hb, hL1⟩ := hcut
      have HK : Hid (d1.size = n) := hdk
      clear hdk
      refine hK4 _ _ ?_
      clear hK4
      have hcp := choosePivot_any g cap B a b d1 wc ho w0 hb (by have := ho.lt; omega) (by omega) (by rw [HK.out]; exact hbn) (by rw [HK.out]; exact hn6)
      rw [HK.out] at hcp
      have hrg := choosePivot_holds ltInt d1 a b (by omega)
      obtain ⟨C, hC⟩ : ∃ C, C = choosePivot ltInt d1 a b := ⟨_, rfl⟩
      rw [← hC] at hcp hrg
      have HC : Hid (C = choosePivot ltInt d1 a b) := hC
      clear hC
      obtain ⟨pv, hint⟩ := C
      simp only at hcp hrg
      obtain ⟨d2, hd2⟩ : ∃ d2, d2 = if hint = .decreasing then reverseRange d1 a b else d1 := ⟨_, rfl⟩
      obtain ⟨pv2, hpv2⟩ : ∃ pv2, pv2 = if hint = .decreasing then (b - 1) - (pv - a) else pv := ⟨_, rfl⟩
      obtain ⟨hint2, hhint2⟩ : ∃ hint2, hint2 = if hint = .decreasing then Hint.increasing else hint := ⟨_, rfl⟩
      have HP2 : Hid (d2 = (if hint = .decreasing then reverseRange d1 a b else d1) ∧ pv2 = (if hint = .decreasing then (b - 1) - (pv - a) else pv) ∧ hint2 = (if hint = .decreasing then Hint.increasing else hint)) := ⟨hd2, hpv2, hhint2⟩
      have hr2 : a ≤ pv2 ∧ pv2 < b := by rw [hpv2]; split <;> omega
      clear hd2 hpv2 hhint2
      refine wp_seq_k fun K5 hK5 => ?_
      have HK5 : Hid (∀ a w, _ → K5 a w) := hK5
      clear hK5
      go_wp2_with fail
      refine hcp.mono ?_
      rintro e w5 ⟨rfl, h2, h4⟩
      clear ho hb hcp
      go_wp2_with fail
      refine HK5.out _ _ ?_
      clear HK5
      refine wp_seq_k fun K6 hK6 => ?_
      go_cut [11, 12] from 19 to 133 (fun s11 s12 wc => s11 = .int .i64 pv2 ∧ s12 = .int .i64 (hintV hint2) ∧ OwnA wc B g cap d2 ∧ d2.size = n ∧ RowKit.Below B w0 wc)
      case first =>
        by_cases hdec : hint = .decreasing
        · subst hdec
          obtain ⟨e1, e2, e3⟩ := HP2.out
          simp only [if_true] at e1 e2 e3
          have y1 : hintV .decreasing = 2 := rfl
          have y2 : (pv : Int) - (a : Int) = ((pv - a : Nat) : Int) := by omega
          have y3 : (b : Int) - 1 - ((pv - a : Nat) : Int) = (pv2 : Int) := by omega
          have hin := reverse_any g cap B a b d1 w5 h2 w0 h4 (by omega) (by rw [HK.out]; exact hbn) (by rw [HK.out]; exact hn6)
          rw [HK.out, ← e1] at hin
          have HE3 : Hid (hint2 = .increasing) := e3
          clear e1 e2 e3
          go_wp2_with fail
          refine hin.mono ?_
          rintro e w6 ⟨rfl, h5, h6, h7⟩
          go_wp2_with fail
          go_meet
          case rel => exact ⟨rfl, by rw [HE3.out]; rfl, h5, h6, h7⟩
        · obtain ⟨e1, e2, e3⟩ := HP2.out
          rw [if_neg hdec] at e1 e2 e3
          have y1 : (hintV hint == 2) = false := by cases hint <;> first | rfl | exact absurd rfl hdec
          have HE : Hid (d1 = d2 ∧ pv = pv2 ∧ hint = hint2) := ⟨e1.symm, e2.symm, e3.symm⟩
          clear e1 e2 e3
          go_wp2_with fail
          go_meet
          case rel => exact ⟨by rw [HE.out.2.1], by rw [HE.out.2.2], HE.out.1 ▸ h2, HE.out.1 ▸ HK.out, h4⟩
      case rest =>
        clear h2 h4
        obtain ⟨rfl, rfl, ho, hdk2, hb⟩ := hcut
        have HK2 : Hid (d2.size = n) := hdk2
        clear hdk2 HK
        refine hK6 _ _ ?_
        clear hK6
        obtain ⟨PI, hPI⟩ : ∃ PI, PI = if wb && wp && hint2 = .increasing then partialInsertionSort ltInt d2 a b else (d2, false) := ⟨_, rfl⟩
        have HPI : Hid (PI = if wb && wp && hint2 = .increasing then partialInsertionSort ltInt d2 a b else (d2, false)) := hPI
        have HU : Hid (D = if PI.2 = true then PI.1 else if (a > 0 && !ltInt PI.1[a - 1]! PI.1[pv2]!) = true then (if _h : a < (partitionEqual ltInt PI.1 a b pv2).1 ∧ (partitionEqual ltInt PI.1 a b pv2).1 ≤ b then pdq ltInt (partitionEqual ltInt PI.1 a b pv2).2 (partitionEqual ltInt PI.1 a b pv2).1 b L1 wb wp else (partitionEqual ltInt PI.1 a b pv2).2) else (if _h : a ≤ (partition ltInt PI.1 a b pv2).1 ∧ (partition ltInt PI.1 a b pv2).1 < b then (if (partition ltInt PI.1 a b pv2).1 - a < b - (partition ltInt PI.1 a b pv2).1 then pdq ltInt (pdq ltInt (partition ltInt PI.1 a b pv2).2.2 a (partition ltInt PI.1 a b pv2).1 L1 true true) ((partition ltInt PI.1 a b pv2).1 + 1) b L1 (decide ((partition ltInt PI.1 a b pv2).1 - a ≥ (b - a) / 8)) (partition ltInt PI.1 a b pv2).2.1 else pdq ltInt (pdq ltInt (partition ltInt PI.1 a b pv2).2.2 ((partition ltInt PI.1 a b pv2).1 + 1) b L1 true true) a (partition ltInt PI.1 a b pv2).1 L1 (decide (b - (partition ltInt PI.1 a b pv2).1 ≥ (b - a) / 8)) (partition ltInt PI.1 a b pv2).2.1) else (partition ltInt PI.1 a b pv2).2.2)) := by
          show _ = _
          have h := HD.out
          rw [pdq, if_neg h12, if_neg hL0] at h
          simp only [← HP1.out.1, ← HP1.out.2, ← HC.out, ← HP2.out.1, ← HP2.out.2.1, ← HP2.out.2.2, ← hPI] at h
          exact h.symm
        clear hPI HD HP1 HC HP2
        refine wp_seq_k fun K7 hK7 => ?_
        go_cut [] from 19 to 133 (fun wc => OwnA wc B g cap PI.1 ∧ PI.1.size = n ∧ RowKit.Below B w0 wc ∧ PI.2 = false)
        case first =>
          by_cases hcnd : wb = true ∧ wp = true ∧ hint2 = .increasing
          · obtain ⟨rfl, rfl, rfl⟩ := hcnd
            have hin := partialIns_any g cap B a b d2 wc ho w0 hb (by omega) (by rw [HK2.out]; exact hbn) (by rw [HK2.out]; exact hn6)
            have hE : PI = partialInsertionSort ltInt d2 a b := by rw [HPI.out]; rfl
            rw [HK2.out, ← hE] at hin
            have y1 : hintV .increasing = 1 := rfl
            clear hE HPI
            obtain ⟨d3, ok⟩ := PI
            simp only at hin
            cases ok with
            | true =>
              have hDD : D = d3 := by have h := HU.out; simpa using h
              go_wp2_with fail
              refine hin.mono ?_
              rintro e w7 ⟨rfl, h5, h6, h7⟩
              go_wp2_with fail
              refine bodyPost_ret (results_none rfl _ _ _) rfl ?_
              rw [hDD]
              exact ⟨rfl, h5, h6, h7⟩
            | false =>
              go_wp2_with fail
              refine hin.mono ?_
              rintro e w7 ⟨rfl, h5, h6, h7⟩
              go_wp2_with fail
              go_meet
              case rel => exact ⟨h5, h6, h7, trivial⟩
          · have hE : PI = (d2, false) := by
              rw [HPI.out, if_neg]
              simpa [Bool.and_eq_true, and_assoc] using hcnd
            have HE : Hid (PI = (d2, false)) := hE
            clear hE HPI
            have hfin : ∀ W, OwnA W B g cap d2 → RowKit.Below B w0 W → OwnA W B g cap PI.1 ∧ PI.1.size = n ∧ RowKit.Below B w0 W ∧ PI.2 = false := fun W h1 h2 => by rw [HE.out]; exact ⟨h1, HK2.out, h2, rfl⟩
            have HF : Hid (∀ W, OwnA W B g cap d2 → RowKit.Below B w0 W → OwnA W B g cap PI.1 ∧ PI.1.size = n ∧ RowKit.Below B w0 W ∧ PI.2 = false) := hfin
            clear hfin
            cases wb with
            | false =>
              go_wp2_with fail
              go_meet
              case rel => exact HF.out _ ho hb
            | true =>
              cases wp with
              | false =>
                go_wp2_with fail
                go_meet
                case rel => exact HF.out _ ho hb
              | true =>
                have y1 : (hintV hint2 == 1) = false := by cases hint2 <;> first | rfl | exact absurd ⟨rfl, rfl, rfl⟩ hcnd
                go_wp2_with fail
                go_meet
                case rel => exact HF.out _ ho hb
        case rest =>
          clear ho hb HK2 HPI
          obtain ⟨ho, hdk3, hb, hPf⟩ := hcut
          refine hK7 _ _ ?_
          clear hK7
          obtain ⟨d3, ok⟩ := PI
          simp only at ho hdk3 hPf
          subst hPf
          have HK : Hid (d3.size = n) := hdk3
          have HV : Hid (_ = _) := HU.out
          simp only [Bool.false_eq_true, if_false] at HV
          clear hdk3 HU
          obtain ⟨hr3, hr4⟩ := hr2
          refine wp_seq_k fun K8 hK8 => ?_
          go_cut [1] from 19 to 133 (fun s1 wc => s1 = .int .i64 a ∧ OwnA wc B g cap d3 ∧ RowKit.Below B w0 wc ∧ (a > 0 && !ltInt d3[a - 1]! d3[pv2]!) = false)
          case first =>
            by_cases ha0 : 0 < a
            · have y1 : (a : Int) > 0 := by omega
              have y2 : (a : Int) - 1 = ((a - 1 : Nat) : Int) := by omega
              have y3 : ((a - 1 : Nat) : Int) < (n : Int) := by omega
              have y4 : (pv2 : Int) < (n : Int) := by omega
              have c1 := ho.cell (a - 1) (by rw [HK.out]; omega)
              have c2 := ho.cell pv2 (by rw [HK.out]; omega)
              obtain ⟨X, hX0⟩ : ∃ X, X = d3[a - 1]! := ⟨_, rfl⟩
              obtain ⟨Y, hY0⟩ : ∃ Y, Y = d3[pv2]! := ⟨_, rfl⟩
              rw [← hX0] at c1
              rw [← hY0] at c2
              have HX : Hid (X = d3[a - 1]!) := hX0
              have HY : Hid (Y = d3[pv2]!) := hY0
              clear hX0 hY0
              by_cases hXY : X < Y
              · have hXY' : decide (X < Y) = true := by simpa using hXY
                go_wp2_with fail
                go_quiet (first | (go_at_call 46; refine Calls.quiet_of_same (less_any X Y _)))
                go_wp2_with fail
                go_meet
                case rel => exact ⟨rfl, ho.drewN _, bel_drewN hb _, by simp [ltInt, ← HX.out, ← HY.out, hXY]⟩
              · have hXY' : decide (X < Y) = false := by simpa using hXY
                have hpe := fun W (h1 : OwnA W B g cap d3) (h2 : RowKit.Below B w0 W) => partitionEqual_any g cap B a b pv2 d3 W h1 w0 h2 hr3 hr4 (by rw [HK.out]; exact hbn) (by rw [HK.out]; exact hn6)
                rw [HK.out] at hpe
                obtain ⟨PE, hPE⟩ : ∃ PE, PE = partitionEqual ltInt d3 a b pv2 := ⟨_, rfl⟩
                rw [← hPE] at hpe
                have HQ : Hid (D = if _h : a < PE.1 ∧ PE.1 ≤ b then pdq ltInt PE.2 PE.1 b L1 wb wp else PE.2) := by
                  show _ = _
                  have h := HV.out
                  rw [if_pos (by simp [ltInt, ← HX.out, ← HY.out, ha0]; omega), ← hPE] at h
                  exact h
                clear hPE HV
                obtain ⟨mid, d4⟩ := PE
                simp only at hpe HQ
                go_wp2_with fail
                go_quiet (first | (go_at_call 46; refine Calls.quiet_of_same (less_any X Y _)))
                go_wp2_with fail
                refine (hpe _ (ho.drewN _) (bel_drewN hb _)).mono ?_
                rintro e w8 ⟨rfl, h5, h6, h7, h8, h9⟩
                clear hpe
                go_wp2_with fail
                go_roundw
                case rel =>
                  have hrel2 : ∃ (a' b' L' : Nat) (wb' wp' : Bool) (dk' : Array Int), b' - a' ≤ m ∧ a' ≤ b' ∧ b' ≤ n ∧ L' ≤ 1000 ∧ Value.int .i64 mid = .int .i64 a' ∧ Value.int .i64 b = .int .i64 b' ∧ Value.int .i64 L1 = .int .i64 L' ∧ Value.bool wb = .bool wb' ∧ Value.bool wp = .bool wp' ∧ OwnA w8 B g cap dk' ∧ dk'.size = n ∧ RowKit.Below B w0 w8 ∧ pdq ltInt dk' a' b' L' wb' wp' = D := ⟨mid, b, L1, wb, wp, d4, by omega, by omega, hbn, hL1, rfl, rfl, rfl, rfl, rfl, h5, h6, h7, by have h := HQ.out; rw [dif_pos ⟨h8, h9⟩] at h; exact h.symm⟩
                  first | exact hrel2 | ((repeat apply Exists.intro); exact ⟨hrel2, rfl⟩)
                case measure => simp [intOf]; omega
            · obtain rfl : a = 0 := by omega
              go_wp2_with fail
              go_quiet (first | (go_at_call 46; refine Calls.quiet_of_same (less_any 0 0 _)))
              go_wp2_with fail
              go_meet
              case rel => exact ⟨rfl, ho.drewN _, bel_drewN hb _, by simp⟩
          case rest =>
            clear ho hb
            obtain ⟨rfl, ho, hb, hcf⟩ := hcut
            refine hK8 _ _ ?_
            clear hK8
            have hpa := partition_any g cap B a b pv2 d3 wc ho w0 hb hr3 hr4 (by rw [HK.out]; exact hbn) (by rw [HK.out]; exact hn6)
            have hrg2 := partition_holds ltInt swo_int d3 a b pv2 hr3 hr4 (by rw [HK.out]; exact hbn)
            rw [HK.out] at hpa
            obtain ⟨PA, hPA⟩ : ∃ PA, PA = partition ltInt d3 a b pv2 := ⟨_, rfl⟩
            rw [← hPA] at hpa hrg2
            have HQ : Hid (D = if _h : a ≤ PA.1 ∧ PA.1 < b then (if PA.1 - a < b - PA.1 then pdq ltInt (pdq ltInt PA.2.2 a PA.1 L1 true true) (PA.1 + 1) b L1 (decide (PA.1 - a ≥ (b - a) / 8)) PA.2.1 else pdq ltInt (pdq ltInt PA.2.2 (PA.1 + 1) b L1 true true) a PA.1 L1 (decide (b - PA.1 ≥ (b - a) / 8)) PA.2.1) else PA.2.2) := by
              show _ = _
              have h := HV.out
              rw [if_neg (by rw [hcf]; simp), ← hPA] at h
              exact h
            clear hPA HV hcf
            obtain ⟨mid, alr, d4⟩ := PA
            simp only at hpa hrg2 HQ
            obtain ⟨hg1, hg2, _⟩ := hrg2
            obtain ⟨l, hl⟩ : ∃ l, l = b - a := ⟨_, rfl⟩
            obtain ⟨q8, hq8⟩ : ∃ q8, q8 = l / 8 := ⟨_, rfl⟩
            obtain ⟨lm, hlm⟩ : ∃ lm, lm = mid - a := ⟨_, rfl⟩
            obtain ⟨rm, hrm⟩ : ∃ rm, rm = b - mid := ⟨_, rfl⟩
            have e0 : (b : Int) - (a : Int) = (l : Int) := by omega
            have e8 : (l : Int) / 8 = (q8 : Int) := by omega
            have e8' : (l : Int).tdiv 8 = (q8 : Int) := by rw [Int.tdiv_eq_ediv_of_nonneg (by omega)]; exact e8
            have e9 : (mid : Int) - (a : Int) = (lm : Int) := by omega
            have e10 : (b : Int) - (mid : Int) = (rm : Int) := by omega
            have HQ2 : Hid (D = if lm < rm then pdq ltInt (pdq ltInt d4 a mid L1 true true) (mid + 1) b L1 (decide (lm ≥ q8)) alr else pdq ltInt (pdq ltInt d4 (mid + 1) b L1 true true) a mid L1 (decide (rm ≥ q8)) alr) := by
              show _ = _
              have h := HQ.out
              rw [dif_pos ⟨hg1, hg2⟩, ← hl, ← hq8, ← hlm, ← hrm] at h
              exact h
            have hlmb : mid - a < m ∧ b - (mid + 1) < m := by omega
            clear HQ hl hq8 hlm hrm q1 q2
            by_cases hlr : lm < rm
            · have z1 : (lm : Int) < (rm : Int) := by omega
              have hih := fun W h1 h2 h3 => HIH.out a mid L1 d4 W hlmb.1 hg1 (by omega) hL1 h1 h2 h3
              obtain ⟨d5, hd5⟩ : ∃ d5, d5 = pdq ltInt d4 a mid L1 true true := ⟨_, rfl⟩
              have HQ3 : Hid (D = pdq ltInt d5 (mid + 1) b L1 (decide (q8 ≤ lm)) alr) := by show _ = _; have h := HQ2.out; rw [if_pos hlr, ← hd5] at h; exact h
              rw [← hd5] at hih
              clear HQ2 hd5
              go_wp2_with fail
              refine hpa.mono ?_
              rintro e w8 ⟨rfl, h5, h6, h7⟩
              clear hpa
              go_wp2_with fail
              refine (hih _ h6 h5 h7).mono ?_
              rintro e w9 ⟨rfl, h8, h9, h10⟩
              clear hih
              go_wp2_with fail
              go_roundw
              case rel =>
                have hrel2 : ∃ (a' b' L' : Nat) (wb' wp' : Bool) (dk' : Array Int), b' - a' ≤ m ∧ a' ≤ b' ∧ b' ≤ n ∧ L' ≤ 1000 ∧ Value.int .i64 ((mid : Int) + 1) = .int .i64 a' ∧ Value.int .i64 b = .int .i64 b' ∧ Value.int .i64 L1 = .int .i64 L' ∧ Value.bool (decide (q8 ≤ lm)) = .bool wb' ∧ Value.bool alr = .bool wp' ∧ OwnA w9 B g cap dk' ∧ dk'.size = n ∧ RowKit.Below B w0 w9 ∧ pdq ltInt dk' a' b' L' wb' wp' = D := ⟨mid + 1, b, L1, decide (q8 ≤ lm), alr, d5, by omega, by omega, hbn, hL1, by go_num, rfl, rfl, rfl, rfl, h8, h9, h10, HQ3.out.symm⟩
                first | exact hrel2 | ((repeat apply Exists.intro); exact ⟨hrel2, rfl⟩)
              case measure => simp [intOf]; omega
            · have z1 : decide ((lm : Int) < (rm : Int)) = false := by simp; omega
              have z1' : ¬ (lm : Int) < (rm : Int) := by omega
              have hih := fun W h1 h2 h3 => HIH.out (mid + 1) b L1 d4 W hlmb.2 (by omega) hbn hL1 h1 h2 h3
              rw [show ((mid + 1 : Nat) : Int) = (mid : Int) + 1 by omega] at hih
              obtain ⟨d5, hd5⟩ : ∃ d5, d5 = pdq ltInt d4 (mid + 1) b L1 true true := ⟨_, rfl⟩
              have HQ3 : Hid (D = pdq ltInt d5 a mid L1 (decide (q8 ≤ rm)) alr) := by show _ = _; have h := HQ2.out; rw [if_neg hlr, ← hd5] at h; exact h
              rw [← hd5] at hih
              clear HQ2 hd5
              go_wp2_with fail
              refine hpa.mono ?_
              rintro e w8 ⟨rfl, h5, h6, h7⟩
              clear hpa
              go_wp2_with fail
              refine (hih _ h6 h5 h7).mono ?_
              rintro e w9 ⟨rfl, h8, h9, h10⟩
              clear hih
              go_wp2_with fail
              go_roundw
              case rel =>
                have hrel2 : ∃ (a' b' L' : Nat) (wb' wp' : Bool) (dk' : Array Int), b' - a' ≤ m ∧ a' ≤ b' ∧ b' ≤ n ∧ L' ≤ 1000 ∧ Value.int .i64 a = .int .i64 a' ∧ Value.int .i64 mid = .int .i64 b' ∧ Value.int .i64 L1 = .int .i64 L' ∧ Value.bool (decide (q8 ≤ rm)) = .bool wb' ∧ Value.bool alr = .bool wp' ∧ OwnA w9 B g cap dk' ∧ dk'.size = n ∧ RowKit.Below B w0 w9 ∧ pdq ltInt dk' a' b' L' wb' wp' = D := ⟨a, mid, L1, decide (q8 ≤ rm), alr, d5, by omega, hg1, by omega, hL1, rfl, rfl, rfl, rfl, rfl, h8, h9, h10, HQ3.out.symm⟩
                first | exact hrel2 | ((repeat apply Exists.intro); exact ⟨hrel2, rfl⟩)
              case measure => simp [intOf]; omega

theorem pdq_any (g cap B : Nat) (w0 : World) (n : Nat) (hn6 : n ≤ 1000000) : ∀ (m a b L : Nat) (d : Array Int) (w : World), b - a ≤ m → a ≤ b → b ≤ n → L ≤ 1000 → d.size = n → OwnA w B g cap d → RowKit.Below B w0 w →
      Calls Try.prog 43 #[.slice (some ⟨g, 0, none⟩) n cap, .int .i64 a, .int .i64 b, .int .i64 L] w fun e w' => e = .returned (.tuple #[]) ∧ OwnA w' B g cap (pdq ltInt d a b L true true) ∧ (pdq ltInt d a b L true true).size = n ∧ RowKit.Below B w0 w' := by
  intro m
  induction m with
  | zero => exact fun a b L d w hm => pdq_step 0 g cap B w0 n hn6 (fun a b L d w h => absurd h (by omega)) a b L d w hm
  | succ m ih => exact fun a b L d w hm => pdq_step (m + 1) g cap B w0 n hn6 (fun a b L d w h => ih a b L d w (by omega)) a b L d w hm

theorem bitsLen_le (n : Nat) (h : n ≤ 1000000) : bitsLen n ≤ 1000 := by
  unfold bitsLen
  split
  · omega
  · have h1 := Nat.log2_self_le (n := n) (by omega)
    by_cases hc : Nat.log2 n ≤ 999
    · omega
    · have h2 : (2 : Nat) ^ 20 ≤ 2 ^ Nat.log2 n := Nat.pow_le_pow_right (by omega) (by omega)
      omega

set_option maxHeartbeats 1000000 in
theorem sort_any (g cap B : Nat) (d : Array Int) (w : World) (hown : OwnA w B g cap d) (w0 : World) (hb0 : RowKit.Below B w0 w) (hn6 : d.size ≤ 1000000) :
    Calls Try.prog 32 #[.slice (some ⟨g, 0, none⟩) d.size cap] w fun e w' => e = .returned (.tuple #[]) ∧ ∃ d' : Array Int, OwnA w' B g cap d' ∧ PermIn 0 d.size d d' ∧ SortedIn ltInt 0 d.size d' ∧ RowKit.Below B w0 w' := by
  have hu : IntKind.u64.wrap (d.size : Int) = (d.size : Int) := by rw [IntKind.wrap_u64]; omega
  have hp := pdq_any g cap B w0 d.size hn6 d.size 0 d.size (bitsLen d.size) d w (by omega) (by omega) (by omega) (bitsLen_le _ hn6) rfl hown hb0
  have hss := sort_sorts ltInt swo_int d
  unfold Go.Sort.sort at hss
  generalize pdq ltInt d 0 d.size (bitsLen d.size) true true = D at hp hss
  go_enter Try.func32, Try.ntmps32
  go_wp2_with fail
  refine (bitLen_any d.size hn6 _).mono ?_
  rintro e w1 ⟨rfl, rfl⟩
  go_wp2_with fail
  refine hp.mono ?_
  rintro e w1 ⟨rfl, h2, h3, h4⟩
  go_wp2_with fail
  go_end0
  exact ⟨rfl, D, h2, hss.1, hss.2, h4⟩

/-- cats.Make: the set of a list's categories. -/
theorem make_any (a : Option Addr) (n cap : Nat) (xs : List Int) (w : World) (hr : RowW w a n cap xs) (hbd : n ≤ 1000000) (hnn : 0 < n) :
    Calls Try.prog 13 #[.slice a n cap] w fun e w' => ∃ so k co zs, e = .returned (.slice so k co) ∧ OwnW 27 w' w.heap.size so k co zs ∧ RowKit.Below w.heap.size w w' ∧ Srt zs ∧ (∀ x, x ∈ zs ↔ x ∈ xs) ∧ k ≤ n :=
  make_of n hbd (fun g cap B d w w0 hd ho hb => sort_any g cap B d w ho w0 hb (by omega)) a cap xs w hr hnn
end Go.Proofs.Ytpajojkhpnklfaa
