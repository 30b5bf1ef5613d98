/- The library's heap sort and reversal of lists of categories: the row holds what the plain function says. -/
import Derived.Test.YtpajojkhpnklfaaSort
namespace Go.Proofs.Ytpajojkhpnklfaa
open Go.RowKit Go.Sort

/-- Between the two stores of an exchange, also of one place with itself. -/
theorem OwnA.mid {w : World} {B g cap : Nat} {d : Array Int} (h : OwnA w B g cap d) (i j : Nat) (hj : j < d.size) (v : Value) (hv : v = .int .u16 d[j]!) : (w.setCell ⟨g, i, none⟩ v).cell? ⟨g, j, none⟩ = some v := by
  by_cases e : i = j
  · subst e; exact World.cell?_setCell_same _ _ _ (h.cell i hj)
  · rw [World.cell?_setCell_other _ _ _ _ (by simp), h.cell j hj, hv]

set_option maxHeartbeats 4000000 in
theorem siftDown_any (g cap B lo hi first : Nat) (d : Array Int) (w : World) (hown : OwnA w B g cap d) (w0 : World) (hb0 : RowKit.Below B w0 w) (hlo : lo ≤ 1000000) (hfh : first + hi ≤ d.size) (hsz : d.size ≤ 1000000) :
    Calls Try.prog 61 #[.slice (some ⟨g, 0, none⟩) d.size cap, .int .i64 lo, .int .i64 hi, .int .i64 first] w fun e w' => e = .returned (.tuple #[]) ∧ OwnA w' B g cap (siftDown ltInt hi first lo d) ∧ (siftDown ltInt hi first lo d).size = d.size ∧ RowKit.Below B w0 w' := by
  have hBg := hown.lt.1
  obtain ⟨n, hn⟩ : ∃ n, n = d.size := ⟨_, rfl⟩
  obtain ⟨D, hD⟩ : ∃ D, D = siftDown ltInt hi first lo d := ⟨_, rfl⟩
  rw [← hn] at hfh hsz ⊢
  rw [← hD]
  have HD : Hid (siftDown ltInt hi first lo d = D) := hD.symm
  have HN : Hid (d.size = n) := hn.symm
  clear hD hn
  go_enter Try.func61, Try.ntmps61
  go_wp2_with fail
  go_loopw [8] (fun rv wr => ∃ (r : Nat) (dk : Array Int), r ≤ 1000000 ∧ rv = .int .i64 r ∧ OwnA wr B g cap dk ∧ dk.size = n ∧ RowKit.Below B w0 wr ∧ siftDown ltInt hi first r dk = D) (fun rv _ => hi - (intOf rv).toNat)
  case atStart => exact ⟨lo, d, hlo, rfl, hown, HN.out, hb0, HD.out⟩
  case round =>
    clear hown hb0
    obtain ⟨r, dk, hr, rfl, hown, hdk, hb0, hD⟩ := hrel
    have HD2 : Hid (siftDown ltInt hi first r dk = D) := hD
    have HK : Hid (dk.size = n) := hdk
    clear hD hdk HD
    by_cases hge : hi ≤ 2 * r + 1
    · have p1 : (2 : Int) * (r : Int) + 1 ≥ (hi : Int) := by omega
      go_wp2_with fail
      go_end0
      have h1 := HD2.out
      rw [siftDown, dif_pos hge] at h1
      subst h1
      exact ⟨rfl, hown, HK.out, hb0⟩
    · have p1 : decide ((2 : Int) * (r : Int) + 1 ≥ (hi : Int)) = false := by simp; omega
      have p1' : ¬ (2 : Int) * (r : Int) + 1 ≥ (hi : Int) := by omega
      obtain ⟨ch, hch⟩ : ∃ ch : Nat, ch = 2 * r + 1 := ⟨_, rfl⟩
      obtain ⟨p, hp⟩ : ∃ p : Nat, p = first + r := ⟨_, rfl⟩
      obtain ⟨c1, hc1⟩ : ∃ c : Nat, c = first + ch := ⟨_, rfl⟩
      obtain ⟨c2, hc2⟩ : ∃ c : Nat, c = c1 + 1 := ⟨_, rfl⟩
      have e1 : (2 : Int) * (r : Int) + 1 = (ch : Int) := by omega
      have e2 : (first : Int) + (r : Int) = (p : Int) := by omega
      have e3 : (first : Int) + (ch : Int) = (c1 : Int) := by omega
      have e4 : (c1 : Int) + 1 = (c2 : Int) := by omega
      have e6 : (first : Int) + ((ch : Int) + 1) = (c2 : Int) := by omega
      have l1 : (p : Int) < (n : Int) := by omega
      have l2 : (c1 : Int) < (n : Int) := by omega
      have lp : p < n := by omega
      have lc : c1 < n := by omega
      have lc2 : ch + 1 < hi → c2 < n := by omega
      have lch : r < ch := by omega
      have hchi : ch < hi := by omega
      have HE : Hid (ch = 2 * r + 1 ∧ p = first + r ∧ c1 = first + ch ∧ c2 = c1 + 1) := ⟨hch, hp, hc1, hc2⟩
      clear hch hp hc1 hc2
      have k0 := hown.cell p (by rw [HK.out]; omega)
      have k1 := hown.cell c1 (by rw [HK.out]; omega)
      have m0 := hown.melt p
      have m1 := hown.melt c1
      have m2 := hown.melt c2
      generalize hA0 : dk[p]! = A at k0
      generalize hX0 : dk[c1]! = X1 at k1
      have HA : Hid (A = dk[p]!) := hA0.symm
      have HX1 : Hid (X1 = dk[c1]!) := hX0.symm
      clear hA0 hX0
      by_cases hlt : ch + 1 < hi
      · have q1 : (ch : Int) + 1 < (hi : Int) := by omega
        have lc3 := lc2 hlt
        have l3 : (c2 : Int) < (n : Int) := by omega
        have k2 := hown.cell c2 (by rw [HK.out]; omega)
        generalize hY0 : dk[c2]! = X2 at k2
        have HX2 : Hid (X2 = dk[c2]!) := hY0.symm
        clear hY0
        by_cases hX : X1 < X2
        · have hX' : decide (X1 < X2) = true := by simpa using hX
          by_cases hA : A < X2
          · have hA' : decide (A < X2) = true := by simpa using hA
            have hsz2 := swp_size dk p c2
            go_wp2_with fail
            go_quiet (first | (go_at_call 46; refine Calls.quiet_of_same (less_any _ _ _)))
            go_wp2_with fail
            obtain ⟨W1, hW1⟩ : ∃ W1, W1 = wr.drewN nq := ⟨_, rfl⟩
            have ho1 : OwnA W1 B g cap dk := by rw [hW1]; exact hown.drewN nq
            have hb1 : RowKit.Below B w0 W1 := by rw [hW1]; exact bel_drewN hb0 nq
            rw [← hW1]
            have j0 := ho1.cell p (by rw [HK.out]; omega)
            have j1 := ho1.cell c2 (by rw [HK.out]; omega)
            rw [← HA.out] at j0
            rw [← HX2.out] at j1
            have n0 := ho1.melt p
            have n1 := ho1.melt c2
            clear hW1
            go_quiet (first | (go_at_call 46; refine Calls.quiet_of_same (less_any A X2 _)))
            go_wp2_with fail
            have hsw := ho1.swap p c2 (by rw [HK.out]; omega) (by rw [HK.out]; omega)
            rw [← HA.out, ← HX2.out] at hsw
            go_region
            all_goals go_wp2
            go_roundw
            case rel =>
              refine ⟨ch + 1, swp dk p c2, by omega, by go_num, ?_, by rw [hsz2]; exact HK.out, ?_, ?_⟩
              · exact hsw.drewN _
              · exact ((bel_drewN hb1 _).setCell hBg _).setCell hBg _
              · have h1 := HD2.out
                obtain ⟨hch, hp, hc1, hc2⟩ := HE.out
                rw [siftDown, dif_neg (by omega)] at h1
                rw [if_pos (by rw [show first + (2 * r + 1) = c1 by omega, show c1 + 1 = c2 by omega, ← HX1.out, ← HX2.out]; simp [ltInt, hX]; omega)] at h1
                rw [show first + r = p by omega, show first + (2 * r + 2) = c2 by omega, ← HA.out, ← HX2.out] at h1
                rw [if_neg (by simp [ltInt, hA]), dif_pos (by omega), show 2 * r + 2 = ch + 1 by omega] at h1
                exact h1
            case measure => simp [intOf]; omega
          · have hA' : decide (A < X2) = false := by simpa using hA
            go_wp2_with fail
            go_quiet (first | (go_at_call 46; refine Calls.quiet_of_same (less_any _ _ _)))
            go_wp2_with fail
            obtain ⟨W1, hW1⟩ : ∃ W1, W1 = wr.drewN nq := ⟨_, rfl⟩
            have ho1 : OwnA W1 B g cap dk := by rw [hW1]; exact hown.drewN nq
            have hb1 : RowKit.Below B w0 W1 := by rw [hW1]; exact bel_drewN hb0 nq
            rw [← hW1]
            have j0 := ho1.cell p (by rw [HK.out]; omega)
            have j1 := ho1.cell c2 (by rw [HK.out]; omega)
            rw [← HA.out] at j0
            rw [← HX2.out] at j1
            have n0 := ho1.melt p
            have n1 := ho1.melt c2
            clear hW1
            go_quiet (first | (go_at_call 46; refine Calls.quiet_of_same (less_any A X2 _)))
            go_wp2_with fail
            try simp only [Exit.inBlock, Exit.then]
            refine bodyPost_ret (results_none rfl _ _ _) rfl ?_
            have h1 := HD2.out
            obtain ⟨hch, hp, hc1, hc2⟩ := HE.out
            rw [siftDown, dif_neg (by omega)] at h1
            rw [if_pos (by rw [show first + (2 * r + 1) = c1 by omega, show c1 + 1 = c2 by omega, ← HX1.out, ← HX2.out]; simp [ltInt, hX]; omega)] at h1
            rw [show first + r = p by omega, show first + (2 * r + 2) = c2 by omega, ← HA.out, ← HX2.out] at h1
            rw [if_pos (by simp [ltInt]; omega)] at h1
            subst h1
            exact ⟨rfl, ho1.drewN _, HK.out, bel_drewN hb1 _⟩
        · have hX' : decide (X1 < X2) = false := by simpa using hX
          by_cases hA : A < X1
          · have hA' : decide (A < X1) = true := by simpa using hA
            have hsz2 := swp_size dk p c1
            go_wp2_with fail
            go_quiet (first | (go_at_call 46; refine Calls.quiet_of_same (less_any _ _ _)))
            go_wp2_with fail
            obtain ⟨W1, hW1⟩ : ∃ W1, W1 = wr.drewN nq := ⟨_, rfl⟩
            have ho1 : OwnA W1 B g cap dk := by rw [hW1]; exact hown.drewN nq
            have hb1 : RowKit.Below B w0 W1 := by rw [hW1]; exact bel_drewN hb0 nq
            rw [← hW1]
            have j0 := ho1.cell p (by rw [HK.out]; omega)
            have j1 := ho1.cell c1 (by rw [HK.out]; omega)
            rw [← HA.out] at j0
            rw [← HX1.out] at j1
            have n0 := ho1.melt p
            have n1 := ho1.melt c1
            clear hW1
            go_quiet (first | (go_at_call 46; refine Calls.quiet_of_same (less_any A X1 _)))
            go_wp2_with fail
            have hsw := ho1.swap p c1 (by rw [HK.out]; omega) (by rw [HK.out]; omega)
            rw [← HA.out, ← HX1.out] at hsw
            go_region
            all_goals go_wp2
            go_roundw
            case rel =>
              refine ⟨ch, swp dk p c1, by omega, by go_num, ?_, by rw [hsz2]; exact HK.out, ?_, ?_⟩
              · exact hsw.drewN _
              · exact ((bel_drewN hb1 _).setCell hBg _).setCell hBg _
              · have h1 := HD2.out
                obtain ⟨hch, hp, hc1, hc2⟩ := HE.out
                rw [siftDown, dif_neg (by omega)] at h1
                rw [if_neg (by rw [show first + (2 * r + 1) = c1 by omega, ← HX1.out]; rw [show c1 + 1 = c2 by omega, ← HX2.out]; simp [ltInt]; omega)] at h1
                rw [show first + r = p by omega, ← HA.out, show first + (2 * r + 1) = c1 by omega, ← HX1.out] at h1
                rw [if_neg (by simp [ltInt, hA]), show 2 * r + 1 = ch by omega] at h1
                exact h1
            case measure => simp [intOf]; omega
          · have hA' : decide (A < X1) = false := by simpa using hA
            go_wp2_with fail
            go_quiet (first | (go_at_call 46; refine Calls.quiet_of_same (less_any _ _ _)))
            go_wp2_with fail
            obtain ⟨W1, hW1⟩ : ∃ W1, W1 = wr.drewN nq := ⟨_, rfl⟩
            have ho1 : OwnA W1 B g cap dk := by rw [hW1]; exact hown.drewN nq
            have hb1 : RowKit.Below B w0 W1 := by rw [hW1]; exact bel_drewN hb0 nq
            rw [← hW1]
            have j0 := ho1.cell p (by rw [HK.out]; omega)
            have j1 := ho1.cell c1 (by rw [HK.out]; omega)
            rw [← HA.out] at j0
            rw [← HX1.out] at j1
            have n0 := ho1.melt p
            have n1 := ho1.melt c1
            clear hW1
            go_quiet (first | (go_at_call 46; refine Calls.quiet_of_same (less_any A X1 _)))
            go_wp2_with fail
            try simp only [Exit.inBlock, Exit.then]
            refine bodyPost_ret (results_none rfl _ _ _) rfl ?_
            have h1 := HD2.out
            obtain ⟨hch, hp, hc1, hc2⟩ := HE.out
            rw [siftDown, dif_neg (by omega)] at h1
            rw [if_neg (by rw [show first + (2 * r + 1) = c1 by omega, ← HX1.out]; rw [show c1 + 1 = c2 by omega, ← HX2.out]; simp [ltInt]; omega)] at h1
            rw [show first + r = p by omega, ← HA.out, show first + (2 * r + 1) = c1 by omega, ← HX1.out] at h1
            rw [if_pos (by simp [ltInt]; omega)] at h1
            subst h1
            exact ⟨rfl, ho1.drewN _, HK.out, bel_drewN hb1 _⟩
      · have q1 : decide ((ch : Int) + 1 < (hi : Int)) = false := by simp; omega
        have q2 : ¬ (ch : Int) + 1 < (hi : Int) := by omega
        by_cases hA : A < X1
        · have hA' : decide (A < X1) = true := by simpa using hA
          have hsz2 := swp_size dk p c1
          go_wp2_with fail
          go_quiet (first | (go_at_call 46; refine Calls.quiet_of_same (less_any _ _ _)))
          go_wp2_with fail
          obtain ⟨W1, hW1⟩ : ∃ W1, W1 = wr.drewN nq := ⟨_, rfl⟩
          have ho1 : OwnA W1 B g cap dk := by rw [hW1]; exact hown.drewN nq
          have hb1 : RowKit.Below B w0 W1 := by rw [hW1]; exact bel_drewN hb0 nq
          rw [← hW1]
          have j0 := ho1.cell p (by rw [HK.out]; omega)
          have j1 := ho1.cell c1 (by rw [HK.out]; omega)
          rw [← HA.out] at j0
          rw [← HX1.out] at j1
          have n0 := ho1.melt p
          have n1 := ho1.melt c1
          clear hW1
          go_quiet (first | (go_at_call 46; refine Calls.quiet_of_same (less_any A X1 _)))
          go_wp2_with fail
          have hsw := ho1.swap p c1 (by rw [HK.out]; omega) (by rw [HK.out]; omega)
          rw [← HA.out, ← HX1.out] at hsw
          go_region
          all_goals go_wp2
          go_roundw
          case rel =>
            refine ⟨ch, swp dk p c1, by omega, by go_num, ?_, by rw [hsz2]; exact HK.out, ?_, ?_⟩
            · exact hsw.drewN _
            · exact ((bel_drewN hb1 _).setCell hBg _).setCell hBg _
            · have h1 := HD2.out
              obtain ⟨hch, hp, hc1, hc2⟩ := HE.out
              rw [siftDown, dif_neg (by omega)] at h1
              rw [if_neg (by rw [show first + (2 * r + 1) = c1 by omega, ← HX1.out]; simp; omega)] at h1
              rw [show first + r = p by omega, ← HA.out, show first + (2 * r + 1) = c1 by omega, ← HX1.out] at h1
              rw [if_neg (by simp [ltInt, hA]), show 2 * r + 1 = ch by omega] at h1
              exact h1
          case measure => simp [intOf]; omega
        · have hA' : decide (A < X1) = false := by simpa using hA
          go_wp2_with fail
          go_quiet (first | (go_at_call 46; refine Calls.quiet_of_same (less_any _ _ _)))
          go_wp2_with fail
          obtain ⟨W1, hW1⟩ : ∃ W1, W1 = wr.drewN nq := ⟨_, rfl⟩
          have ho1 : OwnA W1 B g cap dk := by rw [hW1]; exact hown.drewN nq
          have hb1 : RowKit.Below B w0 W1 := by rw [hW1]; exact bel_drewN hb0 nq
          rw [← hW1]
          have j0 := ho1.cell p (by rw [HK.out]; omega)
          have j1 := ho1.cell c1 (by rw [HK.out]; omega)
          rw [← HA.out] at j0
          rw [← HX1.out] at j1
          have n0 := ho1.melt p
          have n1 := ho1.melt c1
          clear hW1
          go_quiet (first | (go_at_call 46; refine Calls.quiet_of_same (less_any A X1 _)))
          go_wp2_with fail
          try simp only [Exit.inBlock, Exit.then]
          refine bodyPost_ret (results_none rfl _ _ _) rfl ?_
          have h1 := HD2.out
          obtain ⟨hch, hp, hc1, hc2⟩ := HE.out
          rw [siftDown, dif_neg (by omega)] at h1
          rw [if_neg (by rw [show first + (2 * r + 1) = c1 by omega, ← HX1.out]; simp; omega)] at h1
          rw [show first + r = p by omega, ← HA.out, show first + (2 * r + 1) = c1 by omega, ← HX1.out] at h1
          rw [if_pos (by simp [ltInt]; omega)] at h1
          subst h1
          exact ⟨rfl, ho1.drewN _, HK.out, bel_drewN hb1 _⟩

end Go.Proofs.Ytpajojkhpnklfaa
