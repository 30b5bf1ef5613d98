/- The library's heap sort and reversal of lists of categories: the row holds what the plain function says. -/
import Derived.Test.YtpajojkhpnklfaaSift
namespace Go.Proofs.Ytpajojkhpnklfaa
open Go.RowKit Go.Sort

set_option maxHeartbeats 4000000 in
theorem heapSort_any (g cap B a b : Nat) (d : Array Int) (w : World) (hown : OwnA w B g cap d) (w0 : World) (hb0 : RowKit.Below B w0 w) (hab : a < b) (hb : b ≤ d.size) (hsz : d.size ≤ 1000000) :
    Calls Try.prog 51 #[.slice (some ⟨g, 0, none⟩) d.size cap, .int .i64 a, .int .i64 b] w fun e w' => e = .returned (.tuple #[]) ∧ OwnA w' B g cap (heapSort ltInt d a b) ∧ (heapSort ltInt d a b).size = d.size ∧ RowKit.Below B w0 w' := by
  have hBg := hown.lt.1
  obtain ⟨n, hn⟩ : ∃ n, n = d.size := ⟨_, rfl⟩
  obtain ⟨D, hD⟩ : ∃ D, D = heapSort ltInt d a b := ⟨_, rfl⟩
  obtain ⟨hi, hhi⟩ : ∃ hi, hi = b - a := ⟨_, rfl⟩
  have e1 : (b : Int) - (a : Int) = (hi : Int) := by omega
  have hfh : a + hi ≤ n := by omega
  have HD : Hid (heapPop ltInt a hi (heapBuild ltInt hi a ((hi - 1) / 2 + 1) d) = D) := by show _ = _; rw [hD, heapSort, hhi]
  have hsz' : n ≤ 1000000 := by omega
  rw [← hn]
  rw [← hD]
  have HN : Hid (d.size = n) := hn.symm
  clear hD hn hhi hsz hb
  have hz : 0 < hi := by omega
  have e2 : ((hi : Int) - 1).tdiv 2 = (((hi - 1) / 2 : Nat) : Int) := by
    rw [show (hi : Int) - 1 = ((hi - 1 : Nat) : Int) by omega]
    rfl
  go_enter Try.func51, Try.ntmps51
  go_wp2_with fail
  go_loopw [9] (fun iv wr => ∃ (k : Nat) (dk : Array Int), k ≤ (hi - 1) / 2 + 1 ∧ iv = .int .i64 ((k : Int) - 1) ∧ OwnA wr B g cap dk ∧ dk.size = n ∧ RowKit.Below B w0 wr ∧ heapPop ltInt a hi (heapBuild ltInt hi a k dk) = D) (fun iv _ => (intOf iv + 1).toNat)
  case atStart =>
    refine ⟨(hi - 1) / 2 + 1, d, by omega, ?_, hown, HN.out, hb0, HD.out⟩
    congr 1; omega
  case round =>
    clear hown hb0 HD
    obtain ⟨k, dk, hk, rfl, hown, hdk, hb0, hD⟩ := hrel
    have HK : Hid (dk.size = n) := hdk
    have HD : Hid (heapPop ltInt a hi (heapBuild ltInt hi a k dk) = D) := hD
    clear hD hdk
    cases k with
    | succ k =>
      have p1 : ((k + 1 : Nat) : Int) - 1 = (k : Int) := by omega
      have p2 : (k : Int) ≥ 0 := by omega
      have hsd := siftDown_any g cap B k hi a dk wr hown w0 hb0 (by omega) (by rw [HK.out]; exact hfh) (by rw [HK.out]; exact hsz')
      rw [HK.out] at hsd
      generalize hE : siftDown ltInt hi a k dk = E at hsd
      have HE : Hid (siftDown ltInt hi a k dk = E) := hE
      clear hE
      go_wp2_with fail
      refine hsd.mono ?_
      rintro e w1 ⟨rfl, o1, s1, b1⟩
      go_wp2_with fail
      go_roundw
      case rel => exact ⟨k, E, by omega, by go_num, o1, s1, b1, by have h := HD.out; rwa [heapBuild, HE.out] at h⟩
      case measure => simp [intOf]
    | zero =>
      go_wp2_with fail
      obtain ⟨wo, rfl⟩ : ∃ x, x = wr := ⟨_, rfl⟩
      go_loopw [10] (fun iv wr => ∃ (k : Nat) (dk : Array Int), k ≤ hi ∧ iv = .int .i64 ((k : Int) - 1) ∧ OwnA wr B g cap dk ∧ dk.size = n ∧ RowKit.Below B w0 wr ∧ heapPop ltInt a k dk = D) (fun iv _ => (intOf iv + 1).toNat)
      case atStart =>
        refine ⟨hi, dk, by omega, ?_, hown, HK.out, hb0, HD.out⟩
        congr 1
      case round =>
        clear hown hb0 HD HK dk
        obtain ⟨k, dk, hk, rfl, hown, hdk, hb0, hD⟩ := hrel
        have HK : Hid (dk.size = n) := hdk
        have HD : Hid (heapPop ltInt a k dk = D) := hD
        clear hD hdk
        cases k with
        | succ k =>
          have p1 : ((k + 1 : Nat) : Int) - 1 = (k : Int) := by omega
          have p2 : (k : Int) ≥ 0 := by omega
          obtain ⟨c, hc⟩ : ∃ c, c = a + k := ⟨_, rfl⟩
          have p3 : (a : Int) + (k : Int) = (c : Int) := by omega
          have la : a < n := by omega
          have lc : c < n := by omega
          have l1 : (a : Int) < (n : Int) := by omega
          have l2 : (c : Int) < (n : Int) := by omega
          have HC : Hid (c = a + k) := hc
          clear hc
          have k0 := hown.cell a (by rw [HK.out]; exact la)
          have k1 := hown.cell c (by rw [HK.out]; exact lc)
          have m0 := hown.melt a
          have m1 := hown.melt c
          have hsw := hown.swap a c (by rw [HK.out]; exact la) (by rw [HK.out]; exact lc)
          have k5 := hown.mid a c (by rw [HK.out]; exact lc) _ rfl
          have hss := swp_size dk a c
          generalize dk[a]! = A at k0 hsw
          generalize dk[c]! = X at k1 hsw k5
          have hso := fun q => siftDown_any g cap B 0 k a (swp dk a c) (((wr.setCell ⟨g, a, none⟩ (.int .u16 X)).setCell ⟨g, c, none⟩ (.int .u16 A)).drewN q) (hsw.drewN q) w0 (bel_drewN ((hb0.setCell hBg _).setCell hBg _) q) (by omega) (by rw [hss, HK.out]; omega) (by rw [hss, HK.out]; exact hsz')
          rw [hss, HK.out] at hso
          generalize hE : siftDown ltInt k a 0 (swp dk a c) = E at hso
          have HE : Hid (siftDown ltInt k a 0 (swp dk a c) = E) := hE
          clear hE
          go_wp2_with fail
          go_region
          all_goals go_wp2_with fail
          refine (hso 1).mono ?_
          rintro e w1 ⟨rfl, o1, s1, b1⟩
          go_wp2_with fail
          go_roundw
          case rel =>
            have hrel2 : ∃ (k' : Nat) (dk' : Array Int), k' ≤ hi ∧ Value.int .i64 ((k : Int) - 1) = Value.int .i64 ((k' : Int) - 1) ∧ OwnA w1 B g cap dk' ∧ dk'.size = n ∧ RowKit.Below B w0 w1 ∧ heapPop ltInt a k' dk' = D := ⟨k, E, by omega, rfl, o1, s1, b1, by have h := HD.out; rw [heapPop, ← HC.out, HE.out] at h; exact h⟩
            exact ⟨_, _, _, _, _, _, _, _, _, _, _, _, _, _, _, _, _, _, _, _, _, _, _, _, _, _, _, _, hrel2, rfl⟩
          case measure => simp [intOf]
        | zero =>
          go_wp2_with fail
          go_end0
          have h1 := HD.out
          rw [heapPop] at h1
          subst h1
          exact ⟨rfl, hown, HK.out, hb0⟩

set_option maxHeartbeats 4000000 in
theorem reverse_any (g cap B a b : Nat) (d : Array Int) (w : World) (hown : OwnA w B g cap d) (w0 : World) (hb0 : RowKit.Below B w0 w) (hab : a < b) (hb : b ≤ d.size) (hsz : d.size ≤ 1000000) :
    Calls Try.prog 54 #[.slice (some ⟨g, 0, none⟩) d.size cap, .int .i64 a, .int .i64 b] w fun e w' => e = .returned (.tuple #[]) ∧ OwnA w' B g cap (reverseRange d a b) ∧ (reverseRange d a b).size = d.size ∧ RowKit.Below B w0 w' := by
  have hBg := hown.lt.1
  obtain ⟨n, hn⟩ : ∃ n, n = d.size := ⟨_, rfl⟩
  obtain ⟨D, hD⟩ : ∃ D, D = reverseRange d a b := ⟨_, rfl⟩
  have hbn : b ≤ n := by omega
  have hsz' : n ≤ 1000000 := by omega
  rw [← hn]
  rw [← hD]
  have HD : Hid (reverseLoop a (b - 1) d = D) := hD.symm
  have HN : Hid (d.size = n) := hn.symm
  clear hD hn hsz hb
  go_enter Try.func54, Try.ntmps54
  go_wp2_with fail
  go_loopw [6, 7] (fun iv jv wr => ∃ (i j : Nat) (dk : Array Int), a ≤ i ∧ j < b ∧ i ≤ b ∧ iv = .int .i64 i ∧ jv = .int .i64 j ∧ OwnA wr B g cap dk ∧ dk.size = n ∧ RowKit.Below B w0 wr ∧ reverseLoop i j dk = D) (fun iv jv _ => (intOf jv).toNat - (intOf iv).toNat)
  case atStart =>
    refine ⟨a, b - 1, d, by omega, by omega, by omega, rfl, ?_, hown, HN.out, hb0, HD.out⟩
    congr 1; omega
  case round =>
    clear hown hb0 HD
    obtain ⟨i, j, dk, hi, hj, hib, rfl, rfl, hown, hdk, hb0, hD⟩ := hrel
    have HK : Hid (dk.size = n) := hdk
    have HD : Hid (reverseLoop i j dk = D) := hD
    clear hD hdk
    by_cases hlt : i < j
    · have p1 : (i : Int) < (j : Int) := by omega
      have l1 : (i : Int) < (n : Int) := by omega
      have l2 : (j : Int) < (n : Int) := by omega
      have p2 : (j : Int) - 1 = ((j - 1 : Nat) : Int) := by omega
      have k0 := hown.cell i (by rw [HK.out]; omega)
      have k1 := hown.cell j (by rw [HK.out]; omega)
      have m0 := hown.melt i
      have m1 := hown.melt j
      have hsw := hown.swap i j (by rw [HK.out]; omega) (by rw [HK.out]; omega)
      have hss := swp_size dk i j
      generalize dk[i]! = A at k0 hsw
      generalize dk[j]! = X at k1 hsw
      go_wp2_with fail
      go_region
      all_goals go_wp2
      go_roundw
      case rel =>
        refine ⟨i + 1, j - 1, swp dk i j, by omega, by omega, by omega, by go_num, by go_num, hsw.drewN _, by rw [hss]; exact HK.out, ((bel_drewN hb0 _).setCell hBg _).setCell hBg _, ?_⟩
        have h := HD.out
        rwa [reverseLoop, if_pos hlt] at h
      case measure => simp [intOf]; omega
    · have p1 : decide ((i : Int) < (j : Int)) = false := by simp; omega
      go_wp2_with fail
      go_end0
      have h1 := HD.out
      rw [reverseLoop, if_neg hlt] at h1
      subst h1
      exact ⟨rfl, hown, HK.out, hb0⟩
end Go.Proofs.Ytpajojkhpnklfaa
