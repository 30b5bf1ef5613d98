/- NameDown: names go down number by number, as deep as they may, and back up. -/
import Derived.Test.YtpnlibdfbopmhaaNmBegun
namespace Go.Proofs.Ytpnlibdfbopmhaa
open Go.RowKit
set_option maxRecDepth 100000

set_option maxHeartbeats 800000 in
theorem nameDown_walk (a : Option Addr) (len cap : Nat) (xs : List Int) (w : World) (hr : Row w a len cap xs) : Calls Try.prog 4 #[.slice a len cap] w fun e w' => e = .returned (.bool true) ∧ Below w.heap.size w w' := by
  have hcap := hr.cap_le
  have hbyt := hr.byt
  have hl : Hid (xs.length = len) := hr.len
  go_enter Try.func4, Try.ntmps4
  go_wp2_with fail
  refine (begun14_true _).mono ?_
  rintro e w1 ⟨rfl, b1⟩
  by_cases h8 : 8 < len
  · have q : decide ((8 : Int) < (len : Int)) = true := by simp; omega
    go_wp2_with fail
    go_ret
    exact ⟨rfl, b1⟩
  · have q : decide ((8 : Int) < (len : Int)) = false := by simp; omega
    go_wp2_with fail
    go_loopw [3, 4] (fun v i wr => ∃ (k : Nat) (y : Int), k ≤ len ∧ k ≤ 6 ∧ v = .int .u64 y ∧ i = .int .i64 k ∧ Hid (isN y = true ∧ dN y = k) ∧ Below w.heap.size w wr) (fun _ i _ => len - (intOf i).toNat)
    case atStart => exact ⟨0, 1, by omega, by omega, rfl, rfl, ⟨by decide, by decide⟩, b1⟩
    case round =>
      clear b1
      obtain ⟨k, y, hk, hk6, rfl, rfl, hy, b2⟩ := hrel
      by_cases hlt : k < len
      · have hp : (k : Int) < (len : Int) := by omega
        obtain ⟨bb, off, rfl, hc⟩ := (hr.below b2).at (by omega)
        have c1 := hc k hlt
        have hX : 0 ≤ xs.getD k 0 ∧ xs.getD k 0 < 256 := by
          rw [List.getD_eq_getElem?_getD, List.getElem?_eq_getElem (by rw [hl.out]; exact hlt)]
          exact hbyt _ (List.getElem_mem _)
        generalize xs.getD k 0 = X at c1 hX
        clear hc
        have e1 : X.tmod 63 = X % 63 := Int.tmod_eq_emod_of_nonneg hX.1
        obtain ⟨n, hn⟩ : ∃ n, n = 1 + X % 63 := ⟨_, rfl⟩
        have hn63 : 1 ≤ n ∧ n ≤ 63 := by omega
        have e2 : 1 + X % 63 = n := hn.symm
        have hbd := isN_bd hy.out.1
        have hyu : U y := ⟨by omega, by omega⟩
        clear hn
        go_wp2_with fail
        refine (of_any y n hyu _).mono ?_
        rintro e w3 ⟨rfl, rfl⟩
        by_cases h6 : k = 6
        · subst h6
          have h1 := of_deep hy.out.1 hn63 hy.out.2
          rw [h1.1, h1.2]
          go_wp2_with fail
          go_ret
          exact ⟨rfl, b2⟩
        · have h1 := of_ok hy.out.1 hn63 (by rw [hy.out.2]; exact h6)
          have p6 : decide ((6 : Int) ≤ (k : Int)) = false := by simp; omega
          obtain ⟨f1, f2, f3, f4, f5, f6⟩ := nm_next hy.out.1 (by rw [hy.out.2]; omega) hn63
          rw [h1.1, h1.2]
          have hxu : U (y * 64 + n) := ⟨by omega, by omega⟩
          generalize y * 64 + n = x at *
          have hd : dN x = k + 1 := by rw [f2, hy.out.2]
          obtain ⟨m, hm⟩ : ∃ m, m = k + 1 := ⟨_, rfl⟩
          have em : (k : Int) + 1 = (m : Int) := by omega
          obtain ⟨l, hll⟩ : ∃ l, l = k + 2 := ⟨_, rfl⟩
          have el : (k : Int) + 2 = (l : Int) := by omega
          have hml : m < l := by omega
          rw [← hm] at hd
          clear f2 h1
          go_wp2_with fail
          refine (path_any x hxu _).mono ?_
          rintro e w4 ⟨so, j, co, rfl, rp, b4⟩
          obtain rfl : j = l := by rw [len_yes rp f1, hd]; omega
          have g0 := pth_first f1
          have g1 := pth_last f1
          rw [hd] at g1
          obtain ⟨pb, po, rfl, pc⟩ := rp.at (by omega)
          have d0 := pc 0 (by omega)
          have d1 := pc m hml
          rw [g0, Nat.add_zero] at d0
          rw [g1] at d1
          replace b4 := b2.trans (b4.mono b2.size)
          have HM : Hid (m = k + 1) := hm
          have HL : Hid (j = k + 2) := hll
          clear pc g0 g1 hm hll
          go_wp2_with fail
          refine (parent_any x hxu _).mono ?_
          rintro e w5 ⟨rfl, rfl⟩
          rw [f3]
          go_wp2_with fail
          refine (number_any x hxu _).mono ?_
          rintro e w5 ⟨rfl, rfl⟩
          rw [f4]
          go_wp2_with fail
          refine (depthOf_any x hxu _).mono ?_
          rintro e w5 ⟨rfl, rfl⟩
          rw [hd]
          go_wp2_with fail
          refine (within_any x y hxu hyu _).mono ?_
          rintro e w5 ⟨rfl, rfl⟩
          rw [f5]
          go_wp2_with fail
          refine (within_any y x hyu hxu _).mono ?_
          rintro e w5 ⟨rfl, rfl⟩
          rw [f6]
          go_wp2_with fail
          go_roundw
          case rel => exact ⟨m, x, by have := HM.out; omega, by have := HM.out; omega, rfl, by go_num, ⟨f1, hd⟩, b4⟩
          case measure => have := HM.out; simp [intOf]; omega
      · have hp : decide ((k : Int) < (len : Int)) = false := by simp; omega
        go_wp2_with fail
        go_ret
        exact ⟨rfl, b2⟩
end Go.Proofs.Ytpnlibdfbopmhaa
