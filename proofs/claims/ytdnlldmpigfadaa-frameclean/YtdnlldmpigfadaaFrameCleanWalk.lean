/- 'FrameClean' answers true: a frame that is taken anew is all noughts, whatever stood there. -/
import Derived.Test.YtdnlldmpigfadaaFrMo
namespace Go.Proofs.Ytdnlldmpigfadaa
open Go.RowKit

theorem clean_cnt (f : Fr) (k : Nat) : cnt (upd (upd (upd (fun _ => none) 0 (some f)) 0 none) 0 (some fun _ => 0)) (1 + k) = 1 := by
  rw [cnt_take (by omega) (upd_same _ _ _), cnt_none]
  intro i hi
  by_cases h : i = 0
  · subst h; exact upd_same _ _ _
  · rw [upd_other _ _ h, upd_other _ _ h]
set_option maxHeartbeats 1000000 in
theorem frameClean_all (a : Option Addr) (len cap : Nat) (xs : List Int) (n : Int) (hn : 0 ≤ n ∧ n < 256) (W : World) (hr : Row W a len cap xs) :
    Calls Try.prog 4 #[.slice a len cap, .int .u8 n] W fun e w' => e = .returned (.bool true) ∧ Below W.heap.size W w' := by
  obtain ⟨k, hk, ek⟩ : ∃ k : Nat, k < 5 ∧ n.tmod 5 = (k : Int) := ⟨(n % 5).toNat, by omega, by rw [Int.tmod_eq_emod_of_nonneg hn.1]; omega⟩
  have hcap := hr.cap_le
  have hl := hr.len
  clear hn
  go_enter Try.func4, Try.ntmps4
  go_wp2_with fail
  refine (begun12_true _).mono ?_
  rintro e w1 ⟨rfl, hb1⟩
  go_wp2_with fail
  refine (mo_new hb1 (1 + (k : Int)) (1 + k) (by omega)).mono ?_
  rintro e w2 ⟨p, rfl, hm⟩
  clear hb1
  go_wp2_with fail
  refine (mo_take hm 0 (by omega) (fun i hi => by omega) rfl).mono ?_
  rintro e w3 ⟨rfl, hm3⟩
  clear hm
  go_wp2_with fail
  go_loopw [8] (fun i wr => ∃ (j : Nat) (f : Fr), j ≤ len ∧ j ≤ 16 ∧ i = .int .i64 j ∧ Mo W wr p (1 + k) (upd (fun _ => none) 0 (some f))) (fun i _ => 16 - (intOf i).toNat)
  case atStart => exact ⟨0, _, by omega, by omega, rfl, hm3⟩
  case round =>
    obtain ⟨j, f, hj, hj6, rfl, hmo⟩ := hrel
    clear hm3
    by_cases e1 : j < len
    · by_cases e2 : j < 16
      · have hp : (j : Int) < (len : Int) := by omega
        have hp2 : (j : Int) < 16 := by omega
        obtain ⟨bb, off, rfl, hc⟩ := (hr.below hmo.below).at (by omega)
        have c1 := hc j e1
        have hbt := hr.byt (xs.getD j 0) (by rw [show xs.getD j 0 = xs[j]'(by omega) from by simp [List.getD, show j < xs.length by omega]]; exact List.getElem_mem _)
        obtain ⟨v, hv⟩ : ∃ v, v = xs.getD j 0 := ⟨_, rfl⟩
        rw [← hv] at c1 hbt
        clear hc hv
        go_wp2_with fail
        refine (mo_store hmo 0 j f (upd_same _ _ _) e2 v hbt).mono ?_
        rintro e w4 ⟨rfl, hm4⟩
        go_wp2_with fail
        go_roundw
        case rel =>
          refine ⟨j + 1, upd f j v, by omega, by omega, by go_num, ?_⟩
          have he : upd (upd (fun _ => none) 0 (some f)) 0 (some (upd f j v)) = upd (fun _ => none) 0 (some (upd f j v)) := by
            funext i; unfold upd; split <;> rfl
          rwa [he] at hm4
        case measure => simp [intOf]; omega
      · obtain rfl : j = 16 := by omega
        have hp : (16 : Int) < (len : Int) := by omega
        rw [show ((16 : Nat) : Int) = 16 from rfl]
        go_wp2_with fail
        refine (mo_free hmo 0 f (upd_same _ _ _)).mono ?_
        rintro e w4 ⟨rfl, hm4⟩
        clear hmo
        go_wp2_with fail
        refine (mo_free_none hm4 0 rfl).mono ?_
        rintro e w5 ⟨rfl, rfl⟩
        go_wp2_with fail
        refine (mo_take hm4 0 (by omega) (fun i hi => by omega) rfl).mono ?_
        rintro e w6 ⟨rfl, hm6⟩
        clear hm4
        obtain ⟨A, hA⟩ : ∃ A : Mm, A = upd (upd (upd (fun _ => none) 0 (some f)) 0 none) 0 (some fun _ => 0) := ⟨_, rfl⟩
        rw [← hA] at hm6
        have h2 : A 0 = some (fun _ => 0) := by rw [hA, upd_same]
        have hcn : cnt A (1 + k) = 1 := by rw [hA]; exact clean_cnt f k
        clear hA
        go_wp2_with fail
        go_loopw [11] (fun i wr => ∃ j : Nat, j ≤ 16 ∧ i = .int .i64 j ∧ wr = w6) (fun i _ => 16 - (intOf i).toNat)
        case atStart => exact ⟨0, by omega, rfl, rfl⟩
        case round =>
          obtain ⟨l, hl6, rfl, rfl⟩ := hrel
          by_cases e3 : l < 16
          · have hp3 : (l : Int) < 16 := by omega
            go_wp2_with fail
            refine (mo_load hm6 0 l _ h2 e3 0 rfl).mono ?_
            rintro e w7 ⟨rfl, rfl⟩
            go_wp2_with fail
            go_roundw
            case rel => exact ⟨l + 1, by omega, by go_num, by trivial⟩
            case measure => simp [intOf]; omega
          · obtain rfl : l = 16 := by omega
            rw [show ((16 : Nat) : Int) = 16 from rfl]
            go_wp2_with fail
            refine (mo_used hm6 1 hcn).mono ?_
            rintro e w7 ⟨rfl, rfl⟩
            go_wp2_with fail
            go_ret
            exact ⟨rfl, hm6.below⟩
    · have hp : decide ((j : Int) < (len : Int)) = false := by simp; omega
      go_wp2_with fail
      refine (mo_free hmo 0 f (upd_same _ _ _)).mono ?_
      rintro e w4 ⟨rfl, hm4⟩
      clear hmo
      go_wp2_with fail
      refine (mo_free_none hm4 0 rfl).mono ?_
      rintro e w5 ⟨rfl, rfl⟩
      go_wp2_with fail
      refine (mo_take hm4 0 (by omega) (fun i hi => by omega) rfl).mono ?_
      rintro e w6 ⟨rfl, hm6⟩
      clear hm4
      obtain ⟨A, hA⟩ : ∃ A : Mm, A = upd (upd (upd (fun _ => none) 0 (some f)) 0 none) 0 (some fun _ => 0) := ⟨_, rfl⟩
      rw [← hA] at hm6
      have h2 : A 0 = some (fun _ => 0) := by rw [hA, upd_same]
      have hcn : cnt A (1 + k) = 1 := by rw [hA]; exact clean_cnt f k
      clear hA
      go_wp2_with fail
      go_loopw [11] (fun i wr => ∃ j : Nat, j ≤ 16 ∧ i = .int .i64 j ∧ wr = w6) (fun i _ => 16 - (intOf i).toNat)
      case atStart => exact ⟨0, by omega, rfl, rfl⟩
      case round =>
        obtain ⟨l, hl6, rfl, rfl⟩ := hrel
        by_cases e3 : l < 16
        · have hp3 : (l : Int) < 16 := by omega
          go_wp2_with fail
          refine (mo_load hm6 0 l _ h2 e3 0 rfl).mono ?_
          rintro e w7 ⟨rfl, rfl⟩
          go_wp2_with fail
          go_roundw
          case rel => exact ⟨l + 1, by omega, by go_num, by trivial⟩
          case measure => simp [intOf]; omega
        · obtain rfl : l = 16 := by omega
          rw [show ((16 : Nat) : Int) = 16 from rfl]
          go_wp2_with fail
          refine (mo_used hm6 1 hcn).mono ?_
          rintro e w7 ⟨rfl, rfl⟩
          go_wp2_with fail
          go_ret
          exact ⟨rfl, hm6.below⟩
end Go.Proofs.Ytdnlldmpigfadaa
