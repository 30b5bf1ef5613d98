/- NameWithin: who is within one that is within another is within that; who is within another has that on its path. -/
import Derived.Test.YtpnlibdfbopmhaaNmBegun
namespace Go.Proofs.Ytpnlibdfbopmhaa
open Go.RowKit
set_option maxRecDepth 100000

set_option maxHeartbeats 800000 in
theorem nameWithin_walk (a b c : Int) (ha : U a) (hb : U b) (hc : U c) (w : World) : Calls Try.prog 6 #[.int .u64 a, .int .u64 b, .int .u64 c] w fun e w' => e = .returned (.bool true) ∧ Below w.heap.size w w' := by
  obtain ⟨xs, hxs⟩ : ∃ xs, xs = pth a := ⟨_, rfl⟩
  have HX : Hid (xs = pth a) := hxs
  clear hxs
  go_enter Try.func6, Try.ntmps6
  go_wp2_with fail
  refine (begun14_true _).mono ?_
  rintro e w1 ⟨rfl, b1⟩
  go_wp2_with fail
  refine (path_any a ha _).mono ?_
  rintro e w2 ⟨so, n, co, rfl, hr, b2⟩
  rw [← HX.out] at hr
  replace b2 := ext_trans b1 b2
  clear b1
  have hl : Hid (xs.length = n) := hr.len
  have hcap := hr.cap_le
  go_wp2_with fail
  go_loopw [7, 9] (fun q i wr => ∃ k : Nat, k ≤ n ∧ q = .bool (decide (b ∈ xs.take k)) ∧ i = .int .i64 k ∧ wr = w2) (fun _ i _ => n - (intOf i).toNat)
  case atStart => exact ⟨0, by omega, by simp, rfl, rfl⟩
  case round =>
    obtain ⟨k, hk, rfl, rfl, rfl⟩ := hrel
    by_cases hlt : k < n
    · have hp : (k : Int) < (n : Int) := by omega
      obtain ⟨bb, off, rfl, hcc⟩ := hr.at (by omega)
      have c1 := hcc k hlt
      have hkx : k < xs.length := by rw [hl.out]; exact hlt
      have hstep : (decide (b ∈ xs.take (k + 1))) = (decide (b ∈ xs.take k) || (xs.getD k 0 == b)) := by
        rw [List.take_succ_eq_append_getElem hkx, List.getD_eq_getElem?_getD, List.getElem?_eq_getElem hkx, Bool.eq_iff_iff]
        simp only [decide_eq_true_iff, List.mem_append, List.mem_singleton, Bool.or_eq_true, Option.getD_some, beq_iff_eq, @eq_comm _ b]
      generalize hX : xs.getD k 0 = X at c1 hstep
      clear hX hcc
      have HS : Hid (decide (b ∈ xs.take (k + 1)) = (decide (b ∈ xs.take k) || (X == b))) := hstep
      clear hstep hkx
      cases hq : decide (b ∈ xs.take k) with
      | true =>
        go_wp2_with fail
        go_roundw
        case rel => exact ⟨k + 1, by omega, by rw [HS.out, hq]; rfl, by go_num, by trivial⟩
        case measure => simp [intOf]; omega
      | false =>
        go_wp2_with fail
        go_roundw
        case rel => exact ⟨k + 1, by omega, by rw [HS.out, hq]; rfl, by go_num, by trivial⟩
        case measure => simp [intOf]; omega
    · have hp : decide ((k : Int) < (n : Int)) = false := by simp; omega
      obtain rfl : k = n := by omega
      have hon : decide (b ∈ xs.take k) = wi a b := by
        rw [List.take_of_length_le (by rw [hl.out]; omega), HX.out]; rfl
      have htr : Hid (wi a b = true → wi b c = true → wi a c = true) := wi_trans
      have han : Hid (wi a b = true → wi b a = true → a = b) := wi_anti
      rw [hon]
      clear hon hr
      cases qab : wi a b with
      | false =>
        go_wp2_with fail
        refine (within_any a b ha hb _).mono ?_
        rintro e w3 ⟨rfl, rfl⟩
        rw [qab]
        go_wp2_with fail
        refine (within_any a b ha hb _).mono ?_
        rintro e w3 ⟨rfl, rfl⟩
        rw [qab]
        go_wp2_with fail
        refine (within_any a a ha ha _).mono ?_
        rintro e w3 ⟨rfl, rfl⟩
        rw [wi_self]
        go_wp2_with fail
        refine (may_any a ha _).mono ?_
        rintro e w3 ⟨rfl, rfl⟩
        go_wp2_with fail
        refine (within_any a b ha hb _).mono ?_
        rintro e w3 ⟨rfl, rfl⟩
        rw [qab]
        go_wp2_with fail
        go_ret
        exact ⟨rfl, b2⟩
      | true =>
        cases qbc : wi b c with
        | false =>
          cases qba : wi b a with
          | false =>
            go_wp2_with fail
            refine (within_any a b ha hb _).mono ?_
            rintro e w3 ⟨rfl, rfl⟩
            rw [qab]
            go_wp2_with fail
            refine (within_any a b ha hb _).mono ?_
            rintro e w3 ⟨rfl, rfl⟩
            rw [qab]
            go_wp2_with fail
            refine (within_any b c hb hc _).mono ?_
            rintro e w3 ⟨rfl, rfl⟩
            rw [qbc]
            go_wp2_with fail
            refine (within_any a a ha ha _).mono ?_
            rintro e w3 ⟨rfl, rfl⟩
            rw [wi_self]
            go_wp2_with fail
            refine (may_any a ha _).mono ?_
            rintro e w3 ⟨rfl, rfl⟩
            go_wp2_with fail
            refine (within_any a b ha hb _).mono ?_
            rintro e w3 ⟨rfl, rfl⟩
            rw [qab]
            go_wp2_with fail
            refine (within_any b a hb ha _).mono ?_
            rintro e w3 ⟨rfl, rfl⟩
            rw [qba]
            go_wp2_with fail
            go_ret
            exact ⟨rfl, b2⟩
          | true =>
            go_wp2_with fail
            refine (within_any a b ha hb _).mono ?_
            rintro e w3 ⟨rfl, rfl⟩
            rw [qab]
            go_wp2_with fail
            refine (within_any a b ha hb _).mono ?_
            rintro e w3 ⟨rfl, rfl⟩
            rw [qab]
            go_wp2_with fail
            refine (within_any b c hb hc _).mono ?_
            rintro e w3 ⟨rfl, rfl⟩
            rw [qbc]
            go_wp2_with fail
            refine (within_any a a ha ha _).mono ?_
            rintro e w3 ⟨rfl, rfl⟩
            rw [wi_self]
            go_wp2_with fail
            refine (may_any a ha _).mono ?_
            rintro e w3 ⟨rfl, rfl⟩
            go_wp2_with fail
            refine (within_any a b ha hb _).mono ?_
            rintro e w3 ⟨rfl, rfl⟩
            rw [qab]
            go_wp2_with fail
            have eab : (a == b) = true := by rw [han.out qab qba]; simp
            refine (within_any b a hb ha _).mono ?_
            rintro e w3 ⟨rfl, rfl⟩
            rw [qba]
            go_wp2_with fail
            go_ret
            exact ⟨rfl, b2⟩
        | true =>
          cases qba : wi b a with
          | false =>
            go_wp2_with fail
            refine (within_any a b ha hb _).mono ?_
            rintro e w3 ⟨rfl, rfl⟩
            rw [qab]
            go_wp2_with fail
            refine (within_any a b ha hb _).mono ?_
            rintro e w3 ⟨rfl, rfl⟩
            rw [qab]
            go_wp2_with fail
            refine (within_any b c hb hc _).mono ?_
            rintro e w3 ⟨rfl, rfl⟩
            rw [qbc]
            go_wp2_with fail
            refine (within_any a c ha hc _).mono ?_
            rintro e w3 ⟨rfl, rfl⟩
            rw [htr.out qab qbc]
            go_wp2_with fail
            refine (within_any a a ha ha _).mono ?_
            rintro e w3 ⟨rfl, rfl⟩
            rw [wi_self]
            go_wp2_with fail
            refine (may_any a ha _).mono ?_
            rintro e w3 ⟨rfl, rfl⟩
            go_wp2_with fail
            refine (within_any a b ha hb _).mono ?_
            rintro e w3 ⟨rfl, rfl⟩
            rw [qab]
            go_wp2_with fail
            refine (within_any b a hb ha _).mono ?_
            rintro e w3 ⟨rfl, rfl⟩
            rw [qba]
            go_wp2_with fail
            go_ret
            exact ⟨rfl, b2⟩
          | true =>
            go_wp2_with fail
            refine (within_any a b ha hb _).mono ?_
            rintro e w3 ⟨rfl, rfl⟩
            rw [qab]
            go_wp2_with fail
            refine (within_any a b ha hb _).mono ?_
            rintro e w3 ⟨rfl, rfl⟩
            rw [qab]
            go_wp2_with fail
            refine (within_any b c hb hc _).mono ?_
            rintro e w3 ⟨rfl, rfl⟩
            rw [qbc]
            go_wp2_with fail
            refine (within_any a c ha hc _).mono ?_
            rintro e w3 ⟨rfl, rfl⟩
            rw [htr.out qab qbc]
            go_wp2_with fail
            refine (within_any a a ha ha _).mono ?_
            rintro e w3 ⟨rfl, rfl⟩
            rw [wi_self]
            go_wp2_with fail
            refine (may_any a ha _).mono ?_
            rintro e w3 ⟨rfl, rfl⟩
            go_wp2_with fail
            refine (within_any a b ha hb _).mono ?_
            rintro e w3 ⟨rfl, rfl⟩
            rw [qab]
            go_wp2_with fail
            have eab : (a == b) = true := by rw [han.out qab qba]; simp
            refine (within_any b a hb ha _).mono ?_
            rintro e w3 ⟨rfl, rfl⟩
            rw [qba]
            go_wp2_with fail
            go_ret
            exact ⟨rfl, b2⟩
end Go.Proofs.Ytpnlibdfbopmhaa
