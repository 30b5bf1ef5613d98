/- What the document's own answers do (transomref1's Take, Put, TakeBytes, PutBytes): contracts, for every slice of bytes. -/
import Derived.Test.YtaogggldpjljoaaNum
namespace Go.Proofs.Ytaogggldpjljoaa
open Go.RowKit

set_option maxHeartbeats 400000 in
theorem refTake_arg (a : Option Addr) (len cap : Nat) (n : Int) (h : n < 0 ∨ 8 < n) (w : World) :
    Calls Try.prog 27 #[.slice a len cap, .int .i64 n] w fun e w' => e = .returned (.tuple #[.int .u64 0, .int .i64 1]) ∧ w' = w := by
  rcases h with h | h
  · go_enter Try.func27, Try.ntmps27
    go_wp2
    go_ret2
    exact ⟨rfl, rfl⟩
  · have h0 : decide (n < 0) = false := by simp; omega
    go_enter Try.func27, Try.ntmps27
    go_wp2
    go_ret2
    exact ⟨rfl, rfl⟩

set_option maxHeartbeats 400000 in
theorem refTake_short (a : Option Addr) (len cap : Nat) (n : Int) (h0 : 0 ≤ n) (h8 : n ≤ 8) (hl : (len : Int) < n) (w : World) :
    Calls Try.prog 27 #[.slice a len cap, .int .i64 n] w fun e w' => e = .returned (.tuple #[.int .u64 0, .int .i64 3]) ∧ w' = w := by
  have h1 : decide (n < 0) = false := by simp; omega
  have h2 : decide (8 < n) = false := by simp; omega
  go_enter Try.func27, Try.ntmps27
  go_wp2
  go_ret2
  exact ⟨rfl, rfl⟩

set_option maxHeartbeats 400000 in
theorem refTake_loop (a : Option Addr) (len cap : Nat) (xs : List Int) (n : Nat) (h8 : n ≤ 8) (hx : xs.length = len) (hl : n ≤ len) (w : World)
    (hc : ∀ i, i < n → ∃ b off, a = some ⟨b, off, none⟩ ∧ w.cell? ⟨b, off + i, none⟩ = some (.int .u8 (xs.getD i 0))) (hb : Byt xs) (hm : len ≤ 9223372036854775807) :
    Calls Try.prog 27 #[.slice a len cap, .int .i64 n] w fun e w' => e = .returned (.tuple #[.int .u64 (num (xs.take n)), .int .i64 0]) ∧ w' = w := by
  have h1 : decide ((n : Int) < 0) = false := by simp
  have h2 : decide ((8 : Int) < n) = false := by simp; omega
  have h8' : (n : Int) ≤ 8 := by omega
  have hlt : decide (len < n) = false := by simp; omega
  have HX : Hid (xs.length = len) := hx
  clear hx
  go_enter Try.func27, Try.ntmps27
  go_wp2_with fail
  go_loop [6, 7] (fun v i => ∃ k : Nat, k ≤ n ∧ i = .int .i64 k ∧ v = .int .u64 (num (xs.take k))) (fun _ i => n - (intOf i).toNat)
  case atStart => exact ⟨0, by omega, rfl, rfl⟩
  case round =>
    obtain ⟨k, hk, rfl, rfl⟩ := hrel
    by_cases hlt : k < n
    · obtain ⟨b, off, rfl, hc0⟩ := hc k hlt
      have hkx : k < xs.length := by have := HX.out; omega
      have hp : (k : Int) < (len : Int) := by omega
      have hp2 : (k : Int) < (n : Int) := by omega
      go_wp2
      go_round
      case rel => exact ⟨k + 1, by omega, by go_num, by rw [num_take xs hb k hkx (by omega)]⟩
      case measure => simp [intOf]; omega
    · obtain rfl : k = n := by omega
      go_wp2
      go_ret2
      exact ⟨rfl, rfl⟩

/-- transomref1.Take. -/
theorem refTake_any (a : Option Addr) (len cap : Nat) (n : Int) (xs : List Int) (w : World) (hr : Row w a len cap xs) :
    Calls Try.prog 27 #[.slice a len cap, .int .i64 n] w fun e w' => e = .returned (.tuple #[.int .u64 (takeV xs n), .int .i64 (takeE xs n)]) ∧ w' = w := by
  unfold takeV takeE
  have hl := hr.len
  have hcap := hr.cap_le
  by_cases h : n < 0 ∨ 8 < n
  · rw [if_pos (by omega), if_pos h]
    exact refTake_arg a len cap n h w
  · by_cases h2 : (xs.length : Int) < n
    · rw [if_pos (by omega), if_neg h, if_pos h2]
      exact refTake_short a len cap n (by omega) (by omega) (by omega) w
    · rw [if_neg (by omega), if_neg h, if_neg h2]
      obtain ⟨k, rfl⟩ := Int.eq_ofNat_of_zero_le (show 0 ≤ n by omega)
      rw [Int.toNat_natCast]
      refine refTake_loop a len cap xs k (by omega) hl (by omega) w (fun i hi => ?_) hr.byt (by omega)
      obtain ⟨b, off, h1, h2⟩ := hr.at (by omega)
      exact ⟨b, off, h1, h2 i (by omega)⟩

set_option maxHeartbeats 400000 in
theorem refPut_out (a : Option Addr) (len cap : Nat) (v : Int) (n : Int) (hn : n < 0 ∨ 8 < n) (xs : List Int) (w : World) (hr : Row w a len cap xs) (hbd : len ≤ 140737488351232) :
    Calls Try.prog 32 #[.slice a len cap, .int .u64 v, .int .i64 n] w fun e w' => ∃ g cap', e = .returned (.slice (some ⟨g, 0, none⟩) len cap') ∧ Own 5 w' w.heap.size g len cap' xs ∧ Below w.heap.size w w' := by
  rcases hn with h | h
  · go_enter Try.func32, Try.ntmps32
    go_wp2_with (at_builtin; refine wp_append_bytes _ rfl (.tmp 9) (.tmp 10) 25 rfl 5 Try.underlying25 info5 w.heap.size w.heap.size 0 0 [] rfl (own_lit w 5 [] 0 rfl (by omega) Byt.nil) a len cap xs rfl (hr.below (below_alloc _ _)) (by omega) (by simp) w (below_alloc _ _) ?_; intro g cap' w1 hown hbel)
    go_ret
    exact ⟨g, cap', by simp, by simpa using hown, hbel⟩
  · have h0 : decide (n < 0) = false := by simp; omega
    go_enter Try.func32, Try.ntmps32
    go_wp2_with (at_builtin; refine wp_append_bytes _ rfl (.tmp 9) (.tmp 10) 25 rfl 5 Try.underlying25 info5 w.heap.size w.heap.size 0 0 [] rfl (own_lit w 5 [] 0 rfl (by omega) Byt.nil) a len cap xs rfl (hr.below (below_alloc _ _)) (by omega) (by simp) w (below_alloc _ _) ?_; intro g cap' w1 hown hbel)
    go_ret
    exact ⟨g, cap', by simp, by simpa using hown, hbel⟩

set_option maxHeartbeats 1000000 in
theorem refPut_in (a : Option Addr) (len cap : Nat) (v : Int) (m : Nat) (hm8 : m ≤ 8) (xs : List Int) (w : World) (hr : Row w a len cap xs) (hbd : len ≤ 140737488351232) :
    Calls Try.prog 32 #[.slice a len cap, .int .u64 v, .int .i64 m] w fun e w' => ∃ g cap', e = .returned (.slice (some ⟨g, 0, none⟩) (len + m) cap') ∧ Own 5 w' w.heap.size g (len + m) cap' (xs ++ putB v m) ∧ Below w.heap.size w w' := by
  have h1 : decide ((m : Int) < 0) = false := by simp
  have h2 : decide ((8 : Int) < m) = false := by simp; omega
  have h8' : (m : Int) ≤ 8 := by omega
  go_enter Try.func32, Try.ntmps32
  go_wp2_with (at_builtin; refine wp_append_bytes _ rfl (.tmp 9) (.tmp 10) 25 rfl 5 Try.underlying25 info5 w.heap.size w.heap.size 0 0 [] rfl (own_lit w 5 [] 0 rfl (by omega) Byt.nil) a len cap xs rfl (hr.below (below_alloc _ _)) (by omega) (by simp) w (below_alloc _ _) ?_; intro g cap' w1 hown hbel)
  go_loopw [7, 8] (fun o i wr => ∃ (k g c : Nat) (zs : List Int), k ≤ m ∧ i = .int .i64 k ∧ o = .slice (some ⟨g, 0, none⟩) (len + k) c ∧ Own 5 wr w.heap.size g (len + k) c zs ∧ Below w.heap.size w wr ∧ zs ++ putB v (m - k) = xs ++ putB v m) (fun _ i _ => m - (intOf i).toNat)
  case atStart => exact ⟨0, g, cap', xs, by omega, rfl, by simp, by simpa using hown, hbel, rfl⟩
  case round =>
    clear hown hbel
    obtain ⟨k, g, c, zs, hk, rfl, rfl, hown, hbel, hzs⟩ := hrel
    have hsz := hbel.size
    by_cases hlt : k < m
    · have hp : (k : Int) < (m : Int) := by omega
      go_wp2_with (at_builtin; refine wp_append_bytes _ rfl (.tmp 24) (.tmp 33) 25 rfl 5 Try.underlying25 info5 w.heap.size g (len + k) c zs rfl (hown.below (below_alloc _ _)) (some ⟨wr.heap.size, 0, none⟩) 1 1 [v / 2 ^ (8 * (m - 1 - k)) % 256] rfl (row_lit wr 5 [_] 1 rfl (by omega) (Byt.one (by omega))) (by omega) (by simp; omega) w (hbel.alloc hsz _) ?_; intro g1 c1 w1 hown1 hbel1)
      go_roundw
      case rel =>
        refine ⟨k + 1, g1, c1, zs ++ [v / 2 ^ (8 * (m - 1 - k)) % 256], by omega, by go_num, rfl, hown1, hbel1, ?_⟩
        rw [← hzs, show m - k = (m - 1 - k) + 1 by omega, show m - (k + 1) = m - 1 - k by omega, Int.pow_mul, show (2 : Int) ^ 8 = 256 from rfl]
        simp [putB]
      case measure => simp [intOf]; omega
    · obtain rfl : k = m := by omega
      go_wp2_with fail
      go_ret
      refine ⟨g, c, rfl, ?_, hbel⟩
      simp [putB] at hzs
      subst hzs
      exact hown

/-- transomref1.Put. -/
theorem refPut_any (a : Option Addr) (len cap : Nat) (v : Int) (n : Int) (xs : List Int) (w : World) (hr : Row w a len cap xs) (hbd : len ≤ 140737488351232) :
    Calls Try.prog 32 #[.slice a len cap, .int .u64 v, .int .i64 n] w fun e w' => ∃ g cap', e = .returned (.slice (some ⟨g, 0, none⟩) (len + wid n) cap') ∧ Own 5 w' w.heap.size g (len + wid n) cap' (xs ++ putB v (wid n)) ∧ Below w.heap.size w w' := by
  unfold wid
  by_cases h : n < 0 ∨ 8 < n
  · rw [if_pos h]
    simpa [putB] using refPut_out a len cap v n h xs w hr hbd
  · rw [if_neg h]
    obtain ⟨k, rfl⟩ := Int.eq_ofNat_of_zero_le (show 0 ≤ n by omega)
    rw [Int.toNat_natCast]
    exact refPut_in a len cap v k (by omega) xs w hr hbd

end Go.Proofs.Ytaogggldpjljoaa
