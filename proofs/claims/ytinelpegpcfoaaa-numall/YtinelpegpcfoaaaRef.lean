/- What the document's own answers do (transomref1's Take, Put, TakeBytes, PutBytes): contracts, for every slice of bytes. -/
import Derived.Test.YtinelpegpcfoaaaNum
namespace Go.Proofs.Ytinelpegpcfoaaa
open Go.RowKit

set_option maxHeartbeats 400000 in
theorem refTake_arg (a : Option Addr) (len cap : Nat) (n : Int) (h : n < 0 ∨ 8 < n) (w : World) :
    Calls Try.prog 14 #[.slice a len cap, .int .i64 n] w fun e w' => e = .returned (.tuple #[.int .u64 0, .int .i64 1]) ∧ w' = w := by
  rcases h with h | h
  · go_enter Try.func14, Try.ntmps14
    go_wp2
    go_ret2
    exact ⟨rfl, rfl⟩
  · have h0 : decide (n < 0) = false := by simp; omega
    go_enter Try.func14, Try.ntmps14
    go_wp2
    go_ret2
    exact ⟨rfl, rfl⟩

set_option maxHeartbeats 400000 in
theorem refTake_short (a : Option Addr) (len cap : Nat) (n : Int) (h0 : 0 ≤ n) (h8 : n ≤ 8) (hl : (len : Int) < n) (w : World) :
    Calls Try.prog 14 #[.slice a len cap, .int .i64 n] w fun e w' => e = .returned (.tuple #[.int .u64 0, .int .i64 3]) ∧ w' = w := by
  have h1 : decide (n < 0) = false := by simp; omega
  have h2 : decide (8 < n) = false := by simp; omega
  go_enter Try.func14, Try.ntmps14
  go_wp2
  go_ret2
  exact ⟨rfl, rfl⟩

set_option maxHeartbeats 400000 in
theorem refTake_loop (a : Option Addr) (len cap : Nat) (xs : List Int) (n : Nat) (h8 : n ≤ 8) (hx : xs.length = len) (hl : n ≤ len) (w : World)
    (hc : ∀ i, i < n → ∃ b off, a = some ⟨b, off, none⟩ ∧ w.cell? ⟨b, off + i, none⟩ = some (.int .u8 (xs.getD i 0))) (hb : Byt xs) (hm : len ≤ 9223372036854775807) :
    Calls Try.prog 14 #[.slice a len cap, .int .i64 n] w fun e w' => e = .returned (.tuple #[.int .u64 (num (xs.take n)), .int .i64 0]) ∧ w' = w := by
  have h1 : decide ((n : Int) < 0) = false := by simp
  have h2 : decide ((8 : Int) < n) = false := by simp; omega
  have h8' : (n : Int) ≤ 8 := by omega
  have hlt : decide (len < n) = false := by simp; omega
  have HX : Hid (xs.length = len) := hx
  clear hx
  go_enter Try.func14, Try.ntmps14
  go_wp2_with fail
  go_loop [6, 7] (fun v i => ∃ k : Nat, k ≤ n ∧ i = .int .i64 k ∧ v = .int .u64 (num (xs.take k))) (fun _ i => n - (intOf i).toNat)
  case atStart => exact ⟨0, by omega, rfl, rfl⟩
  case round =>
    obtain ⟨k, hk, rfl, rfl⟩ := hrel
    by_cases hlt : k < n
    · obtain ⟨b, off, rfl, hc0⟩ := hc k hlt
      have hkx : k < xs.length := by have := HX.out; omega
      have hp : (k : Int) < (len : Int) := by omega
      have hp2 : (k : Int) < (n : Int) := by omega
      go_wp2
      go_round
      case rel => exact ⟨k + 1, by omega, by go_num, by rw [num_take xs hb k hkx (by omega)]⟩
      case measure => simp [intOf]; omega
    · obtain rfl : k = n := by omega
      go_wp2
      go_ret2
      exact ⟨rfl, rfl⟩

/-- transomref1.Take. -/
theorem refTake_any (a : Option Addr) (len cap : Nat) (n : Int) (xs : List Int) (w : World) (hr : Row w a len cap xs) :
    Calls Try.prog 14 #[.slice a len cap, .int .i64 n] w fun e w' => e = .returned (.tuple #[.int .u64 (takeV xs n), .int .i64 (takeE xs n)]) ∧ w' = w := by
  unfold takeV takeE
  have hl := hr.len
  have hcap := hr.cap_le
  by_cases h : n < 0 ∨ 8 < n
  · rw [if_pos (by omega), if_pos h]
    exact refTake_arg a len cap n h w
  · by_cases h2 : (xs.length : Int) < n
    · rw [if_pos (by omega), if_neg h, if_pos h2]
      exact refTake_short a len cap n (by omega) (by omega) (by omega) w
    · rw [if_neg (by omega), if_neg h, if_neg h2]
      obtain ⟨k, rfl⟩ := Int.eq_ofNat_of_zero_le (show 0 ≤ n by omega)
      rw [Int.toNat_natCast]
      refine refTake_loop a len cap xs k (by omega) hl (by omega) w (fun i hi => ?_) hr.byt (by omega)
      obtain ⟨b, off, h1, h2⟩ := hr.at (by omega)
      exact ⟨b, off, h1, h2 i (by omega)⟩

set_option maxHeartbeats 400000 in
theorem refPut_out (a : Option Addr) (len cap : Nat) (v : Int) (n : Int) (hn : n < 0 ∨ 8 < n) (xs : List Int) (w : World) (hr : Row w a len cap xs) (hbd : len ≤ 140737488351232) :
    Calls Try.prog 15 #[.slice a len cap, .int .u64 v, .int .i64 n] w fun e w' => ∃ g cap', e = .returned (.slice (some ⟨g, 0, none⟩) len cap') ∧ Own 5 w' w.heap.size g len cap' xs ∧ Below w.heap.size w w' := by
  rcases hn with h | h
  · go_enter Try.func15, Try.ntmps15
    go_wp2_with (at_builtin; refine wp_append_bytes _ rfl (.tmp 9) (.tmp 10) 22 rfl 5 Try.underlying22 info5 w.heap.size w.heap.size 0 0 [] rfl (own_lit w 5 [] 0 rfl (by omega) Byt.nil) a len cap xs rfl (hr.below (below_alloc _ _)) (by omega) (by simp) w (below_alloc _ _) ?_; intro g cap' w1 hown hbel)
    go_ret
    exact ⟨g, cap', by simp, by simpa using hown, hbel⟩
  · have h0 : decide (n < 0) = false := by simp; omega
    go_enter Try.func15, Try.ntmps15
    go_wp2_with (at_builtin; refine wp_append_bytes _ rfl (.tmp 9) (.tmp 10) 22 rfl 5 Try.underlying22 info5 w.heap.size w.heap.size 0 0 [] rfl (own_lit w 5 [] 0 rfl (by omega) Byt.nil) a len cap xs rfl (hr.below (below_alloc _ _)) (by omega) (by simp) w (below_alloc _ _) ?_; intro g cap' w1 hown hbel)
    go_ret
    exact ⟨g, cap', by simp, by simpa using hown, hbel⟩

set_option maxHeartbeats 1000000 in
theorem refPut_in (a : Option Addr) (len cap : Nat) (v : Int) (m : Nat) (hm8 : m ≤ 8) (xs : List Int) (w : World) (hr : Row w a len cap xs) (hbd : len ≤ 140737488351232) :
    Calls Try.prog 15 #[.slice a len cap, .int .u64 v, .int .i64 m] w fun e w' => ∃ g cap', e = .returned (.slice (some ⟨g, 0, none⟩) (len + m) cap') ∧ Own 5 w' w.heap.size g (len + m) cap' (xs ++ putB v m) ∧ Below w.heap.size w w' := by
  have h1 : decide ((m : Int) < 0) = false := by simp
  have h2 : decide ((8 : Int) < m) = false := by simp; omega
  have h8' : (m : Int) ≤ 8 := by omega
  go_enter Try.func15, Try.ntmps15
  go_wp2_with (at_builtin; refine wp_append_bytes _ rfl (.tmp 9) (.tmp 10) 22 rfl 5 Try.underlying22 info5 w.heap.size w.heap.size 0 0 [] rfl (own_lit w 5 [] 0 rfl (by omega) Byt.nil) a len cap xs rfl (hr.below (below_alloc _ _)) (by omega) (by simp) w (below_alloc _ _) ?_; intro g cap' w1 hown hbel)
  go_loopw [7, 8] (fun o i wr => ∃ (k g c : Nat) (zs : List Int), k ≤ m ∧ i = .int .i64 k ∧ o = .slice (some ⟨g, 0, none⟩) (len + k) c ∧ Own 5 wr w.heap.size g (len + k) c zs ∧ Below w.heap.size w wr ∧ zs ++ putB v (m - k) = xs ++ putB v m) (fun _ i _ => m - (intOf i).toNat)
  case atStart => exact ⟨0, g, cap', xs, by omega, rfl, by simp, by simpa using hown, hbel, rfl⟩
  case round =>
    clear hown hbel
    obtain ⟨k, g, c, zs, hk, rfl, rfl, hown, hbel, hzs⟩ := hrel
    have hsz := hbel.size
    by_cases hlt : k < m
    · have hp : (k : Int) < (m : Int) := by omega
      go_wp2_with (at_builtin; refine wp_append_bytes _ rfl (.tmp 24) (.tmp 33) 22 rfl 5 Try.underlying22 info5 w.heap.size g (len + k) c zs rfl (hown.below (below_alloc _ _)) (some ⟨wr.heap.size, 0, none⟩) 1 1 [v / 2 ^ (8 * (m - 1 - k)) % 256] rfl (row_lit wr 5 [_] 1 rfl (by omega) (Byt.one (by omega))) (by omega) (by simp; omega) w (hbel.alloc hsz _) ?_; intro g1 c1 w1 hown1 hbel1)
      go_roundw
      case rel =>
        refine ⟨k + 1, g1, c1, zs ++ [v / 2 ^ (8 * (m - 1 - k)) % 256], by omega, by go_num, rfl, hown1, hbel1, ?_⟩
        rw [← hzs, show m - k = (m - 1 - k) + 1 by omega, show m - (k + 1) = m - 1 - k by omega, Int.pow_mul, show (2 : Int) ^ 8 = 256 from rfl]
        simp [putB]
      case measure => simp [intOf]; omega
    · obtain rfl : k = m := by omega
      go_wp2_with fail
      go_ret
      refine ⟨g, c, rfl, ?_, hbel⟩
      simp [putB] at hzs
      subst hzs
      exact hown

/-- transomref1.Put. -/
theorem refPut_any (a : Option Addr) (len cap : Nat) (v : Int) (n : Int) (xs : List Int) (w : World) (hr : Row w a len cap xs) (hbd : len ≤ 140737488351232) :
    Calls Try.prog 15 #[.slice a len cap, .int .u64 v, .int .i64 n] w fun e w' => ∃ g cap', e = .returned (.slice (some ⟨g, 0, none⟩) (len + wid n) cap') ∧ Own 5 w' w.heap.size g (len + wid n) cap' (xs ++ putB v (wid n)) ∧ Below w.heap.size w w' := by
  unfold wid
  by_cases h : n < 0 ∨ 8 < n
  · rw [if_pos h]
    simpa [putB] using refPut_out a len cap v n h xs w hr hbd
  · rw [if_neg h]
    obtain ⟨k, rfl⟩ := Int.eq_ofNat_of_zero_le (show 0 ≤ n by omega)
    rw [Int.toNat_natCast]
    exact refPut_in a len cap v k (by omega) xs w hr hbd

set_option maxHeartbeats 400000 in
theorem refPutBytes_any (a : Option Addr) (len cap : Nat) (xs : List Int) (a2 : Option Addr) (len2 cap2 : Nat) (ys : List Int) (w : World) (hr : Row w a len cap xs) (hr2 : Row w a2 len2 cap2 ys) (hbd : len ≤ 70368744177664) (hbd2 : len2 ≤ 65535) :
    Calls Try.prog 19 #[.slice a len cap, .slice a2 len2 cap2] w fun e w' => ∃ g cap', e = .returned (.slice (some ⟨g, 0, none⟩) (len + 2 + len2) cap') ∧ Own 5 w' w.heap.size g (len + 2 + len2) cap' (xs ++ putB len2 2 ++ ys) ∧ Below w.heap.size w w' := by
  have hw : IntKind.u64.wrap (len2 : Int) = (len2 : Int) := by rw [IntKind.wrap_u64]; omega
  go_enter Try.func19, Try.ntmps19
  go_wp2_with fail
  refine (refPut_any a len cap _ 2 xs _ hr (by omega)).mono ?_
  rintro e w1 ⟨g, cap', rfl, hown, hbel⟩
  have hsz := hbel.size
  go_wp2_with (at_builtin; refine wp_append_bytes _ rfl (.tmp 9) (.tmp 10) 22 rfl 5 Try.underlying22 info5 w.heap.size g (len + 2) cap' (xs ++ putB len2 2) rfl hown a2 len2 cap2 ys rfl (hr2.below hbel) (by omega) hsz w hbel ?_; intro g2 cap2' w2 hown2 hbel2)
  go_ret
  exact ⟨g2, cap2', rfl, hown2, hbel2⟩

set_option maxHeartbeats 400000 in
theorem refTakeBytes_in (b off len cap : Nat) (xs : List Int) (w : World) (hr : Row w (some ⟨b, off, none⟩) len cap xs) (hbd : len ≤ 140737488351232) (h2 : 2 ≤ len) (m : Nat) (hm : num (xs.take 2) = m) (hml : m + 2 ≤ len) :
    Calls Try.prog 17 #[.slice (some ⟨b, off, none⟩) len cap] w fun e w' => ∃ g cap', e = .returned (.tuple #[.slice (some ⟨g, 0, none⟩) m cap', .int .i64 (2 + m), .int .i64 0]) ∧ Own 5 w' w.heap.size g m cap' ((xs.drop 2).take m) ∧ Below w.heap.size w w' := by
  go_enter Try.func17, Try.ntmps17
  go_wp2_with fail
  refine (refTake_any (some ⟨b, off, none⟩) len cap 2 xs _ hr).mono ?_
  rintro e w1 ⟨rfl, rfl⟩
  have e1 : takeV xs 2 = m := by unfold takeV; rw [if_neg (by rw [hr.len]; omega)]; exact hm
  have e2 : takeE xs 2 = 0 := by unfold takeE; rw [if_neg (by omega), if_neg (by rw [hr.len]; omega)]
  have hcap := hr.cap_le
  have hlt : decide ((len : Int) - 2 < (m : Int)) = false := by simp; omega
  rw [e1, e2]
  clear e1 e2 hm
  by_cases hc2 : cap = 2
  · subst hc2
    obtain rfl : len = 2 := by omega
    obtain rfl : m = 0 := by omega
    go_wp2_with (at_builtin; refine wp_append_bytes _ rfl (.tmp 22) (.tmp 27) 22 rfl 5 Try.underlying22 info5 w1.heap.size w1.heap.size 0 0 [] rfl (own_lit w1 5 [] 0 rfl (by omega) Byt.nil) (some ⟨b, off, none⟩) 0 0 [] rfl (Row.none_of _ _ _ (by omega)) (by omega) (by simp) w1 (below_alloc _ _) ?_; intro g c' w2 hown hbel)
    go_ret3
    exact ⟨g, c', rfl, by simpa using hown, hbel⟩
  · go_wp2_with (at_builtin; refine wp_append_bytes _ rfl (.tmp 22) (.tmp 27) 22 rfl 5 Try.underlying22 info5 w1.heap.size w1.heap.size 0 0 [] rfl (own_lit w1 5 [] 0 rfl (by omega) Byt.nil) (some ⟨b, off + 2, none⟩) m (cap - 2) ((xs.drop 2).take m) (congrArg (fun q => Value.slice (some ⟨b, off + 2, none⟩) q (cap - 2)) (Nat.add_sub_cancel_left 2 m)) ((hr.sub 2 m (by omega)).below (below_alloc _ _)) (by omega) (by simp) w1 (below_alloc _ _) ?_; intro g c' w2 hown hbel)
    go_ret3
    simp only [Nat.zero_add, List.nil_append] at hown ⊢
    exact ⟨g, c', rfl, hown, hbel⟩

set_option maxHeartbeats 400000 in
theorem refTakeBytes_short (a : Option Addr) (len cap : Nat) (xs : List Int) (w : World) (hr : Row w a len cap xs) (h : len < 2 ∨ len < num (xs.take 2) + 2) :
    Calls Try.prog 17 #[.slice a len cap] w fun e w' => e = .returned (.tuple #[.slice none 0 0, .int .i64 0, .int .i64 3]) ∧ w' = w := by
  have hbd : num (xs.take 2) < 65536 ∧ 0 ≤ num (xs.take 2) := by
    have h1 := num_bd (xs.take 2) (hr.byt.take 2)
    have h2 : (256 : Int) ^ (xs.take 2).length ≤ 65536 := by
      have hl : (xs.take 2).length ≤ 2 := by simp; omega
      match (xs.take 2).length, hl with
      | 0, _ => decide
      | 1, _ => decide
      | 2, _ => decide
    omega
  have hcap := hr.cap_le
  go_enter Try.func17, Try.ntmps17
  go_wp2_with fail
  refine (refTake_any a len cap 2 xs _ hr).mono ?_
  rintro e w1 ⟨rfl, rfl⟩
  by_cases h2 : len < 2
  · have e1 : takeV xs 2 = 0 := by unfold takeV; rw [if_pos (by rw [hr.len]; omega)]
    have e2 : takeE xs 2 = 3 := by unfold takeE; rw [if_neg (by omega), if_pos (by rw [hr.len]; omega)]
    rw [e1, e2]
    go_wp2_with fail
    go_ret3
    exact ⟨rfl, rfl⟩
  · have e1 : takeV xs 2 = num (xs.take 2) := by unfold takeV; rw [if_neg (by rw [hr.len]; omega)]; rfl
    have e2 : takeE xs 2 = 0 := by unfold takeE; rw [if_neg (by omega), if_neg (by rw [hr.len]; omega)]
    rw [e1, e2]
    have hlt : (len : Int) - 2 < num (xs.take 2) := by omega
    generalize num (xs.take 2) = q at *
    clear e1 e2
    go_wp2_with fail
    go_ret3
    exact ⟨rfl, rfl⟩
end Go.Proofs.Ytinelpegpcfoaaa
