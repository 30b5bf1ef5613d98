/- What the document's own answers do (transomref1's Take, Put, TakeBytes, PutBytes): contracts, for every slice of bytes. -/
import Derived.Test.YtafnonmpanpfkaaNum
namespace Go.Proofs.Ytafnonmpanpfkaa
open Go.RowKit
set_option maxRecDepth 100000

set_option maxHeartbeats 400000 in
theorem refPut_out (a : Option Addr) (len cap : Nat) (v : Int) (n : Int) (hn : n < 0 ∨ 8 < n) (xs : List Int) (w : World) (hr : Row w a len cap xs) (hbd : len ≤ 140737488351232) :
    Calls Try.prog 44 #[.slice a len cap, .int .u64 v, .int .i64 n] w fun e w' => ∃ g cap', e = .returned (.slice (some ⟨g, 0, none⟩) len cap') ∧ Own 5 w' w.heap.size g len cap' xs ∧ Below w.heap.size w w' := by
  rcases hn with h | h
  · go_enter Try.func44, Try.ntmps44
    go_wp2_with (at_builtin; refine wp_append_bytes _ rfl (.tmp 9) (.tmp 10) 32 rfl 5 Try.underlying32 info5 w.heap.size w.heap.size 0 0 [] rfl (own_lit w 5 [] 0 rfl (by omega) Byt.nil) a len cap xs rfl (hr.below (below_alloc _ _)) (by omega) (by simp) w (below_alloc _ _) ?_; intro g cap' w1 hown hbel)
    go_ret
    exact ⟨g, cap', by simp, by simpa using hown, hbel⟩
  · have h0 : decide (n < 0) = false := by simp; omega
    go_enter Try.func44, Try.ntmps44
    go_wp2_with (at_builtin; refine wp_append_bytes _ rfl (.tmp 9) (.tmp 10) 32 rfl 5 Try.underlying32 info5 w.heap.size w.heap.size 0 0 [] rfl (own_lit w 5 [] 0 rfl (by omega) Byt.nil) a len cap xs rfl (hr.below (below_alloc _ _)) (by omega) (by simp) w (below_alloc _ _) ?_; intro g cap' w1 hown hbel)
    go_ret
    exact ⟨g, cap', by simp, by simpa using hown, hbel⟩

set_option maxHeartbeats 1000000 in
theorem refPut_in (a : Option Addr) (len cap : Nat) (v : Int) (m : Nat) (hm8 : m ≤ 8) (xs : List Int) (w : World) (hr : Row w a len cap xs) (hbd : len ≤ 140737488351232) :
    Calls Try.prog 44 #[.slice a len cap, .int .u64 v, .int .i64 m] w fun e w' => ∃ g cap', e = .returned (.slice (some ⟨g, 0, none⟩) (len + m) cap') ∧ Own 5 w' w.heap.size g (len + m) cap' (xs ++ putB v m) ∧ Below w.heap.size w w' := by
  have h1 : decide ((m : Int) < 0) = false := by simp
  have h2 : decide ((8 : Int) < m) = false := by simp; omega
  have h8' : (m : Int) ≤ 8 := by omega
  go_enter Try.func44, Try.ntmps44
  go_wp2_with (at_builtin; refine wp_append_bytes _ rfl (.tmp 9) (.tmp 10) 32 rfl 5 Try.underlying32 info5 w.heap.size w.heap.size 0 0 [] rfl (own_lit w 5 [] 0 rfl (by omega) Byt.nil) a len cap xs rfl (hr.below (below_alloc _ _)) (by omega) (by simp) w (below_alloc _ _) ?_; intro g cap' w1 hown hbel)
  go_loopw [7, 8] (fun o i wr => ∃ (k g c : Nat) (zs : List Int), k ≤ m ∧ i = .int .i64 k ∧ o = .slice (some ⟨g, 0, none⟩) (len + k) c ∧ Own 5 wr w.heap.size g (len + k) c zs ∧ Below w.heap.size w wr ∧ zs ++ putB v (m - k) = xs ++ putB v m) (fun _ i _ => m - (intOf i).toNat)
  case atStart => exact ⟨0, g, cap', xs, by omega, rfl, by simp, by simpa using hown, hbel, rfl⟩
  case round =>
    clear hown hbel
    obtain ⟨k, g, c, zs, hk, rfl, rfl, hown, hbel, hzs⟩ := hrel
    have hsz := hbel.size
    by_cases hlt : k < m
    · have hp : (k : Int) < (m : Int) := by omega
      go_wp2_with (at_builtin; refine wp_append_bytes _ rfl (.tmp 24) (.tmp 33) 32 rfl 5 Try.underlying32 info5 w.heap.size g (len + k) c zs rfl (hown.below (below_alloc _ _)) (some ⟨wr.heap.size, 0, none⟩) 1 1 [v / 2 ^ (8 * (m - 1 - k)) % 256] rfl (row_lit wr 5 [_] 1 rfl (by omega) (Byt.one (by omega))) (by omega) (by simp; omega) w (hbel.alloc hsz _) ?_; intro g1 c1 w1 hown1 hbel1)
      go_roundw
      case rel =>
        refine ⟨k + 1, g1, c1, zs ++ [v / 2 ^ (8 * (m - 1 - k)) % 256], by omega, by go_num, rfl, hown1, hbel1, ?_⟩
        rw [← hzs, show m - k = (m - 1 - k) + 1 by omega, show m - (k + 1) = m - 1 - k by omega, Int.pow_mul, show (2 : Int) ^ 8 = 256 from rfl]
        simp [putB]
      case measure => simp [intOf]; omega
    · obtain rfl : k = m := by omega
      go_wp2_with fail
      go_ret
      refine ⟨g, c, rfl, ?_, hbel⟩
      simp [putB] at hzs
      subst hzs
      exact hown

/-- transomref1.Put. -/
theorem refPut_any (a : Option Addr) (len cap : Nat) (v : Int) (n : Int) (xs : List Int) (w : World) (hr : Row w a len cap xs) (hbd : len ≤ 140737488351232) :
    Calls Try.prog 44 #[.slice a len cap, .int .u64 v, .int .i64 n] w fun e w' => ∃ g cap', e = .returned (.slice (some ⟨g, 0, none⟩) (len + wid n) cap') ∧ Own 5 w' w.heap.size g (len + wid n) cap' (xs ++ putB v (wid n)) ∧ Below w.heap.size w w' := by
  unfold wid
  by_cases h : n < 0 ∨ 8 < n
  · rw [if_pos h]
    simpa [putB] using refPut_out a len cap v n h xs w hr hbd
  · rw [if_neg h]
    obtain ⟨k, rfl⟩ := Int.eq_ofNat_of_zero_le (show 0 ≤ n by omega)
    rw [Int.toNat_natCast]
    exact refPut_in a len cap v k (by omega) xs w hr hbd

set_option maxHeartbeats 400000 in
theorem refPutBytes_any (a : Option Addr) (len cap : Nat) (xs : List Int) (a2 : Option Addr) (len2 cap2 : Nat) (ys : List Int) (w : World) (hr : Row w a len cap xs) (hr2 : Row w a2 len2 cap2 ys) (hbd : len ≤ 70368744177664) (hbd2 : len2 ≤ 65535) :
    Calls Try.prog 43 #[.slice a len cap, .slice a2 len2 cap2] w fun e w' => ∃ g cap', e = .returned (.slice (some ⟨g, 0, none⟩) (len + 2 + len2) cap') ∧ Own 5 w' w.heap.size g (len + 2 + len2) cap' (xs ++ putB len2 2 ++ ys) ∧ Below w.heap.size w w' := by
  have hw : IntKind.u64.wrap (len2 : Int) = (len2 : Int) := by rw [IntKind.wrap_u64]; omega
  go_enter Try.func43, Try.ntmps43
  go_wp2_with fail
  refine (refPut_any a len cap _ 2 xs _ hr (by omega)).mono ?_
  rintro e w1 ⟨g, cap', rfl, hown, hbel⟩
  have hsz := hbel.size
  go_wp2_with (at_builtin; refine wp_append_bytes _ rfl (.tmp 9) (.tmp 10) 32 rfl 5 Try.underlying32 info5 w.heap.size g (len + 2) cap' (xs ++ putB len2 2) rfl hown a2 len2 cap2 ys rfl (hr2.below hbel) (by omega) hsz w hbel ?_; intro g2 cap2' w2 hown2 hbel2)
  go_ret
  exact ⟨g2, cap2', rfl, hown2, hbel2⟩

end Go.Proofs.Ytafnonmpanpfkaa
