/- What num.Take does: a contract, for every slice of bytes and every n. What num.Put does: a contract, for every slice of bytes, every number and every n. What bytes.Clone, num.TakeBytes and num.PutBytes do: contracts. What the document's own answers do (transomref1's Take, Put, TakeBytes, PutBytes): contracts, for every slice of bytes. -/
import Derived.Test.YtkmpmljohjelhaaRows
import Derived.Test.YtkmpmljohjelhaaJBase
namespace Go.Proofs.Ytkmpmljohjelhaa
open Go.RowKit
set_option maxRecDepth 100000

theorem info5 : (Try.prog.info? 5).map (fun i => (i.zero, i.size, i.bytes)) = some (some (.int .u8 0), 1, 1) := by kernel_rfl

set_option maxHeartbeats 400000 in
theorem take_arg (a : Option Addr) (len cap : Nat) (n : Int) (h : n < 0 ∨ 8 < n) (w : World) :
    Calls Try.prog 43 #[.slice a len cap, .int .i64 n] w fun e w' => e = .returned (.tuple #[.int .u64 0, .int .i64 1]) ∧ w' = w := by
  rcases h with h | h
  · go_enter Try.func43, Try.ntmps43
    go_wp2
    go_step3
    go_wp2
    first | go_ret2 | (rw [Exit.noGoto_ret]; go_ret2)
    exact ⟨rfl, rfl⟩
  · have h0 : 0 ≤ n := by omega
    have h1 : decide (n ≤ 8) = false := by simp; omega
    go_enter Try.func43, Try.ntmps43
    go_wp2
    go_step3
    go_wp2
    first | go_ret2 | (rw [Exit.noGoto_ret]; go_ret2)
    exact ⟨rfl, rfl⟩

set_option maxHeartbeats 400000 in
theorem take_short (a : Option Addr) (len cap : Nat) (n : Int) (h0 : 0 ≤ n) (h8 : n ≤ 8) (hl : (len : Int) < n) (w : World) :
    Calls Try.prog 43 #[.slice a len cap, .int .i64 n] w fun e w' => e = .returned (.tuple #[.int .u64 0, .int .i64 3]) ∧ w' = w := by
  go_enter Try.func43, Try.ntmps43
  go_wp2
  go_step3
  go_wp2
  first | go_ret2 | (rw [Exit.noGoto_ret]; go_ret2)
  exact ⟨rfl, rfl⟩

set_option maxHeartbeats 400000 in
theorem take_none (len cap : Nat) (a : Option Addr) (w : World) :
    Calls Try.prog 43 #[.slice a len cap, .int .i64 0] w fun e w' => e = .returned (.tuple #[.int .u64 0, .int .i64 0]) ∧ w' = w := by
  have h0 : ¬ ((len : Int) < 0) := by omega
  go_enter Try.func43, Try.ntmps43
  go_wp2
  go_step3
  go_wp2
  go_step3
  go_wp2
  first | go_ret2 | (rw [Exit.noGoto_ret]; go_ret2)
  exact ⟨rfl, rfl⟩

set_option maxHeartbeats 400000 in
theorem take_loop (b off : Nat) (len cap : Nat) (xs : List Int) (n : Nat) (h8 : n ≤ 8) (hx : xs.length = len) (hl : n ≤ len) (w : World)
    (hc : ∀ i, i < len → w.cell? ⟨b, off + i, none⟩ = some (.int .u8 (xs.getD i 0))) (hb : Byt xs) (hm : len ≤ 9223372036854775807) :
    Calls Try.prog 43 #[.slice (some ⟨b, off, none⟩) len cap, .int .i64 n] w fun e w' => e = .returned (.tuple #[.int .u64 (num (xs.take n)), .int .i64 0]) ∧ w' = w := by
  have h8' : (n : Int) ≤ 8 := by omega
  have h0' : (0 : Int) ≤ n := by omega
  have hlt : decide (len < n) = false := by simp; omega
  have HX : Hid (xs.length = len) := hx
  clear hx
  go_enter Try.func43, Try.ntmps43
  go_wp2
  refine wp_scope_once 0 (fun a' w' => w' = w ∧ ∃ (k : Nat) (s14 s15 s16 s17 s18 s19 s20 s21 s22 s23 s24 s25 s26 s27 : Value),
     a' = { tmps := #[.slice (some ⟨b, off, none⟩) len cap, .int .i64 n, undef, undef, .int .u64 (num (xs.take k)), .int .i64 0, .int .i64 k, .int .i64 n, .bool true, .bool false, .slice (some ⟨b, off, none⟩) len cap,
       .int .i64 len, .int .i64 n, .bool false, s14, s15, s16, s17, s18, s19, s20, s21, s22, s23, s24, s25, s26, s27], defers := [] } ∧ k ≤ n)
     (fun a' _ => n - (intOf (a'.tmps.getD 6 undef)).toNat) rfl ?_ ?_
  · rintro a' w' ⟨rfl, k, s14, s15, s16, s17, s18, s19, s20, s21, s22, s23, s24, s25, s26, s27, rfl, hk⟩
    by_cases hz : k = n
    · subst hz
      go_wp2
      simp only [Exit.jump]
      go_ret2
      exact ⟨rfl, rfl⟩
    · have hz1 : ((k : Int) == (n : Int)) = false := by simp; omega
      have hkx : k < xs.length := by have := HX.out; omega
      have hp : (k : Int) < (len : Int) := by omega
      have hc0 := hc k (by omega)
      go_wp2
      go_step3
      rw [num_take xs hb k hkx (by omega)]
      refine ⟨rfl, ⟨rfl, k + 1, _, _, _, _, _, _, _, _, _, _, _, _, _, _, rfl, by omega⟩, ?_⟩
      simp [intOf]
      omega
  · intro hpass
    go_wp2
    go_step3
    rename_i hK
    refine hK _ _ ?_
    exact hpass.out _ _ ⟨rfl, 0, _, _, _, _, _, _, _, _, _, _, _, _, _, _, rfl, by omega⟩

/-- num.Take. -/
theorem take_any (a : Option Addr) (len cap : Nat) (n : Int) (xs : List Int) (w : World) (hr : Row w a len cap xs) :
    Calls Try.prog 43 #[.slice a len cap, .int .i64 n] w fun e w' => e = .returned (.tuple #[.int .u64 (takeV xs n), .int .i64 (takeE xs n)]) ∧ w' = w := by
  unfold takeV takeE
  have hl := hr.len
  have hcap := hr.cap_le
  by_cases h : n < 0 ∨ 8 < n
  · rw [if_pos (by omega), if_pos h]
    exact take_arg a len cap n h w
  · by_cases h2 : (xs.length : Int) < n
    · rw [if_pos (by omega), if_neg h, if_pos h2]
      exact take_short a len cap n (by omega) (by omega) (by omega) w
    · rw [if_neg (by omega), if_neg h, if_neg h2]
      obtain ⟨k, rfl⟩ := Int.eq_ofNat_of_zero_le (show 0 ≤ n by omega)
      rw [Int.toNat_natCast]
      by_cases h0 : k = 0
      · subst h0
        simpa [num] using take_none len cap a w
      · obtain ⟨b, off, rfl, hc⟩ := hr.at (by omega)
        exact take_loop b off len cap xs k (by omega) hl (by omega) w hc hr.byt (by omega)
end Go.Proofs.Ytkmpmljohjelhaa

namespace Go.Proofs.Ytkmpmljohjelhaa
open Go.RowKit
set_option maxRecDepth 100000

set_option maxHeartbeats 400000 in
theorem isWidth_yes (n : Int) (h0 : 0 ≤ n) (h8 : n ≤ 8) (w : World) :
    Calls Try.prog 28 #[.int .i64 n] w fun e w' => e = .returned (.bool true) ∧ w' = w := by
  go_enter Try.func28, Try.ntmps28
  go_wp2
  go_ret
  exact ⟨rfl, rfl⟩
set_option maxHeartbeats 400000 in
theorem isWidth_no (n : Int) (h : n < 0 ∨ 8 < n) (w : World) :
    Calls Try.prog 28 #[.int .i64 n] w fun e w' => e = .returned (.bool false) ∧ w' = w := by
  rcases h with h | h
  · go_enter Try.func28, Try.ntmps28
    go_wp2
    go_ret
    exact ⟨rfl, rfl⟩
  · have h0 : 0 ≤ n := by omega
    have h1 : decide (n ≤ 8) = false := by simp; omega
    go_enter Try.func28, Try.ntmps28
    go_wp2
    go_ret
    exact ⟨rfl, rfl⟩

set_option maxHeartbeats 1000000 in
theorem put_in (a : Option Addr) (len cap : Nat) (v : Int) (m : Nat) (hm8 : m ≤ 8) (xs : List Int) (w : World) (hr : Row w a len cap xs) (hbd : len ≤ 140737488351232) :
    Calls Try.prog 15 #[.slice a len cap, .int .u64 v, .int .i64 m] w fun e w' => ∃ g cap', e = .returned (.slice (some ⟨g, 0, none⟩) (len + m) cap') ∧ Own 5 w' w.heap.size g (len + m) cap' (xs ++ putB v m) ∧ Below w.heap.size w w' := by
  have h8' : (m : Int) ≤ 8 := by omega
  have h0' : (0 : Int) ≤ m := by omega
  go_enter Try.func15, Try.ntmps15
  go_wp2_with fail
  refine wp_scope_once 0 (fun a' w' => Below w.heap.size w w' ∧ ∃ (k g : Nat) (zs : List Int) (x7 x8 s9 s10 s11 s12 s13 s14 s15 s16 s17 s18 s19 s20 s21 s22 s23 s24 s25 s26 s27 s28 s29 s30 s31 s32 s33 s34 s35 : Value),
     a' = { tmps := #[.slice a len cap, .int .u64 v, .int .i64 m, undef, undef, undef, .slice none 0 0, x7, x8, s9, s10, s11, s12, s13, s14, s15, s16, s17, s18, s19, s20, s21, s22, s23, s24, s25, s26, s27, s28, s29, s30, s31, s32, s33, s34, s35], defers := [] } ∧ x7 = .slice (some ⟨g, 0, none⟩) (len + m - k) (len + m) ∧ x8 = .int .i64 (8 * k : Nat) ∧
       k ≤ m ∧ Own 5 w' w.heap.size g (len + m - k) (len + m) zs ∧ zs ++ putB v k = xs ++ putB v m)
     (fun a' _ => (intOf (a'.tmps.getD 8 undef)).toNat) rfl ?_ ?_
  · rintro a' w' ⟨hbel, k, g, zs, x7, x8, s9, s10, s11, s12, s13, s14, s15, s16, s17, s18, s19, s20, s21, s22, s23, s24, s25, s26, s27, s28, s29, s30, s31, s32, s33, s34, s35, rfl, rfl, rfl, hk, hown, hzs⟩
    cases k with
    | zero =>
      go_wp2
      simp only [Exit.jump]
      go_ret
      refine ⟨g, len + m, rfl, ?_, hbel⟩
      simp [putB] at hzs
      subst hzs
      exact hown
    | succ k =>
      have hz1 : (((8 * (k + 1) : Nat) : Int) == 0) = false := by simp; omega
      have hw1 : len + m - (k + 1) + 1 ≤ len + m := by omega
      have hz2 : w.heap.size ≤ w'.heap.size := hbel.size
      go_wp2_with (at_builtin; refine wp_append_room_bytes _ rfl (.tmp 29) (.tmp 34) 29 rfl 5 Try.underlying29 info5 w.heap.size g (len + m - (k + 1)) (len + m) zs rfl (hown.below (below_alloc _ _)) (some ⟨w'.heap.size, 0, none⟩) 1 1 [v / 2 ^ (8 * (k + 1) - 8) % 256] rfl (row_lit w' 5 [_] 1 rfl (by omega) (Byt.one (by omega))) hw1 (by simp; omega) w (hbel.alloc hz2 _) ?_)
      intro w1 hown1 hbel1
      go_wp2_with fail
      go_step3
      refine ⟨rfl, ⟨hbel1, k, g, zs ++ [v / 2 ^ (8 * (k + 1) - 8) % 256], _, _, _, _, _, _, _, _, _, _, _, _, _, _, _, _, _, _, _, _, _, _, _, _, _, _, _, _, _, rfl, ?_, ?_, by omega, ?_, ?_⟩, ?_⟩
      · rw [show len + m - k = len + m - (k + 1) + 1 by omega]
      · rw [show (8 * ((k : Int) + 1) - 8) = ((8 * k : Nat) : Int) by omega]
      · rw [show len + m - k = len + m - (k + 1) + 1 by omega]; exact hown1
      · rw [← hzs, byte_shr]; simp [putB]
      · simp [intOf]; omega
  · intro hpass
    go_wp2_with fail
    refine (isWidth_yes _ h0' h8' _).mono ?_
    rintro e w' ⟨rfl, rfl⟩
    go_wp2_with (first | (at_make; refine wp_make_bytes _ rfl (.tmp 13) (.tmp 17) 29 rfl 5 Try.underlying29 info5 _ _ len (len + m) rfl rfl rfl (by omega) (by omega) (by omega) w'.heap.size (Nat.le_refl _) w' (Below.refl _ _) ?_; intro w1 hg1 hbel1 hsz1) | (refine wp_copy_bytes _ rfl (.tmp 19) (.tmp 20) 29 rfl 5 Try.underlying29 info5 w'.heap.size len (len + m) rfl a len cap xs rfl (hr.below hbel1) (Nat.le_refl _) (by omega) (List.replicate (len + m) (Value.int .u8 0)) (by simp) hg1.out w'.heap.size (Nat.le_refl _) w' hbel1 ?_; intro w2 hg2 hbel2))
    go_step3
    rename_i hK
    refine hK _ _ ?_
    refine hpass.out _ _ ⟨hbel2, m, w'.heap.size, xs, _, _, _, _, _, _, _, _, _, _, _, _, _, _, _, _, _, _, _, _, _, _, _, _, _, _, _, _, _, rfl, ?_, ?_, Nat.le_refl _, ?_, rfl⟩
    · rw [Nat.add_sub_cancel]
    · rw [show (8 * (m : Int)) = ((8 * m : Nat) : Int) by omega]
    · rw [Nat.add_sub_cancel]
      refine Own.of_block (Nat.le_refl _) hg2.out (by omega) (by unfold maxLen; omega) (by simp [hr.len]) hr.len hr.byt ?_
      rw [List.take_append_of_le_length (by simp [hr.len])]
      exact List.take_of_length_le (by simp [hr.len])

set_option maxHeartbeats 1000000 in
theorem put_out (a : Option Addr) (len cap : Nat) (v : Int) (n : Int) (hn : n < 0 ∨ 8 < n) (xs : List Int) (w : World) (hr : Row w a len cap xs) (hbd : len ≤ 140737488351232) :
    Calls Try.prog 15 #[.slice a len cap, .int .u64 v, .int .i64 n] w fun e w' => ∃ g cap', e = .returned (.slice (some ⟨g, 0, none⟩) len cap') ∧ Own 5 w' w.heap.size g len cap' xs ∧ Below w.heap.size w w' := by
  go_enter Try.func15, Try.ntmps15
  go_wp2_with fail
  go_step3
  go_wp2_with fail
  refine (isWidth_no _ hn _).mono ?_
  rintro e w' ⟨rfl, rfl⟩
  go_wp2_with (first | (at_make; refine wp_make_bytes _ rfl (.tmp 13) (.tmp 17) 29 rfl 5 Try.underlying29 info5 _ _ len len rfl rfl rfl (by omega) (by omega) (by omega) w'.heap.size (Nat.le_refl _) w' (Below.refl _ _) ?_; intro w1 hg1 hbel1 hsz1) | (refine wp_copy_bytes _ rfl (.tmp 19) (.tmp 20) 29 rfl 5 Try.underlying29 info5 w'.heap.size len len rfl a len cap xs rfl (hr.below hbel1) (Nat.le_refl _) (by omega) (List.replicate len (Value.int .u8 0)) (by simp) hg1.out w'.heap.size (Nat.le_refl _) w' hbel1 ?_; intro w2 hg2 hbel2))
  go_step3
  go_wp2_with fail
  first | go_ret | (rw [Exit.noGoto_ret]; go_ret)
  refine ⟨w'.heap.size, len, rfl, ?_, hbel2⟩
  refine Own.of_block (Nat.le_refl _) hg2.out (by omega) (by unfold maxLen; omega) (by simp [hr.len]) hr.len hr.byt ?_
  rw [List.take_append_of_le_length (by simp [hr.len])]
  exact List.take_of_length_le (by simp [hr.len])

/-- num.Put. -/
theorem put_any (a : Option Addr) (len cap : Nat) (v : Int) (n : Int) (xs : List Int) (w : World) (hr : Row w a len cap xs) (hbd : len ≤ 140737488351232) :
    Calls Try.prog 15 #[.slice a len cap, .int .u64 v, .int .i64 n] w fun e w' => ∃ g cap', e = .returned (.slice (some ⟨g, 0, none⟩) (len + wid n) cap') ∧ Own 5 w' w.heap.size g (len + wid n) cap' (xs ++ putB v (wid n)) ∧ Below w.heap.size w w' := by
  unfold wid
  by_cases h : n < 0 ∨ 8 < n
  · rw [if_pos h]
    simpa [putB] using put_out a len cap v n h xs w hr hbd
  · rw [if_neg h]
    obtain ⟨k, rfl⟩ := Int.eq_ofNat_of_zero_le (show 0 ≤ n by omega)
    rw [Int.toNat_natCast]
    exact put_in a len cap v k (by omega) xs w hr hbd
end Go.Proofs.Ytkmpmljohjelhaa

namespace Go.Proofs.Ytkmpmljohjelhaa
open Go.RowKit
set_option maxRecDepth 100000

set_option maxHeartbeats 400000 in
theorem clone_some (x : Addr) (len cap : Nat) (xs : List Int) (w : World) (hr : Row w (some x) len cap xs) (hbd : len ≤ 140737488351232) :
    Calls Try.prog 51 #[.slice (some x) len cap] w fun e w' => ∃ g cap', e = .returned (.slice (some ⟨g, 0, none⟩) len cap') ∧ Own 5 w' w.heap.size g len cap' xs ∧ Below w.heap.size w w' := by
  have hq := fun W => Lib.run_eql_slice_nil (P := Try.prog) W 29 5 (some x) len cap 0 0 Try.underlying29
  go_enter Try.func51, Try.ntmps51
  go_wp2_with (at_builtin; refine wp_append_bytes _ rfl (.tmp 5) (.tmp 6) 29 rfl 5 Try.underlying29 info5 w.heap.size w.heap.size 0 0 [] rfl (own_lit w 5 [] 0 rfl (by omega) Byt.nil) (some x) len cap xs rfl (hr.below (below_alloc _ _)) (by omega) (by simp) w (below_alloc _ _) ?_; intro g cap' w1 hown hbel)
  go_ret
  exact ⟨g, cap', by simp, by simpa using hown, hbel⟩

set_option maxHeartbeats 400000 in
theorem putBytes_any (a : Option Addr) (len cap : Nat) (xs : List Int) (a2 : Option Addr) (len2 cap2 : Nat) (ys : List Int) (w : World) (hr : Row w a len cap xs) (hr2 : Row w a2 len2 cap2 ys) (hbd : len ≤ 70368744177664) (hbd2 : len2 ≤ 65535) :
    Calls Try.prog 29 #[.slice a len cap, .slice a2 len2 cap2] w fun e w' => ∃ g cap', e = .returned (.slice (some ⟨g, 0, none⟩) (len + 2 + len2) cap') ∧ Own 5 w' w.heap.size g (len + 2 + len2) cap' (xs ++ putB len2 2 ++ ys) ∧ Below w.heap.size w w' := by
  have h1 : ¬ (65535 : Int) < (len2 : Int) := by omega
  have hw : IntKind.u64.wrap (len2 : Int) = (len2 : Int) := by rw [IntKind.wrap_u64]; omega
  go_enter Try.func29, Try.ntmps29
  go_wp2_with fail
  refine (put_any a len cap _ 2 xs _ hr (by omega)).mono ?_
  rintro e w1 ⟨g, cap', rfl, hown, hbel⟩
  have hsz := hbel.size
  go_wp2_with (at_builtin; refine wp_append_bytes _ rfl (.tmp 14) (.tmp 15) 29 rfl 5 Try.underlying29 info5 w.heap.size g (len + 2) cap' (xs ++ putB len2 2) rfl hown a2 len2 cap2 ys rfl (hr2.below hbel) (by omega) hsz w hbel ?_; intro g2 cap2' w2 hown2 hbel2)
  go_ret
  exact ⟨g2, cap2', rfl, hown2, hbel2⟩

set_option maxHeartbeats 400000 in
theorem takeBytes_in (b off len cap : Nat) (xs : List Int) (w : World) (hr : Row w (some ⟨b, off, none⟩) len cap xs) (hbd : len ≤ 140737488351232) (h2 : 2 ≤ len) (m : Nat) (hm : num (xs.take 2) = m) (hml : m + 2 ≤ len) :
    Calls Try.prog 58 #[.slice (some ⟨b, off, none⟩) len cap] w fun e w' => ∃ g cap', e = .returned (.tuple #[.slice (some ⟨g, 0, none⟩) m cap', .int .i64 (2 + m), .int .i64 0]) ∧ Own 5 w' w.heap.size g m cap' ((xs.drop 2).take m) ∧ Below w.heap.size w w' := by
  go_enter Try.func58, Try.ntmps58
  go_wp2_with fail
  refine (take_any (some ⟨b, off, none⟩) len cap 2 xs _ hr).mono ?_
  rintro e w1 ⟨rfl, rfl⟩
  have e1 : takeV xs 2 = m := by unfold takeV; rw [if_neg (by rw [hr.len]; omega)]; exact hm
  have e2 : takeE xs 2 = 0 := by unfold takeE; rw [if_neg (by omega), if_neg (by rw [hr.len]; omega)]
  have hcap := hr.cap_le
  rw [e1, e2]
  go_wp2_with fail
  · have hm0 : m = 0 := by omega
    subst hm0
    refine (clone_some _ 0 0 [] _ (Row.none_of _ _ _ (by omega)) (by omega)).mono ?_
    rintro e w2 ⟨g, cap', rfl, hown, hbel⟩
    go_wp2_with fail
    go_ret3
    exact ⟨g, cap', rfl, by simpa using hown, hbel⟩
  · refine (clone_some _ m (cap - 2) _ _ (hr.sub 2 m (by omega)) (by omega)).mono ?_
    rintro e w2 ⟨g, cap', rfl, hown, hbel⟩
    go_wp2_with fail
    go_ret3
    exact ⟨g, cap', rfl, hown, hbel⟩

set_option maxHeartbeats 400000 in
theorem takeBytes_short (a : Option Addr) (len cap : Nat) (xs : List Int) (w : World) (hr : Row w a len cap xs) (h : len < 2 ∨ len < num (xs.take 2) + 2) :
    Calls Try.prog 58 #[.slice a len cap] w fun e w' => e = .returned (.tuple #[.slice none 0 0, .int .i64 0, .int .i64 3]) ∧ w' = w := by
  have hbd : num (xs.take 2) < 65536 ∧ 0 ≤ num (xs.take 2) := by
    have h1 := num_bd (xs.take 2) (hr.byt.take 2)
    have h2 : (256 : Int) ^ (xs.take 2).length ≤ 65536 := by
      have hl : (xs.take 2).length ≤ 2 := by simp; omega
      match (xs.take 2).length, hl with
      | 0, _ => decide
      | 1, _ => decide
      | 2, _ => decide
    omega
  go_enter Try.func58, Try.ntmps58
  go_wp2_with fail
  refine (take_any a len cap 2 xs _ hr).mono ?_
  rintro e w1 ⟨rfl, rfl⟩
  by_cases h2 : len < 2
  · have e1 : takeV xs 2 = 0 := by unfold takeV; rw [if_pos (by rw [hr.len]; omega)]
    have e2 : takeE xs 2 = 3 := by unfold takeE; rw [if_neg (by omega), if_pos (by rw [hr.len]; omega)]
    rw [e1, e2]
    go_wp2_with fail
    go_ret3
    exact ⟨rfl, rfl⟩
  · have e1 : takeV xs 2 = num (xs.take 2) := by unfold takeV; rw [if_neg (by rw [hr.len]; omega)]; rfl
    have e2 : takeE xs 2 = 0 := by unfold takeE; rw [if_neg (by omega), if_neg (by rw [hr.len]; omega)]
    rw [e1, e2]
    have hlt : (len : Int) < 2 + num (xs.take 2) := by omega
    generalize num (xs.take 2) = q at *
    clear e1 e2
    go_wp2_with fail
    go_ret3
    exact ⟨rfl, rfl⟩
end Go.Proofs.Ytkmpmljohjelhaa

namespace Go.Proofs.Ytkmpmljohjelhaa
open Go.RowKit
set_option maxRecDepth 100000

set_option maxHeartbeats 400000 in
theorem refPut_out (a : Option Addr) (len cap : Nat) (v : Int) (n : Int) (hn : n < 0 ∨ 8 < n) (xs : List Int) (w : World) (hr : Row w a len cap xs) (hbd : len ≤ 140737488351232) :
    Calls Try.prog 20 #[.slice a len cap, .int .u64 v, .int .i64 n] w fun e w' => ∃ g cap', e = .returned (.slice (some ⟨g, 0, none⟩) len cap') ∧ Own 5 w' w.heap.size g len cap' xs ∧ Below w.heap.size w w' := by
  rcases hn with h | h
  · go_enter Try.func20, Try.ntmps20
    go_wp2_with (at_builtin; refine wp_append_bytes _ rfl (.tmp 9) (.tmp 10) 29 rfl 5 Try.underlying29 info5 w.heap.size w.heap.size 0 0 [] rfl (own_lit w 5 [] 0 rfl (by omega) Byt.nil) a len cap xs rfl (hr.below (below_alloc _ _)) (by omega) (by simp) w (below_alloc _ _) ?_; intro g cap' w1 hown hbel)
    go_ret
    exact ⟨g, cap', by simp, by simpa using hown, hbel⟩
  · have h0 : decide (n < 0) = false := by simp; omega
    go_enter Try.func20, Try.ntmps20
    go_wp2_with (at_builtin; refine wp_append_bytes _ rfl (.tmp 9) (.tmp 10) 29 rfl 5 Try.underlying29 info5 w.heap.size w.heap.size 0 0 [] rfl (own_lit w 5 [] 0 rfl (by omega) Byt.nil) a len cap xs rfl (hr.below (below_alloc _ _)) (by omega) (by simp) w (below_alloc _ _) ?_; intro g cap' w1 hown hbel)
    go_ret
    exact ⟨g, cap', by simp, by simpa using hown, hbel⟩

set_option maxHeartbeats 1000000 in
theorem refPut_in (a : Option Addr) (len cap : Nat) (v : Int) (m : Nat) (hm8 : m ≤ 8) (xs : List Int) (w : World) (hr : Row w a len cap xs) (hbd : len ≤ 140737488351232) :
    Calls Try.prog 20 #[.slice a len cap, .int .u64 v, .int .i64 m] w fun e w' => ∃ g cap', e = .returned (.slice (some ⟨g, 0, none⟩) (len + m) cap') ∧ Own 5 w' w.heap.size g (len + m) cap' (xs ++ putB v m) ∧ Below w.heap.size w w' := by
  have h1 : decide ((m : Int) < 0) = false := by simp
  have h2 : decide ((8 : Int) < m) = false := by simp; omega
  have h8' : (m : Int) ≤ 8 := by omega
  go_enter Try.func20, Try.ntmps20
  go_wp2_with (at_builtin; refine wp_append_bytes _ rfl (.tmp 9) (.tmp 10) 29 rfl 5 Try.underlying29 info5 w.heap.size w.heap.size 0 0 [] rfl (own_lit w 5 [] 0 rfl (by omega) Byt.nil) a len cap xs rfl (hr.below (below_alloc _ _)) (by omega) (by simp) w (below_alloc _ _) ?_; intro g cap' w1 hown hbel)
  go_loopw [7, 8] (fun o i wr => ∃ (k g c : Nat) (zs : List Int), k ≤ m ∧ i = .int .i64 k ∧ o = .slice (some ⟨g, 0, none⟩) (len + k) c ∧ Own 5 wr w.heap.size g (len + k) c zs ∧ Below w.heap.size w wr ∧ zs ++ putB v (m - k) = xs ++ putB v m) (fun _ i _ => m - (intOf i).toNat)
  case atStart => exact ⟨0, g, cap', xs, by omega, rfl, by simp, by simpa using hown, hbel, rfl⟩
  case round =>
    clear hown hbel
    obtain ⟨k, g, c, zs, hk, rfl, rfl, hown, hbel, hzs⟩ := hrel
    have hsz := hbel.size
    by_cases hlt : k < m
    · have hp : (k : Int) < (m : Int) := by omega
      go_wp2_with (at_builtin; refine wp_append_bytes _ rfl (.tmp 24) (.tmp 33) 29 rfl 5 Try.underlying29 info5 w.heap.size g (len + k) c zs rfl (hown.below (below_alloc _ _)) (some ⟨wr.heap.size, 0, none⟩) 1 1 [v / 2 ^ (8 * (m - 1 - k)) % 256] rfl (row_lit wr 5 [_] 1 rfl (by omega) (Byt.one (by omega))) (by omega) (by simp; omega) w (hbel.alloc hsz _) ?_; intro g1 c1 w1 hown1 hbel1)
      go_roundw
      case rel =>
        refine ⟨k + 1, g1, c1, zs ++ [v / 2 ^ (8 * (m - 1 - k)) % 256], by omega, by go_num, rfl, hown1, hbel1, ?_⟩
        rw [← hzs, show m - k = (m - 1 - k) + 1 by omega, show m - (k + 1) = m - 1 - k by omega, Int.pow_mul, show (2 : Int) ^ 8 = 256 from rfl]
        simp [putB]
      case measure => simp [intOf]; omega
    · obtain rfl : k = m := by omega
      go_wp2_with fail
      go_ret
      refine ⟨g, c, rfl, ?_, hbel⟩
      simp [putB] at hzs
      subst hzs
      exact hown

/-- transomref1.Put. -/
theorem refPut_any (a : Option Addr) (len cap : Nat) (v : Int) (n : Int) (xs : List Int) (w : World) (hr : Row w a len cap xs) (hbd : len ≤ 140737488351232) :
    Calls Try.prog 20 #[.slice a len cap, .int .u64 v, .int .i64 n] w fun e w' => ∃ g cap', e = .returned (.slice (some ⟨g, 0, none⟩) (len + wid n) cap') ∧ Own 5 w' w.heap.size g (len + wid n) cap' (xs ++ putB v (wid n)) ∧ Below w.heap.size w w' := by
  unfold wid
  by_cases h : n < 0 ∨ 8 < n
  · rw [if_pos h]
    simpa [putB] using refPut_out a len cap v n h xs w hr hbd
  · rw [if_neg h]
    obtain ⟨k, rfl⟩ := Int.eq_ofNat_of_zero_le (show 0 ≤ n by omega)
    rw [Int.toNat_natCast]
    exact refPut_in a len cap v k (by omega) xs w hr hbd

set_option maxHeartbeats 400000 in
theorem refPutBytes_any (a : Option Addr) (len cap : Nat) (xs : List Int) (a2 : Option Addr) (len2 cap2 : Nat) (ys : List Int) (w : World) (hr : Row w a len cap xs) (hr2 : Row w a2 len2 cap2 ys) (hbd : len ≤ 70368744177664) (hbd2 : len2 ≤ 65535) :
    Calls Try.prog 34 #[.slice a len cap, .slice a2 len2 cap2] w fun e w' => ∃ g cap', e = .returned (.slice (some ⟨g, 0, none⟩) (len + 2 + len2) cap') ∧ Own 5 w' w.heap.size g (len + 2 + len2) cap' (xs ++ putB len2 2 ++ ys) ∧ Below w.heap.size w w' := by
  have hw : IntKind.u64.wrap (len2 : Int) = (len2 : Int) := by rw [IntKind.wrap_u64]; omega
  go_enter Try.func34, Try.ntmps34
  go_wp2_with fail
  refine (refPut_any a len cap _ 2 xs _ hr (by omega)).mono ?_
  rintro e w1 ⟨g, cap', rfl, hown, hbel⟩
  have hsz := hbel.size
  go_wp2_with (at_builtin; refine wp_append_bytes _ rfl (.tmp 9) (.tmp 10) 29 rfl 5 Try.underlying29 info5 w.heap.size g (len + 2) cap' (xs ++ putB len2 2) rfl hown a2 len2 cap2 ys rfl (hr2.below hbel) (by omega) hsz w hbel ?_; intro g2 cap2' w2 hown2 hbel2)
  go_ret
  exact ⟨g2, cap2', rfl, hown2, hbel2⟩

end Go.Proofs.Ytkmpmljohjelhaa
