/- What num.Put does: a contract, for every slice of bytes, every number and every n. -/
import Derived.Test.YtafnonmpanpfkaaNum
namespace Go.Proofs.Ytafnonmpanpfkaa
open Go.RowKit
set_option maxRecDepth 100000

set_option maxHeartbeats 400000 in
theorem isWidth_yes (n : Int) (h0 : 0 ≤ n) (h8 : n ≤ 8) (w : World) :
    Calls Try.prog 45 #[.int .i64 n] w fun e w' => e = .returned (.bool true) ∧ w' = w := by
  go_enter Try.func45, Try.ntmps45
  go_wp2
  go_ret
  exact ⟨rfl, rfl⟩
set_option maxHeartbeats 400000 in
theorem isWidth_no (n : Int) (h : n < 0 ∨ 8 < n) (w : World) :
    Calls Try.prog 45 #[.int .i64 n] w fun e w' => e = .returned (.bool false) ∧ w' = w := by
  rcases h with h | h
  · go_enter Try.func45, Try.ntmps45
    go_wp2
    go_ret
    exact ⟨rfl, rfl⟩
  · have h0 : 0 ≤ n := by omega
    have h1 : decide (n ≤ 8) = false := by simp; omega
    go_enter Try.func45, Try.ntmps45
    go_wp2
    go_ret
    exact ⟨rfl, rfl⟩

set_option maxHeartbeats 1000000 in
theorem put_in (a : Option Addr) (len cap : Nat) (v : Int) (m : Nat) (hm8 : m ≤ 8) (xs : List Int) (w : World) (hr : Row w a len cap xs) (hbd : len ≤ 140737488351232) :
    Calls Try.prog 37 #[.slice a len cap, .int .u64 v, .int .i64 m] w fun e w' => ∃ g cap', e = .returned (.slice (some ⟨g, 0, none⟩) (len + m) cap') ∧ Own 5 w' w.heap.size g (len + m) cap' (xs ++ putB v m) ∧ Below w.heap.size w w' := by
  have h8' : (m : Int) ≤ 8 := by omega
  have h0' : (0 : Int) ≤ m := by omega
  go_enter Try.func37, Try.ntmps37
  go_wp2_with fail
  refine wp_scope_once 0 (fun a' w' => Below w.heap.size w w' ∧ ∃ (k g : Nat) (zs : List Int) (x7 x8 s9 s10 s11 s12 s13 s14 s15 s16 s17 s18 s19 s20 s21 s22 s23 s24 s25 s26 s27 s28 s29 s30 s31 s32 s33 s34 s35 : Value),
     a' = { tmps := #[.slice a len cap, .int .u64 v, .int .i64 m, undef, undef, undef, .slice none 0 0, x7, x8, s9, s10, s11, s12, s13, s14, s15, s16, s17, s18, s19, s20, s21, s22, s23, s24, s25, s26, s27, s28, s29, s30, s31, s32, s33, s34, s35], defers := [] } ∧ x7 = .slice (some ⟨g, 0, none⟩) (len + m - k) (len + m) ∧ x8 = .int .i64 (8 * k : Nat) ∧
       k ≤ m ∧ Own 5 w' w.heap.size g (len + m - k) (len + m) zs ∧ zs ++ putB v k = xs ++ putB v m)
     (fun a' _ => (intOf (a'.tmps.getD 8 undef)).toNat) rfl ?_ ?_
  · rintro a' w' ⟨hbel, k, g, zs, x7, x8, s9, s10, s11, s12, s13, s14, s15, s16, s17, s18, s19, s20, s21, s22, s23, s24, s25, s26, s27, s28, s29, s30, s31, s32, s33, s34, s35, rfl, rfl, rfl, hk, hown, hzs⟩
    cases k with
    | zero =>
      go_wp2
      simp only [Exit.jump]
      go_ret
      refine ⟨g, len + m, rfl, ?_, hbel⟩
      simp [putB] at hzs
      subst hzs
      exact hown
    | succ k =>
      have hz1 : (((8 * (k + 1) : Nat) : Int) == 0) = false := by simp; omega
      have hw1 : len + m - (k + 1) + 1 ≤ len + m := by omega
      have hz2 : w.heap.size ≤ w'.heap.size := hbel.size
      go_wp2_with (at_builtin; refine wp_append_room_bytes _ rfl (.tmp 29) (.tmp 34) 32 rfl 5 Try.underlying32 info5 w.heap.size g (len + m - (k + 1)) (len + m) zs rfl (hown.below (below_alloc _ _)) (some ⟨w'.heap.size, 0, none⟩) 1 1 [v / 2 ^ (8 * (k + 1) - 8) % 256] rfl (row_lit w' 5 [_] 1 rfl (by omega) (Byt.one (by omega))) hw1 (by simp; omega) w (hbel.alloc hz2 _) ?_)
      intro w1 hown1 hbel1
      go_wp2_with fail
      go_step3
      refine ⟨rfl, ⟨hbel1, k, g, zs ++ [v / 2 ^ (8 * (k + 1) - 8) % 256], _, _, _, _, _, _, _, _, _, _, _, _, _, _, _, _, _, _, _, _, _, _, _, _, _, _, _, _, _, rfl, ?_, ?_, by omega, ?_, ?_⟩, ?_⟩
      · rw [show len + m - k = len + m - (k + 1) + 1 by omega]
      · rw [show (8 * ((k : Int) + 1) - 8) = ((8 * k : Nat) : Int) by omega]
      · rw [show len + m - k = len + m - (k + 1) + 1 by omega]; exact hown1
      · rw [← hzs, byte_shr]; simp [putB]
      · simp [intOf]; omega
  · intro hpass
    go_wp2_with fail
    refine (isWidth_yes _ h0' h8' _).mono ?_
    rintro e w' ⟨rfl, rfl⟩
    go_wp2_with (first | (at_make; refine wp_make_bytes _ rfl (.tmp 13) (.tmp 17) 32 rfl 5 Try.underlying32 info5 _ _ len (len + m) rfl rfl rfl (by omega) (by omega) (by omega) w'.heap.size (Nat.le_refl _) w' (Below.refl _ _) ?_; intro w1 hg1 hbel1 hsz1) | (refine wp_copy_bytes _ rfl (.tmp 19) (.tmp 20) 32 rfl 5 Try.underlying32 info5 w'.heap.size len (len + m) rfl a len cap xs rfl (hr.below hbel1) (Nat.le_refl _) (by omega) (List.replicate (len + m) (Value.int .u8 0)) (by simp) hg1.out w'.heap.size (Nat.le_refl _) w' hbel1 ?_; intro w2 hg2 hbel2))
    go_step3
    rename_i hK
    refine hK _ _ ?_
    refine hpass.out _ _ ⟨hbel2, m, w'.heap.size, xs, _, _, _, _, _, _, _, _, _, _, _, _, _, _, _, _, _, _, _, _, _, _, _, _, _, _, _, _, _, rfl, ?_, ?_, Nat.le_refl _, ?_, rfl⟩
    · rw [Nat.add_sub_cancel]
    · rw [show (8 * (m : Int)) = ((8 * m : Nat) : Int) by omega]
    · rw [Nat.add_sub_cancel]
      refine Own.of_block (Nat.le_refl _) hg2.out (by omega) (by unfold maxLen; omega) (by simp [hr.len]) hr.len hr.byt ?_
      rw [List.take_append_of_le_length (by simp [hr.len])]
      exact List.take_of_length_le (by simp [hr.len])

set_option maxHeartbeats 1000000 in
theorem put_out (a : Option Addr) (len cap : Nat) (v : Int) (n : Int) (hn : n < 0 ∨ 8 < n) (xs : List Int) (w : World) (hr : Row w a len cap xs) (hbd : len ≤ 140737488351232) :
    Calls Try.prog 37 #[.slice a len cap, .int .u64 v, .int .i64 n] w fun e w' => ∃ g cap', e = .returned (.slice (some ⟨g, 0, none⟩) len cap') ∧ Own 5 w' w.heap.size g len cap' xs ∧ Below w.heap.size w w' := by
  go_enter Try.func37, Try.ntmps37
  go_wp2_with fail
  go_step3
  go_wp2_with fail
  refine (isWidth_no _ hn _).mono ?_
  rintro e w' ⟨rfl, rfl⟩
  go_wp2_with (first | (at_make; refine wp_make_bytes _ rfl (.tmp 13) (.tmp 17) 32 rfl 5 Try.underlying32 info5 _ _ len len rfl rfl rfl (by omega) (by omega) (by omega) w'.heap.size (Nat.le_refl _) w' (Below.refl _ _) ?_; intro w1 hg1 hbel1 hsz1) | (refine wp_copy_bytes _ rfl (.tmp 19) (.tmp 20) 32 rfl 5 Try.underlying32 info5 w'.heap.size len len rfl a len cap xs rfl (hr.below hbel1) (Nat.le_refl _) (by omega) (List.replicate len (Value.int .u8 0)) (by simp) hg1.out w'.heap.size (Nat.le_refl _) w' hbel1 ?_; intro w2 hg2 hbel2))
  go_step3
  go_wp2_with fail
  first | go_ret | (rw [Exit.noGoto_ret]; go_ret)
  refine ⟨w'.heap.size, len, rfl, ?_, hbel2⟩
  refine Own.of_block (Nat.le_refl _) hg2.out (by omega) (by unfold maxLen; omega) (by simp [hr.len]) hr.len hr.byt ?_
  rw [List.take_append_of_le_length (by simp [hr.len])]
  exact List.take_of_length_le (by simp [hr.len])

/-- num.Put. -/
theorem put_any (a : Option Addr) (len cap : Nat) (v : Int) (n : Int) (xs : List Int) (w : World) (hr : Row w a len cap xs) (hbd : len ≤ 140737488351232) :
    Calls Try.prog 37 #[.slice a len cap, .int .u64 v, .int .i64 n] w fun e w' => ∃ g cap', e = .returned (.slice (some ⟨g, 0, none⟩) (len + wid n) cap') ∧ Own 5 w' w.heap.size g (len + wid n) cap' (xs ++ putB v (wid n)) ∧ Below w.heap.size w w' := by
  unfold wid
  by_cases h : n < 0 ∨ 8 < n
  · rw [if_pos h]
    simpa [putB] using put_out a len cap v n h xs w hr hbd
  · rw [if_neg h]
    obtain ⟨k, rfl⟩ := Int.eq_ofNat_of_zero_le (show 0 ≤ n by omega)
    rw [Int.toNat_natCast]
    exact put_in a len cap v k (by omega) xs w hr hbd
end Go.Proofs.Ytafnonmpanpfkaa
