/- What num.Take does: a contract, for every slice of bytes and every n. -/
import Derived.Test.YtldkelpngeopmaaRows
import Derived.Test.YtldkelpngeopmaaPlain
namespace Go.Proofs.Ytldkelpngeopmaa
open Go.RowKit
set_option maxRecDepth 100000

theorem info5 : (Try.prog.info? 5).map (fun i => (i.zero, i.size, i.bytes)) = some (some (.int .u8 0), 1, 1) := by kernel_rfl

set_option maxHeartbeats 400000 in
theorem take_arg (a : Option Addr) (len cap : Nat) (n : Int) (h : n < 0 ∨ 8 < n) (w : World) :
    Calls Try.prog 46 #[.slice a len cap, .int .i64 n] w fun e w' => e = .returned (.tuple #[.int .u64 0, .int .i64 1]) ∧ w' = w := by
  rcases h with h | h
  · go_enter Try.func46, Try.ntmps46
    go_wp2
    go_step3
    go_wp2
    first | go_ret2 | (rw [Exit.noGoto_ret]; go_ret2)
    exact ⟨rfl, rfl⟩
  · have h0 : 0 ≤ n := by omega
    have h1 : decide (n ≤ 8) = false := by simp; omega
    go_enter Try.func46, Try.ntmps46
    go_wp2
    go_step3
    go_wp2
    first | go_ret2 | (rw [Exit.noGoto_ret]; go_ret2)
    exact ⟨rfl, rfl⟩

set_option maxHeartbeats 400000 in
theorem take_short (a : Option Addr) (len cap : Nat) (n : Int) (h0 : 0 ≤ n) (h8 : n ≤ 8) (hl : (len : Int) < n) (w : World) :
    Calls Try.prog 46 #[.slice a len cap, .int .i64 n] w fun e w' => e = .returned (.tuple #[.int .u64 0, .int .i64 3]) ∧ w' = w := by
  go_enter Try.func46, Try.ntmps46
  go_wp2
  go_step3
  go_wp2
  first | go_ret2 | (rw [Exit.noGoto_ret]; go_ret2)
  exact ⟨rfl, rfl⟩

set_option maxHeartbeats 400000 in
theorem take_none (len cap : Nat) (a : Option Addr) (w : World) :
    Calls Try.prog 46 #[.slice a len cap, .int .i64 0] w fun e w' => e = .returned (.tuple #[.int .u64 0, .int .i64 0]) ∧ w' = w := by
  have h0 : ¬ ((len : Int) < 0) := by omega
  go_enter Try.func46, Try.ntmps46
  go_wp2
  go_step3
  go_wp2
  go_step3
  go_wp2
  first | go_ret2 | (rw [Exit.noGoto_ret]; go_ret2)
  exact ⟨rfl, rfl⟩

set_option maxHeartbeats 400000 in
theorem take_loop (b off : Nat) (len cap : Nat) (xs : List Int) (n : Nat) (h8 : n ≤ 8) (hx : xs.length = len) (hl : n ≤ len) (w : World)
    (hc : ∀ i, i < len → w.cell? ⟨b, off + i, none⟩ = some (.int .u8 (xs.getD i 0))) (hb : Byt xs) (hm : len ≤ 9223372036854775807) :
    Calls Try.prog 46 #[.slice (some ⟨b, off, none⟩) len cap, .int .i64 n] w fun e w' => e = .returned (.tuple #[.int .u64 (num (xs.take n)), .int .i64 0]) ∧ w' = w := by
  have h8' : (n : Int) ≤ 8 := by omega
  have h0' : (0 : Int) ≤ n := by omega
  have hlt : decide (len < n) = false := by simp; omega
  have HX : Hid (xs.length = len) := hx
  clear hx
  go_enter Try.func46, Try.ntmps46
  go_wp2
  refine wp_scope_once 0 (fun a' w' => w' = w ∧ ∃ (k : Nat) (s14 s15 s16 s17 s18 s19 s20 s21 s22 s23 s24 s25 s26 s27 : Value),
     a' = { tmps := #[.slice (some ⟨b, off, none⟩) len cap, .int .i64 n, undef, undef, .int .u64 (num (xs.take k)), .int .i64 0, .int .i64 k, .int .i64 n, .bool true, .bool false, .slice (some ⟨b, off, none⟩) len cap,
       .int .i64 len, .int .i64 n, .bool false, s14, s15, s16, s17, s18, s19, s20, s21, s22, s23, s24, s25, s26, s27], defers := [] } ∧ k ≤ n)
     (fun a' _ => n - (intOf (a'.tmps.getD 6 undef)).toNat) rfl ?_ ?_
  · rintro a' w' ⟨rfl, k, s14, s15, s16, s17, s18, s19, s20, s21, s22, s23, s24, s25, s26, s27, rfl, hk⟩
    by_cases hz : k = n
    · subst hz
      go_wp2
      simp only [Exit.jump]
      go_ret2
      exact ⟨rfl, rfl⟩
    · have hz1 : ((k : Int) == (n : Int)) = false := by simp; omega
      have hkx : k < xs.length := by have := HX.out; omega
      have hp : (k : Int) < (len : Int) := by omega
      have hc0 := hc k (by omega)
      go_wp2
      go_step3
      rw [num_take xs hb k hkx (by omega)]
      refine ⟨rfl, ⟨rfl, k + 1, _, _, _, _, _, _, _, _, _, _, _, _, _, _, rfl, by omega⟩, ?_⟩
      simp [intOf]
      omega
  · intro hpass
    go_wp2
    go_step3
    rename_i hK
    refine hK _ _ ?_
    exact hpass.out _ _ ⟨rfl, 0, _, _, _, _, _, _, _, _, _, _, _, _, _, _, rfl, by omega⟩

/-- num.Take. -/
theorem take_any (a : Option Addr) (len cap : Nat) (n : Int) (xs : List Int) (w : World) (hr : Row w a len cap xs) :
    Calls Try.prog 46 #[.slice a len cap, .int .i64 n] w fun e w' => e = .returned (.tuple #[.int .u64 (takeV xs n), .int .i64 (takeE xs n)]) ∧ w' = w := by
  unfold takeV takeE
  have hl := hr.len
  have hcap := hr.cap_le
  by_cases h : n < 0 ∨ 8 < n
  · rw [if_pos (by omega), if_pos h]
    exact take_arg a len cap n h w
  · by_cases h2 : (xs.length : Int) < n
    · rw [if_pos (by omega), if_neg h, if_pos h2]
      exact take_short a len cap n (by omega) (by omega) (by omega) w
    · rw [if_neg (by omega), if_neg h, if_neg h2]
      obtain ⟨k, rfl⟩ := Int.eq_ofNat_of_zero_le (show 0 ≤ n by omega)
      rw [Int.toNat_natCast]
      by_cases h0 : k = 0
      · subst h0
        simpa [num] using take_none len cap a w
      · obtain ⟨b, off, rfl, hc⟩ := hr.at (by omega)
        exact take_loop b off len cap xs k (by omega) hl (by omega) w hc hr.byt (by omega)
end Go.Proofs.Ytldkelpngeopmaa
