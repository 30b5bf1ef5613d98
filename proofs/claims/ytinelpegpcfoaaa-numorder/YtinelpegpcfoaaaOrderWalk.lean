/- NumOrder walked: it answers true, and turns nothing that was there. -/
import Derived.Test.YtinelpegpcfoaaaBegun
import Derived.Deep.QuietTactic
import Derived.BigQuiet
namespace Go.Proofs.Ytinelpegpcfoaaa
open Go.RowKit

theorem mod_split (a : Int) (m : Nat) : a % 256 ^ (m + 1) = a / 256 ^ m % 256 * 256 ^ m + a % 256 ^ m := by
  have hp : (0 : Int) < 256 ^ m := Int.pow_pos (by decide)
  rw [Int.pow_succ]
  generalize (256 : Int) ^ m = t at *
  have h1 := Int.mul_ediv_add_emod a t
  have h2 := Int.mul_ediv_add_emod (a / t) 256
  have h3 := Int.emod_nonneg a (show t ≠ 0 by omega)
  have h4 := Int.emod_lt_of_pos a hp
  have h5 : 0 ≤ a / t % 256 ∧ a / t % 256 ≤ 255 := by omega
  have e : a = (a / t % 256 * t + a % t) + t * 256 * (a / t / 256) := by
    have h6 : t * (a / t) = t * (256 * (a / t / 256) + a / t % 256) := by rw [h2]
    rw [Int.mul_add, ← Int.mul_assoc, Int.mul_comm t (a / t % 256)] at h6
    omega
  have h7 : a / t % 256 * t ≤ 255 * t := Int.mul_le_mul_of_nonneg_right h5.2 (by omega)
  have h8 : 0 ≤ a / t % 256 * t := Int.mul_nonneg h5.1 (by omega)
  have h9 : ((a / t % 256 * t + a % t) + t * 256 * (a / t / 256)) % (t * 256) = (a / t % 256 * t + a % t) := by
    rw [Int.add_mul_emod_self_left, Int.emod_eq_of_lt (by omega) (by omega)]
  rw [← e] at h9
  exact h9
theorem lex (a b : Int) : ∀ (m k : Nat), k < m → (∀ j, j < k → (putB a m).getD j 0 = (putB b m).getD j 0) → (putB a m).getD k 0 ≠ (putB b m).getD k 0 →
    ((putB a m).getD k 0 < (putB b m).getD k 0 ↔ a % 256 ^ m < b % 256 ^ m) := by
  intro m
  induction m with
  | zero => intro k hk; omega
  | succ m ih =>
    intro k hk hj hne
    have hp : (0 : Int) < 256 ^ m := Int.pow_pos (by decide)
    have ha := Int.emod_nonneg a (show (256 : Int) ^ m ≠ 0 by omega)
    have hb := Int.emod_nonneg b (show (256 : Int) ^ m ≠ 0 by omega)
    have ha' := Int.emod_lt_of_pos a hp
    have hb' := Int.emod_lt_of_pos b hp
    rw [mod_split a m, mod_split b m]
    cases k with
    | zero =>
      simp only [putB, List.getD_cons_zero] at hne ⊢
      generalize a / 256 ^ m % 256 = p at *
      generalize b / 256 ^ m % 256 = q at *
      generalize a % 256 ^ m = r at *
      generalize b % 256 ^ m = s at *
      generalize (256 : Int) ^ m = t at *
      constructor
      · intro h
        have : (p + 1) * t ≤ q * t := Int.mul_le_mul_of_nonneg_right (by omega) (by omega)
        rw [Int.add_mul] at this
        omega
      · intro h
        apply Classical.byContradiction
        intro hc
        have : (q + 1) * t ≤ p * t := Int.mul_le_mul_of_nonneg_right (by omega) (by omega)
        rw [Int.add_mul] at this
        omega
    | succ k =>
      have h0 := hj 0 (by omega)
      simp only [putB, List.getD_cons_zero] at h0
      simp only [putB, List.getD_cons_succ] at hne ⊢
      rw [ih k (by omega) (fun j hj' => by have := hj (j + 1) (by omega); simpa only [putB, List.getD_cons_succ] using this) hne, h0]
      omega
theorem alike (a b : Int) : ∀ (m : Nat), (∀ j, j < m → (putB a m).getD j 0 = (putB b m).getD j 0) → a % 256 ^ m = b % 256 ^ m := by
  intro m
  induction m with
  | zero => intro _; simp [Int.emod_one]
  | succ m ih =>
    intro hj
    have h0 := hj 0 (by omega)
    simp only [putB, List.getD_cons_zero] at h0
    rw [mod_split a m, mod_split b m, h0, ih (fun j hj' => by have := hj (j + 1) (by omega); simpa only [putB, List.getD_cons_succ] using this)]
theorem mod8 (a : Int) (h : 0 ≤ a ∧ a < 18446744073709551616) : a % 256 ^ 8 = a := by
  rw [show (256 : Int) ^ 8 = 18446744073709551616 by decide]; omega

theorem Own.cell {e : TypeId} {w : World} {B g n cap : Nat} {xs : List Int} (h : Own e w B g n cap xs) (i : Nat) (hi : i < n) : w.cell? ⟨g, i, none⟩ = some (.int .u8 (xs.getD i 0)) := by
  obtain ⟨b, off, h1, h2⟩ := h.row.at (by omega)
  simp only [Option.some.injEq, Addr.mk.injEq, and_true] at h1
  obtain ⟨rfl, rfl⟩ := h1
  simpa using h2 i hi

set_option maxHeartbeats 1000000 in
theorem numOrder_walk (a b : Int) (w : World) (ha : 0 ≤ a ∧ a < 18446744073709551616) (hb : 0 ≤ b ∧ b < 18446744073709551616) :
    Calls Try.prog 6 #[.int .u64 a, .int .u64 b] w fun e w' => e = .returned (.bool true) ∧ Below w.heap.size w w' := by
  go_enter Try.func6, Try.ntmps6
  go_wp2_with fail
  refine (begun_true _).mono ?_
  rintro e w1 ⟨rfl, hb1⟩
  go_wp2_with fail
  refine (put_any none 0 0 a 8 [] _ (Row.nil _) (by omega)).mono ?_
  rintro e w2 ⟨g2, cap2, rfl, hown2, hb2⟩
  replace hb1 := ext_trans hb1 hb2
  go_wp2_with fail
  refine (put_any none 0 0 b 8 [] _ (Row.nil _) (by omega)).mono ?_
  rintro e w3 ⟨g3, cap3, rfl, hown3, hb3⟩
  replace hown2 := hown2.below hb3
  replace hb1 := ext_trans hb1 hb3
  clear hb2 hb3
  simp only [show wid 8 = 8 from rfl, List.nil_append, Nat.zero_add] at hown2 hown3 ⊢
  go_wp2_with fail
  go_loopw [7] (fun i wr => ∃ k : Nat, k ≤ 8 ∧ i = .int .i64 k ∧ Below w3.heap.size w3 wr ∧ ∀ j, j < k → (putB a 8).getD j 0 = (putB b 8).getD j 0) (fun i _ => 8 - (intOf i).toNat)
  case atStart => exact ⟨0, by omega, rfl, Below.refl _ _, fun j hj => by omega⟩
  case round =>
    obtain ⟨k, hk, rfl, hbel, hall⟩ := hrel
    by_cases hlt : k < 8
    · have hlt' : (k : Int) < 8 := by omega
      have hc2 := (hown2.below hbel).cell k (by omega)
      have hc3 := (hown3.below hbel).cell k (by omega)
      by_cases heq : (putB a 8).getD k 0 = (putB b 8).getD k 0
      · have HQ : Hid ((putB a 8).getD k 0 = (putB b 8).getD k 0) := heq
        rw [heq] at hc2
        obtain ⟨q, hq⟩ : ∃ q, q = (putB b 8).getD k 0 := ⟨_, rfl⟩
        rw [← hq] at hc2 hc3
        clear heq hq
        go_wp2_with fail
        go_quiet (fail)
        go_wp2_with fail
        go_roundw
        case rel => exact ⟨k + 1, by omega, by go_num, below_drewN hbel _, fun j hj => by
            by_cases hjk : j = k
            · subst hjk; exact HQ.out
            · exact hall j (by omega)⟩
        case measure => simp [intOf]; omega
      · have hlx := lex a b 8 k hlt hall heq
        rw [mod8 a ha, mod8 b hb] at hlx
        generalize (putB a 8).getD k 0 = p at *
        generalize (putB b 8).getD k 0 = q at *
        have hne : (p != q) = true := by simpa using heq
        by_cases hpq : p < q
        · have hab : a < b := hlx.1 hpq
          go_wp2_with fail
          go_quiet (fail)
          go_wp2_with fail
          go_quiet (fail)
          go_wp2_with fail
          go_ret
          exact ⟨rfl, below_drewN (below_drewN (ext_trans hb1 hbel) _) _⟩
        · have hab : ¬ a < b := fun h => hpq (hlx.2 h)
          go_wp2_with fail
          go_quiet (fail)
          go_wp2_with fail
          go_quiet (fail)
          go_wp2_with fail
          go_ret
          exact ⟨rfl, below_drewN (below_drewN (ext_trans hb1 hbel) _) _⟩
    · obtain rfl : k = 8 := by omega
      have hab := alike a b 8 hall
      rw [mod8 a ha, mod8 b hb] at hab
      subst hab
      go_wp2_with fail
      go_ret
      exact ⟨rfl, ext_trans hb1 hbel⟩
end Go.Proofs.Ytinelpegpcfoaaa
