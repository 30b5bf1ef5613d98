/- NumOrder walked: it answers true, and turns nothing that was there. -/
import Derived.Test.YtinelpegpcfoaaaBegun
import Derived.Deep.QuietTactic
import Derived.BigQuiet
namespace Go.Proofs.Ytinelpegpcfoaaa
open Go.RowKit

set_option maxHeartbeats 1000000 in
theorem numOrder_walk (a b : Int) (w : World) (ha : 0 ≤ a ∧ a < 18446744073709551616) (hb : 0 ≤ b ∧ b < 18446744073709551616) :
    Calls Try.prog 6 #[.int .u64 a, .int .u64 b] w fun e w' => e = .returned (.bool true) ∧ Below w.heap.size w w' := by
  go_enter Try.func6, Try.ntmps6
  go_wp2_with fail
  refine (begun_true _).mono ?_
  rintro e w1 ⟨rfl, hb1⟩
  go_wp2_with fail
  refine (put_any none 0 0 a 8 [] _ (Row.nil _) (by omega)).mono ?_
  rintro e w2 ⟨g2, cap2, rfl, hown2, hb2⟩
  replace hb1 := ext_trans hb1 hb2
  go_wp2_with fail
  refine (put_any none 0 0 b 8 [] _ (Row.nil _) (by omega)).mono ?_
  rintro e w3 ⟨g3, cap3, rfl, hown3, hb3⟩
  replace hown2 := hown2.below hb3
  replace hb1 := ext_trans hb1 hb3
  clear hb2 hb3
  simp only [show wid 8 = 8 from rfl, List.nil_append, Nat.zero_add] at hown2 hown3 ⊢
  go_wp2_with fail
  go_loopw [7] (fun i wr => ∃ k : Nat, k ≤ 8 ∧ i = .int .i64 k ∧ Below w3.heap.size w3 wr ∧ ∀ j, j < k → (putB a 8).getD j 0 = (putB b 8).getD j 0) (fun i _ => 8 - (intOf i).toNat)
  case atStart => exact ⟨0, by omega, rfl, Below.refl _ _, fun j hj => by omega⟩
  case round =>
    obtain ⟨k, hk, rfl, hbel, hall⟩ := hrel
    by_cases hlt : k < 8
    · have hlt' : (k : Int) < 8 := by omega
      have hc2 := (hown2.below hbel).cell k (by omega)
      have hc3 := (hown3.below hbel).cell k (by omega)
      by_cases heq : (putB a 8).getD k 0 = (putB b 8).getD k 0
      · have HQ : Hid ((putB a 8).getD k 0 = (putB b 8).getD k 0) := heq
        rw [heq] at hc2
        obtain ⟨q, hq⟩ : ∃ q, q = (putB b 8).getD k 0 := ⟨_, rfl⟩
        rw [← hq] at hc2 hc3
        clear heq hq
        go_wp2_with fail
        go_quiet (fail)
        go_wp2_with fail
        go_roundw
        case rel => exact ⟨k + 1, by omega, by go_num, below_drewN hbel _, fun j hj => by
            by_cases hjk : j = k
            · subst hjk; exact HQ.out
            · exact hall j (by omega)⟩
        case measure => simp [intOf]; omega
      · have hlx := lex a b 8 k hlt hall heq
        rw [mod8 a ha, mod8 b hb] at hlx
        generalize (putB a 8).getD k 0 = p at *
        generalize (putB b 8).getD k 0 = q at *
        have hne : (p != q) = true := by simpa using heq
        by_cases hpq : p < q
        · have hab : a < b := hlx.1 hpq
          go_wp2_with fail
          go_quiet (fail)
          go_wp2_with fail
          go_quiet (fail)
          go_wp2_with fail
          go_ret
          exact ⟨rfl, below_drewN (below_drewN (ext_trans hb1 hbel) _) _⟩
        · have hab : ¬ a < b := fun h => hpq (hlx.2 h)
          go_wp2_with fail
          go_quiet (fail)
          go_wp2_with fail
          go_quiet (fail)
          go_wp2_with fail
          go_ret
          exact ⟨rfl, below_drewN (below_drewN (ext_trans hb1 hbel) _) _⟩
    · obtain rfl : k = 8 := by omega
      have hab := alike a b 8 hall
      rw [mod8 a ha, mod8 b hb] at hab
      subst hab
      go_wp2_with fail
      go_ret
      exact ⟨rfl, ext_trans hb1 hbel⟩
end Go.Proofs.Ytinelpegpcfoaaa
