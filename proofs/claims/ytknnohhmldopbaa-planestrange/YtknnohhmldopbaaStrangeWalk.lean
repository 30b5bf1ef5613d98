/- PlaneStrange walked: it answers true, and turns nothing that was there. -/
import Derived.Test.YtknnohhmldopbaaPlaneBegun
import Derived.Laws.Externs
namespace Go.Proofs.Ytknnohhmldopbaa
open Go.RowKit

@[go_sem] theorem call_frombits (n : Int) (w : World) : (callFunc 16 #[.int .u64 n]).run Try.prog w = .ok (.value (.float .f64 n.toNat)) w := by
  rw [run_callFunc_extern Try.func16 (e := Extern.MathFloatBits.float64frombits) (by kernel_rfl) (by kernel_rfl) (by kernel_rfl) (by kernel_rfl)]; rfl
@[go_sem] theorem call_bits (n : Nat) (w : World) : (callFunc 17 #[.float .f64 n]).run Try.prog w = .ok (.value (.int .u64 n)) w := by
  rw [run_callFunc_extern Try.func17 (e := Extern.MathFloatBits.float64bits) (by kernel_rfl) (by kernel_rfl) (by kernel_rfl) (by kernel_rfl)]; rfl
theorem nan_any (w : World) : Calls Try.prog 13 #[] w fun e w' => e = .returned (.float .f64 9221120237041090561) ∧ w' = w := by
  go_enter Try.func13, Try.ntmps13
  go_wp2_with fail
  go_ret
  exact ⟨rfl, rfl⟩
theorem inf_one (w : World) : Calls Try.prog 14 #[.int .i64 1] w fun e w' => e = .returned (.float .f64 9218868437227405312) ∧ w' = w := by
  go_enter Try.func14, Try.ntmps14
  go_wp2_with fail
  go_ret
  exact ⟨rfl, rfl⟩
theorem copysign_neg (w : World) : Calls Try.prog 15 #[.float .f64 0, .float .f64 13830554455654793216] w fun e w' => e = .returned (.float .f64 9223372036854775808) ∧ w' = w := by
  go_enter Try.func15, Try.ntmps15
  go_wp2_with fail
  go_ret
  exact ⟨rfl, rfl⟩
/-- The numbers that are no level's point, as bits of their parts. -/
def badRe : List Nat := [4607182418800017408, 4602678819172646912, 4611686018427387904, 13830554455654793216, 9221120237041090561, 0, 4598175219545276416]
def badIm : List Nat := [4607182418800017408, 4607182418800017408, 0, 0, 0, 9218868437227405312, 0]
theorem bad_hit : ∀ k : Fin 7, ∀ j : Fin 6, hit (badRe.getD k.val 0) (badIm.getD k.val 0) j = false := by decide +kernel
theorem neg_hit : ∀ j : Fin 6, hit 9223372036854775808 9223372036854775808 j = decide ((2 : Fin 6) = j) := by decide +kernel
theorem negone_hit : ∀ j : Fin 6, hit 9223372036854775808 4607182418800017408 j = decide ((1 : Fin 6) = j) := by decide +kernel

set_option maxHeartbeats 800000 in
theorem planeStrange_walk (w : World) : Calls Try.prog 4 #[] w fun e w' => e = .returned (.bool true) ∧ Below w.heap.size w w' := by
  go_enter Try.func4, Try.ntmps4
  go_wp2_with fail
  refine (planeBegun _).mono ?_
  rintro e w1 ⟨rfl, rfl⟩
  go_wp2_with fail
  refine (nan_any _).mono ?_
  rintro e w1 ⟨rfl, rfl⟩
  go_wp2_with fail
  refine (inf_one _).mono ?_
  rintro e w1 ⟨rfl, rfl⟩
  go_wp2_with fail
  obtain ⟨W, hW⟩ : ∃ W, W = w1.alloc (.cells #[.complex .f64 4607182418800017408 4607182418800017408, .complex .f64 4602678819172646912 4607182418800017408, .complex .f64 4611686018427387904 0, .complex .f64 13830554455654793216 0, .complex .f64 9221120237041090561 0, .complex .f64 0 9218868437227405312, .complex .f64 4598175219545276416 0] 23) := ⟨_, rfl⟩
  have hbel : Below w1.heap.size w1 W := by rw [hW]; exact (Below.refl _ _).alloc (Nat.le_refl _) _
  have hcells : ∀ k : Nat, k < 7 → W.cell? ⟨w1.heap.size, k, none⟩ = some (.complex .f64 (badRe.getD k 0) (badIm.getD k 0)) := by
    intro k hk
    rw [hW, World.cell?_alloc_new]
    match k, hk with
    | 0, _ | 1, _ | 2, _ | 3, _ | 4, _ | 5, _ | 6, _ => rfl
  rw [← hW]
  clear hW
  generalize w1.heap.size = B at hcells ⊢
  go_loop [2] (fun i => ∃ k : Nat, k ≤ 7 ∧ i = .int .i64 k) (fun i => 7 - (intOf i).toNat)
  case atStart => exact ⟨0, by omega, rfl⟩
  case round =>
    obtain ⟨k, hk, rfl⟩ := hrel
    by_cases hlt : k < 7
    · have hp : (k : Int) < 7 := by omega
      have hc := hcells k hlt
      go_wp2_with fail
      refine (of_none _ _ (bad_hit ⟨k, hlt⟩) _).mono ?_
      rintro e w2 ⟨rfl, rfl⟩
      go_wp2_with fail
      go_round
      case rel => exact ⟨k + 1, by omega, by go_num⟩
      case measure => simp [intOf]; omega
    · have hp : ¬ (k : Int) < 7 := by omega
      go_wp2_with fail
      refine (copysign_neg _).mono ?_
      rintro e w2 ⟨rfl, rfl⟩
      go_wp2_with fail
      refine (copysign_neg _).mono ?_
      rintro e w2 ⟨rfl, rfl⟩
      go_wp2_with fail
      refine (of_hit _ _ 2 neg_hit _).mono ?_
      rintro e w2 ⟨rfl, rfl⟩
      rw [show lev 2 = 2 from rfl]
      go_wp2_with fail
      refine (copysign_neg _).mono ?_
      rintro e w2 ⟨rfl, rfl⟩
      go_wp2_with fail
      refine (of_hit _ _ 1 negone_hit _).mono ?_
      rintro e w2 ⟨rfl, rfl⟩
      rw [show lev 1 = 1 from rfl]
      go_wp2_with fail
      go_ret
      exact ⟨rfl, hbel⟩
end Go.Proofs.Ytknnohhmldopbaa
