/- 'FrameApart' answers true: a store stands at its place alone. -/
import Derived.Test.YtdnlldmpigfadaaFrMo
namespace Go.Proofs.Ytdnlldmpigfadaa
open Go.RowKit

set_option maxHeartbeats 1000000 in
theorem frameApart_all (f o v : Int) (hf : 0 ≤ f ∧ f < 256) (ho : 0 ≤ o ∧ o < 256) (hv : 0 ≤ v ∧ v < 256) (W : World) :
    Calls Try.prog 6 #[.int .u8 f, .int .u8 o, .int .u8 v] W fun e w' => e = .returned (.bool true) ∧ Below W.heap.size W w' := by
  obtain ⟨x, hx, ex⟩ : ∃ x : Nat, x < 6 ∧ f.tmod 6 = (x : Int) := ⟨(f % 6).toNat, by omega, by rw [Int.tmod_eq_emod_of_nonneg hf.1]; omega⟩
  obtain ⟨y, hy, ey⟩ : ∃ y : Nat, y < 16 ∧ o.tmod 16 = (y : Int) := ⟨(o % 16).toNat, by omega, by rw [Int.tmod_eq_emod_of_nonneg ho.1]; omega⟩
  clear hf ho
  go_enter Try.func6, Try.ntmps6
  go_wp2_with fail
  refine (begun12_true _).mono ?_
  rintro e w1 ⟨rfl, hb1⟩
  go_wp2_with fail
  refine (mo_new hb1 6 6 rfl).mono ?_
  rintro e w2 ⟨p, rfl, hm⟩
  clear hb1
  go_wp2_with fail
  go_loopw [8] (fun i wr => ∃ j : Nat, j ≤ 6 ∧ i = .int .i64 j ∧ Mo W wr p 6 (firstN j)) (fun i _ => 6 - (intOf i).toNat)
  case atStart => exact ⟨0, by omega, rfl, by rw [firstN_zero]; exact hm⟩
  case round =>
    obtain ⟨j, hj, rfl, hmo⟩ := hrel
    clear hm
    by_cases e : j < 6
    · have hp : (j : Int) < 6 := by omega
      go_wp2_with fail
      refine (mo_take hmo j e (fun i hi => by rw [firstN_lt hi]; simp) (firstN_ge (Nat.le_refl _))).mono ?_
      rw [firstN_succ]
      rintro e w3 ⟨rfl, hm3⟩
      go_wp2_with fail
      go_roundw
      case rel => exact ⟨j + 1, by omega, by go_num, hm3⟩
      case measure => simp [intOf]; omega
    · obtain rfl : j = 6 := by omega
      rw [show ((6 : Nat) : Int) = 6 from rfl]
      go_wp2_with fail
      refine (mo_store hmo x y (fun _ => 0) (firstN_lt hx) hy v hv).mono ?_
      rintro e w3 ⟨rfl, hm3⟩
      clear hmo
      obtain ⟨A, hA⟩ : ∃ A, A = upd (firstN 6) x (some (upd (fun _ => 0) y v)) := ⟨_, rfl⟩
      rw [← hA] at hm3
      have h1 : ∀ i, i < 6 → i ≠ x → A i = some (fun _ => 0) := fun i hi hne => by rw [hA, upd_other _ _ hne]; exact firstN_lt hi
      have h2 : A x = some (upd (fun _ => 0) y v) := by rw [hA, upd_same]
      clear hA
      go_wp2_with fail
      go_loopw [11] (fun i wr => ∃ j : Nat, j ≤ 6 ∧ i = .int .i64 j ∧ wr = w3) (fun i _ => 6 - (intOf i).toNat)
      case atStart => exact ⟨0, by omega, rfl, rfl⟩
      case round =>
        obtain ⟨i, hi, rfl, rfl⟩ := hrel
        by_cases ei : i < 6
        · have hp : (i : Int) < 6 := by omega
          go_wp2_with fail
          go_loopw [12] (fun l wr' => ∃ j : Nat, j ≤ 16 ∧ l = .int .i64 j ∧ wr' = wr) (fun l _ => 16 - (intOf l).toNat)
          case atStart => exact ⟨0, by omega, rfl, rfl⟩
          case round =>
            obtain ⟨j, hj, rfl, rfl⟩ := hrel
            by_cases ej : j < 16
            · have hp2 : (j : Int) < 16 := by omega
              by_cases ex : i = x
              · subst ex
                by_cases ey : j = y
                · subst ey
                  go_wp2_with fail
                  refine (mo_load hm3 i j _ h2 ej v (upd_same _ _ _)).mono ?_
                  rintro e w4 ⟨rfl, rfl⟩
                  go_wp2_with fail
                  go_roundw
                  case rel => exact ⟨j + 1, by omega, by go_num, by trivial⟩
                  case measure => simp [intOf]; omega
                · have hne : ((j : Int) == (y : Int)) = false := by rw [beq_eq_false_iff_ne]; intro h; omega
                  go_wp2_with fail
                  refine (mo_load hm3 i j _ h2 ej 0 (upd_other _ _ ey)).mono ?_
                  rintro e w4 ⟨rfl, rfl⟩
                  go_wp2_with fail
                  go_roundw
                  case rel => exact ⟨j + 1, by omega, by go_num, by trivial⟩
                  case measure => simp [intOf]; omega
              · have hne : ((i : Int) == (x : Int)) = false := by rw [beq_eq_false_iff_ne]; intro h; omega
                have h3 := h1 i ei ex
                go_wp2_with fail
                refine (mo_load hm3 i j _ h3 ej 0 rfl).mono ?_
                rintro e w4 ⟨rfl, rfl⟩
                go_wp2_with fail
                go_roundw
                case rel => exact ⟨j + 1, by omega, by go_num, by trivial⟩
                case measure => simp [intOf]; omega
            · obtain rfl : j = 16 := by omega
              rw [show ((16 : Nat) : Int) = 16 from rfl]
              go_wp2_with fail
              go_roundw
              case rel => exact ⟨i + 1, by omega, by go_num, by trivial⟩
              case measure => simp [intOf]; omega
        · obtain rfl : i = 6 := by omega
          rw [show ((6 : Nat) : Int) = 6 from rfl]
          go_wp2_with fail
          refine (mo_load_range hm3 x 16 _ h2 (.inr (by omega))).mono ?_
          rintro e w4 ⟨rfl, rfl⟩
          go_wp2_with fail
          refine (mo_store_range hm3 x (-1) _ h2 (.inl (by omega)) v).mono ?_
          rintro e w4 ⟨rfl, rfl⟩
          go_wp2_with fail
          go_ret
          exact ⟨rfl, hm3.below⟩
end Go.Proofs.Ytdnlldmpigfadaa
