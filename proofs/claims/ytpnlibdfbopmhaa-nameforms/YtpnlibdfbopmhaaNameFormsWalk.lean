/- NameForms: which numbers are names: thirteen of them, one by one. -/
import Derived.Test.YtpnlibdfbopmhaaNmBegun
namespace Go.Proofs.Ytpnlibdfbopmhaa
open Go.RowKit
set_option maxRecDepth 100000

def goodN : List Int := [1, 65, 127, 4161, 69827576191]
def badN : List Int := [0, 2, 63, 64, 128, 4160, 4468964872583, 18446744073709551615]
theorem good_all : ∀ i, i < 5 → isN (goodN.getD i 0) = true ∧ wi (goodN.getD i 0) 1 = true ∧ wi (goodN.getD i 0) 999 = false := by decide
theorem bad_all : ∀ i, i < 8 → isN (badN.getD i 0) = false := by decide
theorem good_qwd : Qwd goodN := qwd_of _ (by decide)
theorem bad_qwd : Qwd badN := qwd_of _ (by decide)

set_option maxHeartbeats 800000 in
theorem nameForms_walk (w : World) : Calls Try.prog 5 #[] w fun e w' => e = .returned (.bool true) ∧ Below w.heap.size w w' := by
  have h1 : U 1 := U.lit (by decide)
  have h0 : U 0 := U.lit (by decide)
  have h9 : U 999 := U.lit (by decide)
  have h4 : U 69827576191 := U.lit (by decide)
  go_enter Try.func5, Try.ntmps5
  go_wp2_with fail
  refine (begun14_true _).mono ?_
  rintro e w1 ⟨rfl, b1⟩
  go_wp2_with fail
  have r1 := rowq_lit w1 22 goodN 5 rfl (by omega) good_qwd
  have r2 := rowq_lit (w1.alloc (.cells (goodN.map (Value.int .u64)).toArray 22)) 22 badN 8 rfl (by omega) bad_qwd
  replace r1 := r1.below (below_alloc _ (.cells (badN.map (Value.int .u64)).toArray 22))
  have b2 := ext_trans (ext_trans b1 (below_alloc w1 (.cells (goodN.map (Value.int .u64)).toArray 22))) (below_alloc _ (.cells (badN.map (Value.int .u64)).toArray 22))
  clear b1
  change Code.wp _ _ _ _ ((w1.alloc (.cells (goodN.map (Value.int .u64)).toArray 22)).alloc (.cells (badN.map (Value.int .u64)).toArray 22))
  rw [show (w1.alloc (.cells (goodN.map (Value.int .u64)).toArray 22)).heap.size = w1.heap.size + 1 by simp] at r2
  generalize (w1.alloc (.cells (goodN.map (Value.int .u64)).toArray 22)).alloc (.cells (badN.map (Value.int .u64)).toArray 22) = V at *
  generalize w1.heap.size + 1 = g2 at *
  generalize w1.heap.size = g1 at *
  have c4 := r1.cells 4 (by omega)
  rw [show goodN.getD 4 0 = 69827576191 from rfl, show 0 + 4 = 4 from rfl] at c4
  go_loopw [3] (fun i wr => ∃ k : Nat, k ≤ 5 ∧ i = .int .i64 k ∧ wr = V) (fun i _ => 5 - (intOf i).toNat)
  case atStart => exact ⟨0, by omega, rfl, rfl⟩
  case round =>
    obtain ⟨k, hk, rfl, rfl⟩ := hrel
    by_cases hlt : k < 5
    · have hp : (k : Int) < 5 := by omega
      have hu : U (goodN.getD k 0) := good_qwd.get k
      obtain ⟨f1, f2, f3⟩ := good_all k hlt
      have c1 := r1.cells k hlt
      rw [Nat.zero_add] at c1
      generalize goodN.getD k 0 = y at *
      go_wp2_with fail
      refine (may_any y hu _).mono ?_
      rintro e w3 ⟨rfl, rfl⟩
      rw [f1]
      go_wp2_with fail
      refine (within_any y 1 hu h1 _).mono ?_
      rintro e w3 ⟨rfl, rfl⟩
      rw [f2]
      go_wp2_with fail
      refine (within_any y 999 hu h9 _).mono ?_
      rintro e w3 ⟨rfl, rfl⟩
      rw [f3]
      go_wp2_with fail
      go_roundw
      case rel => exact ⟨k + 1, by omega, by go_num, by trivial⟩
      case measure => simp [intOf]; omega
    · have hp : decide ((k : Int) < 5) = false := by simp; omega
      go_wp2_with fail
      obtain ⟨V, rfl⟩ : ∃ V, V = wr := ⟨_, rfl⟩
      go_loopw [4] (fun i wr => ∃ k : Nat, k ≤ 8 ∧ i = .int .i64 k ∧ Below V.heap.size V wr) (fun i _ => 8 - (intOf i).toNat)
      case atStart => exact ⟨0, by omega, rfl, Below.refl _ _⟩
      case round =>
        obtain ⟨k, hk, rfl, b3⟩ := hrel
        by_cases hlt : k < 8
        · have hp : (k : Int) < 8 := by omega
          have hu : U (badN.getD k 0) := bad_qwd.get k
          have f1 := bad_all k hlt
          have c1 := (r2.below b3).cells k hlt
          rw [Nat.zero_add] at c1
          generalize badN.getD k 0 = y at *
          have f2 : par y = 0 := by unfold par; rw [if_neg (by simp [f1])]
          have f3 := dN_no f1
          have f4 : wi y 1 = false := by unfold wi; rw [pth_no f1]; rfl
          go_wp2_with fail
          refine (may_any y hu _).mono ?_
          rintro e w3 ⟨rfl, rfl⟩
          rw [f1]
          go_wp2_with fail
          refine (parent_any y hu _).mono ?_
          rintro e w3 ⟨rfl, rfl⟩
          rw [f2]
          go_wp2_with fail
          refine (depthOf_any y hu _).mono ?_
          rintro e w3 ⟨rfl, rfl⟩
          rw [f3]
          go_wp2_with fail
          refine (path_any y hu _).mono ?_
          rintro e w4 ⟨so, n, co, rfl, hr, b4⟩
          obtain rfl : n = 0 := len_no hr f1
          replace c1 := (b4.cell (lt_of_cell c1)).trans c1
          go_wp2_with fail
          refine (within_any y 1 hu h1 _).mono ?_
          rintro e w3 ⟨rfl, rfl⟩
          rw [f4]
          go_wp2_with fail
          go_roundw
          case rel => exact ⟨k + 1, by omega, by go_num, ext_trans b3 b4⟩
          case measure => simp [intOf]; omega
        · have hp : decide ((k : Int) < 8) = false := by simp; omega
          go_wp2_with fail
          refine (of_any 1 0 h1 _).mono ?_
          rintro e w3 ⟨rfl, rfl⟩
          rw [show ofV 1 0 = 0 by decide, show ofE 1 0 = 1 by decide]
          go_wp2_with fail
          refine (of_any 1 64 h1 _).mono ?_
          rintro e w3 ⟨rfl, rfl⟩
          rw [show ofV 1 64 = 0 by decide, show ofE 1 64 = 1 by decide]
          go_wp2_with fail
          refine (of_any 0 1 h0 _).mono ?_
          rintro e w3 ⟨rfl, rfl⟩
          rw [show ofV 0 1 = 0 by decide, show ofE 0 1 = 1 by decide]
          go_wp2_with fail
          refine (parent_any 1 h1 _).mono ?_
          rintro e w3 ⟨rfl, rfl⟩
          rw [show par 1 = 0 by decide]
          go_wp2_with fail
          refine (number_any 1 h1 _).mono ?_
          rintro e w3 ⟨rfl, rfl⟩
          rw [show nmb 1 = 0 by decide]
          have c4' := (b3.cell (lt_of_cell c4)).trans c4
          go_wp2_with fail
          refine (depthOf_any 69827576191 h4 _).mono ?_
          rintro e w3 ⟨rfl, rfl⟩
          rw [show dN 69827576191 = 6 by decide]
          go_wp2_with fail
          go_ret
          exact ⟨rfl, b2.trans (b3.mono b2.size)⟩
end Go.Proofs.Ytpnlibdfbopmhaa
