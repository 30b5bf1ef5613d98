/- Package plane: the points of the six levels, and what Point, Of, Flows, Join and Meet answer at them. Package level: what May, Flows, Max, Min and Rise answer of levels, and May of other numbers. -/
import Derived.Test.YtldkelpngeopmaaChecked
import Derived.WalkKit
import Derived.WalkSpells
import Derived.WalkLawsBesides
import Derived.WalkMore
import Derived.Below
namespace Go.Proofs.Ytldkelpngeopmaa
open Go.RowKit
set_option maxRecDepth 100000

theorem bel_trans {a b c : World} (h : Below a.heap.size a b) (k : Below b.heap.size b c) : Below a.heap.size a c := h.trans (k.mono h.size)
/-- The bits of the real part, and of the imaginary part, of each level's point. -/
def rep (i : Fin 6) : Nat := match i with
  | 0 => 13830554455654793216 | 1 => 0 | 2 => 0 | 3 => 4602678819172646912 | 4 => 4607182418800017408 | 5 => 4611686018427387904
def imp (i : Fin 6) : Nat := match i with
  | 0 => 4611686018427387904 | 1 => 4607182418800017408 | 2 => 0 | 3 => 0 | 4 => 0 | 5 => 13830554455654793216

/-- What max and min answer of two numbers that can be held against each other. -/
def fmax (x y : Nat) : Nat := match FloatKind.f64.format.order x y with
  | some .lt => y | some .gt => x | _ => if (FloatKind.f64.decode x).neg then y else x
def fmin (x y : Nat) : Nat := match FloatKind.f64.format.order x y with
  | some .lt => x | some .gt => y | _ => if (FloatKind.f64.decode x).neg then x else y
theorem run_max_f {P : Program} (w : World) (ts : Array TypeId) (t : TypeId) (x y : Nat) (h : (FloatKind.f64.format.order x y).isSome = true) :
    (Builtin.max_ ts t #[.float .f64 x, .float .f64 y]).run P w = .ok (.float .f64 (fmax x y)) w := by
  unfold fmax
  simp only [Builtin.max_, List.foldlM, Builtin.max2]
  cases ho : FloatKind.f64.format.order x y with
  | none => rw [ho] at h; cases h
  | some o => cases o <;> rfl
theorem run_min_f {P : Program} (w : World) (ts : Array TypeId) (t : TypeId) (x y : Nat) (h : (FloatKind.f64.format.order x y).isSome = true) :
    (Builtin.min_ ts t #[.float .f64 x, .float .f64 y]).run P w = .ok (.float .f64 (fmin x y)) w := by
  unfold fmin
  simp only [Builtin.min_, List.foldlM, Builtin.min2]
  cases ho : FloatKind.f64.format.order x y with
  | none => rw [ho] at h; cases h
  | some o => cases o <;> rfl

theorem ord_rep : ∀ i j : Fin 6, (FloatKind.f64.format.order (rep i) (rep j)).isSome = true := by decide +kernel
theorem ord_imp : ∀ i j : Fin 6, (FloatKind.f64.format.order (imp i) (imp j)).isSome = true := by decide +kernel
/-- The higher of two levels, and the lower. -/
def top (i j : Fin 6) : Fin 6 := if i ≤ j then j else i
def low (i j : Fin 6) : Fin 6 := if i ≤ j then i else j
theorem max_rep : ∀ i j : Fin 6, fmax (rep i) (rep j) = rep (top i j) := by decide +kernel
theorem min_rep : ∀ i j : Fin 6, fmin (rep i) (rep j) = rep (low i j) := by decide +kernel
theorem max_imp : ∀ i j : Fin 6, fmax (imp i) (imp j) = imp (low i j) := by decide +kernel
theorem min_imp : ∀ i j : Fin 6, fmin (imp i) (imp j) = imp (top i j) := by decide +kernel
theorem eql_pt : ∀ i j : Fin 6, ((FloatKind.f64.format.order (rep i) (rep j) == some .eq) && (FloatKind.f64.format.order (imp i) (imp j) == some .eq)) = decide (i = j) := by decide +kernel
theorem leq_pt : ∀ i j : Fin 6, ((FloatKind.f64.format.order (rep i) (rep j) == some .lt || FloatKind.f64.format.order (rep i) (rep j) == some .eq) && (FloatKind.f64.format.order (imp i) (imp j) == some .gt || FloatKind.f64.format.order (imp i) (imp j) == some .eq)) = decide (i ≤ j) := by decide +kernel

/-- The point of level i. -/
def pt (i : Fin 6) : Value := .complex .f64 (rep i) (imp i)
/-- Level i as a number. -/
def lev (i : Fin 6) : Int := (i.val : Int)

theorem point_lev (i : Fin 6) (w : World) : Calls Try.prog 73 #[.int .u8 (lev i)] w fun e w' => e = .returned (pt i) ∧ w' = w := by
  match i with
  | 0 | 1 | 2 | 3 | 4 | 5 =>
    simp only [lev]
    go_enter Try.func73, Try.ntmps73
    go_wp2
    all_goals (go_ret; exact ⟨rfl, rfl⟩)
theorem point_above (n : Int) (h : 5 < n) (w : World) : Calls Try.prog 73 #[.int .u8 n] w fun e w' => e = .returned (.complex .f64 0 0) ∧ w' = w := by
  have h0 : decide (n = 0) = false := by simp; omega
  have h1 : decide (n = 1) = false := by simp; omega
  have h2 : decide (n = 2) = false := by simp; omega
  have h3 : decide (n = 3) = false := by simp; omega
  have h4 : decide (n = 4) = false := by simp; omega
  have h5 : decide (n = 5) = false := by simp; omega
  go_enter Try.func73, Try.ntmps73
  go_wp2
  all_goals (go_ret; exact ⟨rfl, rfl⟩)
theorem flows_any (a b c d : Nat) (w : World) : Calls Try.prog 72 #[.complex .f64 a b, .complex .f64 c d] w fun e w' =>
    e = .returned (.bool ((FloatKind.f64.format.order a c == some .lt || FloatKind.f64.format.order a c == some .eq) && (FloatKind.f64.format.order b d == some .gt || FloatKind.f64.format.order b d == some .eq))) ∧ w' = w := by
  cases h : (FloatKind.f64.format.order a c == some .lt || FloatKind.f64.format.order a c == some .eq)
  · go_enter Try.func72, Try.ntmps72
    go_wp2_with fail
    go_ret
    exact ⟨rfl, rfl⟩
  · go_enter Try.func72, Try.ntmps72
    go_wp2_with fail
    go_ret
    exact ⟨rfl, rfl⟩
theorem flows_pt (i j : Fin 6) (w : World) : Calls Try.prog 72 #[pt i, pt j] w fun e w' => e = .returned (.bool (decide (i ≤ j))) ∧ w' = w := by
  have h := flows_any (rep i) (imp i) (rep j) (imp j) w
  rw [leq_pt] at h
  exact h
@[go_sem] theorem run_eql_pt {P : Program} (w : World) (t : TypeId) (i j : Fin 6) : (binOp .eql t (pt i) (pt j)).run P w = .ok (.bool (decide (i = j))) w := by
  rw [← eql_pt]; exact run_eql_complex w t _ _ _ _ _
@[go_sem] theorem run_neq_pt {P : Program} (w : World) (t : TypeId) (i j : Fin 6) : (binOp .neq t (pt i) (pt j)).run P w = .ok (.bool (!decide (i = j))) w := by
  rw [← eql_pt]; exact run_neq_complex w t _ _ _ _ _

@[go_sem] theorem eqGuard_pt (op : BinOp) (t : TypeId) (x y : Operand) (i j : Fin 6) : eqGuard op t x y (pt i) (pt j) = pure () := by cases op <;> rfl

/-- The number whose parts' bits are a and b is the point of level i. -/
def hit (a b : Nat) (i : Fin 6) : Bool := (FloatKind.f64.format.order a (rep i) == some .eq) && (FloatKind.f64.format.order b (imp i) == some .eq)
theorem of_any (a b : Nat) (w : World) : Calls Try.prog 76 #[.complex .f64 a b] w fun e w' =>
    ((∃ i, hit a b i = true ∧ e = .returned (.tuple #[.int .u8 (lev i), .int .i64 0])) ∨ ((∀ i, hit a b i = false) ∧ e = .returned (.tuple #[.int .u8 0, .int .i64 1]))) ∧ w' = w := by
  go_enter Try.func76, Try.ntmps76
  go_wp2_with fail
  go_loop [5] (fun i => ∃ k : Nat, k ≤ 6 ∧ i = .int .u8 k ∧ ∀ j : Fin 6, j.val < k → hit a b j = false) (fun i => 6 - (intOf i).toNat)
  case atStart => exact ⟨0, by omega, rfl, fun j hj => by omega⟩
  case round =>
    obtain ⟨k, hk, rfl, hall⟩ := hrel
    by_cases hlt : k < 6
    · have hp : (k : Int) < 6 := by omega
      go_wp2_with fail
      refine (point_lev ⟨k, hlt⟩ _).mono ?_
      rintro e w1 ⟨rfl, rfl⟩
      have hh : ((FloatKind.f64.format.order a (rep ⟨k, hlt⟩) == some .eq) && (FloatKind.f64.format.order b (imp ⟨k, hlt⟩) == some .eq)) = hit a b ⟨k, hlt⟩ := rfl
      cases hq : hit a b ⟨k, hlt⟩
      · rw [hq] at hh
        simp only [pt]
        go_wp2_with fail
        go_round
        case rel => exact ⟨k + 1, by omega, by go_num, fun j hj => by
          by_cases hjk : j.val < k
          · exact hall j hjk
          · obtain rfl : j = ⟨k, hlt⟩ := Fin.ext (by show j.val = k; omega)
            exact hq⟩
        case measure => simp [intOf]; omega
      · rw [hq] at hh
        simp only [pt]
        go_wp2_with fail
        go_ret2
        exact ⟨Or.inl ⟨⟨k, hlt⟩, hq, rfl⟩, rfl⟩
    · have hp : ¬ (k : Int) < 6 := by omega
      go_wp2_with fail
      go_ret2
      exact ⟨Or.inr ⟨fun i => hall i (by omega), rfl⟩, rfl⟩
theorem of_pt (i : Fin 6) (w : World) : Calls Try.prog 76 #[pt i] w fun e w' => e = .returned (.tuple #[.int .u8 (lev i), .int .i64 0]) ∧ w' = w := by
  refine (of_any (rep i) (imp i) w).mono ?_
  rintro e w' ⟨h, rfl⟩
  refine ⟨?_, rfl⟩
  have hh : ∀ j, hit (rep i) (imp i) j = decide (i = j) := eql_pt i
  rcases h with ⟨j, hj, rfl⟩ | ⟨hn, rfl⟩
  · rw [hh] at hj
    rw [of_decide_eq_true hj]
  · have := hn i
    rw [hh] at this
    simp at this
theorem of_hit (a b : Nat) (i : Fin 6) (h : ∀ j, hit a b j = decide (i = j)) (w : World) : Calls Try.prog 76 #[.complex .f64 a b] w fun e w' => e = .returned (.tuple #[.int .u8 (lev i), .int .i64 0]) ∧ w' = w := by
  refine (of_any a b w).mono ?_
  rintro e w' ⟨h', rfl⟩
  refine ⟨?_, rfl⟩
  rcases h' with ⟨j, hj, rfl⟩ | ⟨hn, rfl⟩
  · rw [h] at hj
    rw [of_decide_eq_true hj]
  · have := hn i
    rw [h] at this
    simp at this
theorem of_none (a b : Nat) (h : ∀ j, hit a b j = false) (w : World) : Calls Try.prog 76 #[.complex .f64 a b] w fun e w' => e = .returned (.tuple #[.int .u8 0, .int .i64 1]) ∧ w' = w := by
  refine (of_any a b w).mono ?_
  rintro e w' ⟨h', rfl⟩
  refine ⟨?_, rfl⟩
  rcases h' with ⟨j, hj, rfl⟩ | ⟨hn, rfl⟩
  · rw [h] at hj; cases hj
  · rfl
end Go.Proofs.Ytldkelpngeopmaa

namespace Go.Proofs.Ytldkelpngeopmaa
open Go.RowKit
set_option maxRecDepth 100000

theorem levelOf_pt (i : Fin 6) (w : World) : Calls Try.prog 75 #[pt i] w fun e w' => e = .returned (.int .u8 (lev i)) ∧ w' = w := by
  go_enter Try.func75, Try.ntmps75
  go_wp2_with fail
  refine (of_pt i _).mono ?_
  rintro e w1 ⟨rfl, rfl⟩
  go_wp2_with fail
  go_ret
  exact ⟨rfl, rfl⟩
theorem isLevel_lev (i : Fin 6) (w : World) : Calls Try.prog 71 #[.int .u8 (lev i)] w fun e w' => e = .returned (.bool true) ∧ w' = w := by
  go_enter Try.func71, Try.ntmps71
  go_wp2_with fail
  refine (point_lev i _).mono ?_
  rintro e w1 ⟨rfl, rfl⟩
  go_wp2_with fail
  refine (levelOf_pt i _).mono ?_
  rintro e w1 ⟨rfl, rfl⟩
  go_wp2_with fail
  go_ret
  simp
theorem isLevel_above (n : Int) (h : 5 < n) (w : World) : Calls Try.prog 71 #[.int .u8 n] w fun e w' => e = .returned (.bool false) ∧ w' = w := by
  have hn : ¬ (2 : Int) = n := by omega
  go_enter Try.func71, Try.ntmps71
  go_wp2_with fail
  refine (point_above n h _).mono ?_
  rintro e w1 ⟨rfl, rfl⟩
  rw [show Value.complex .f64 0 0 = pt 2 from rfl]
  go_wp2_with fail
  refine (levelOf_pt 2 _).mono ?_
  rintro e w1 ⟨rfl, rfl⟩
  rw [show lev 2 = 2 from rfl]
  go_wp2_with fail
  go_ret
  simp [hn]
theorem may_lev (i : Fin 6) (w : World) : Calls Try.prog 57 #[.int .u8 (lev i)] w fun e w' => e = .returned (.bool (decide (i ≤ 4))) ∧ w' = w := by
  go_enter Try.func57, Try.ntmps57
  go_wp2_with fail
  refine (isLevel_lev i _).mono ?_
  rintro e w1 ⟨rfl, rfl⟩
  go_wp2_with fail
  refine (point_lev i _).mono ?_
  rintro e w1 ⟨rfl, rfl⟩
  go_wp2_with fail
  refine (point_lev 4 _).mono ?_
  rintro e w1 ⟨rfl, rfl⟩
  go_wp2_with fail
  refine (flows_pt i 4 _).mono ?_
  rintro e w1 ⟨rfl, rfl⟩
  go_wp2_with fail
  go_ret
  exact ⟨rfl, rfl⟩
theorem may_above (n : Int) (h : 5 < n) (w : World) : Calls Try.prog 57 #[.int .u8 n] w fun e w' => e = .returned (.bool false) ∧ w' = w := by
  go_enter Try.func57, Try.ntmps57
  go_wp2_with fail
  refine (isLevel_above n h _).mono ?_
  rintro e w1 ⟨rfl, rfl⟩
  go_wp2_with fail
  go_ret
  exact ⟨rfl, rfl⟩
/-- What a level rises to. -/
def up (i : Fin 6) : Fin 6 := if i = 0 then 5 else i
end Go.Proofs.Ytldkelpngeopmaa
