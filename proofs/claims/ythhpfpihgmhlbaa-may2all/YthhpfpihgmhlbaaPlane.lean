/- Package plane: the points of the six levels, and what Point, Of, Flows, Join and Meet answer at them. -/
import Derived.Test.YthhpfpihgmhlbaaChecked
import Derived.WalkKit
import Derived.WalkSpells
import Derived.WalkLawsBesides
import Derived.WalkMore
import Derived.Below
namespace Go.Proofs.Ythhpfpihgmhlbaa
open Go.RowKit

theorem bel_trans {a b c : World} (h : Below a.heap.size a b) (k : Below b.heap.size b c) : Below a.heap.size a c := h.trans (k.mono h.size)
/-- The bits of the real part, and of the imaginary part, of each level's point. -/
def rep (i : Fin 6) : Nat := match i with
  | 0 => 13830554455654793216 | 1 => 0 | 2 => 0 | 3 => 4602678819172646912 | 4 => 4607182418800017408 | 5 => 4611686018427387904
def imp (i : Fin 6) : Nat := match i with
  | 0 => 4611686018427387904 | 1 => 4607182418800017408 | 2 => 0 | 3 => 0 | 4 => 0 | 5 => 13830554455654793216

/-- What max and min answer of two numbers that can be held against each other. -/
def fmax (x y : Nat) : Nat := match FloatKind.f64.format.order x y with
  | some .lt => y | some .gt => x | _ => if (FloatKind.f64.decode x).neg then y else x
def fmin (x y : Nat) : Nat := match FloatKind.f64.format.order x y with
  | some .lt => x | some .gt => y | _ => if (FloatKind.f64.decode x).neg then x else y
theorem run_max_f {P : Program} (w : World) (ts : Array TypeId) (t : TypeId) (x y : Nat) (h : (FloatKind.f64.format.order x y).isSome = true) :
    (Builtin.max_ ts t #[.float .f64 x, .float .f64 y]).run P w = .ok (.float .f64 (fmax x y)) w := by
  unfold fmax
  simp only [Builtin.max_, List.foldlM, Builtin.max2]
  cases ho : FloatKind.f64.format.order x y with
  | none => rw [ho] at h; cases h
  | some o => cases o <;> rfl
theorem run_min_f {P : Program} (w : World) (ts : Array TypeId) (t : TypeId) (x y : Nat) (h : (FloatKind.f64.format.order x y).isSome = true) :
    (Builtin.min_ ts t #[.float .f64 x, .float .f64 y]).run P w = .ok (.float .f64 (fmin x y)) w := by
  unfold fmin
  simp only [Builtin.min_, List.foldlM, Builtin.min2]
  cases ho : FloatKind.f64.format.order x y with
  | none => rw [ho] at h; cases h
  | some o => cases o <;> rfl

theorem ord_rep : ∀ i j : Fin 6, (FloatKind.f64.format.order (rep i) (rep j)).isSome = true := by decide +kernel
theorem ord_imp : ∀ i j : Fin 6, (FloatKind.f64.format.order (imp i) (imp j)).isSome = true := by decide +kernel
/-- The higher of two levels, and the lower. -/
def top (i j : Fin 6) : Fin 6 := if i ≤ j then j else i
def low (i j : Fin 6) : Fin 6 := if i ≤ j then i else j
theorem max_rep : ∀ i j : Fin 6, fmax (rep i) (rep j) = rep (top i j) := by decide +kernel
theorem min_rep : ∀ i j : Fin 6, fmin (rep i) (rep j) = rep (low i j) := by decide +kernel
theorem max_imp : ∀ i j : Fin 6, fmax (imp i) (imp j) = imp (low i j) := by decide +kernel
theorem min_imp : ∀ i j : Fin 6, fmin (imp i) (imp j) = imp (top i j) := by decide +kernel
theorem eql_pt : ∀ i j : Fin 6, ((FloatKind.f64.format.order (rep i) (rep j) == some .eq) && (FloatKind.f64.format.order (imp i) (imp j) == some .eq)) = decide (i = j) := by decide +kernel
theorem leq_pt : ∀ i j : Fin 6, ((FloatKind.f64.format.order (rep i) (rep j) == some .lt || FloatKind.f64.format.order (rep i) (rep j) == some .eq) && (FloatKind.f64.format.order (imp i) (imp j) == some .gt || FloatKind.f64.format.order (imp i) (imp j) == some .eq)) = decide (i ≤ j) := by decide +kernel

/-- The point of level i. -/
def pt (i : Fin 6) : Value := .complex .f64 (rep i) (imp i)
/-- Level i as a number. -/
def lev (i : Fin 6) : Int := (i.val : Int)

@[go_sem] theorem run_eql_pt {P : Program} (w : World) (t : TypeId) (i j : Fin 6) : (binOp .eql t (pt i) (pt j)).run P w = .ok (.bool (decide (i = j))) w := by
  rw [← eql_pt]; exact run_eql_complex w t _ _ _ _ _
@[go_sem] theorem run_neq_pt {P : Program} (w : World) (t : TypeId) (i j : Fin 6) : (binOp .neq t (pt i) (pt j)).run P w = .ok (.bool (!decide (i = j))) w := by
  rw [← eql_pt]; exact run_neq_complex w t _ _ _ _ _

@[go_sem] theorem eqGuard_pt (op : BinOp) (t : TypeId) (x y : Operand) (i j : Fin 6) : eqGuard op t x y (pt i) (pt j) = pure () := by cases op <;> rfl

/-- The number whose parts' bits are a and b is the point of level i. -/
def hit (a b : Nat) (i : Fin 6) : Bool := (FloatKind.f64.format.order a (rep i) == some .eq) && (FloatKind.f64.format.order b (imp i) == some .eq)
end Go.Proofs.Ythhpfpihgmhlbaa
