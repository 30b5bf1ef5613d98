/- What goes through two labels at once, by goto, answers: a contract, for every two labels. -/
import Derived.Test.YtldkelpngeopmaaLabPut
namespace Go.Proofs.Ytldkelpngeopmaa
open Go.RowKit
set_option maxRecDepth 100000

theorem mg_first (d e : Int) {xs ys : List (Int × Int)} {X Y : Int} (hx : xs[0]? = some (X, Y)) (h : ys = [] ∨ ∃ X' Y', ys[0]? = some (X', Y') ∧ X < X') : mg d e xs ys = (X, Y, e) :: mg d e (xs.drop 1) ys := by
  cases xs with
  | nil => simp at hx
  | cons p ps =>
    obtain rfl : p = (X, Y) := by simpa using hx
    cases ys with
    | nil => rw [mg]; rfl
    | cons q qs =>
      rcases h with h | ⟨X', Y', h1, h2⟩
      · simp at h
      · obtain rfl : q = (X', Y') := by simpa using h1
        rw [mg, if_pos h2]; rfl
theorem mg_second (d e : Int) {xs ys : List (Int × Int)} {X Y : Int} (hx : ys[0]? = some (X, Y)) (h : xs = [] ∨ ∃ X' Y', xs[0]? = some (X', Y') ∧ X < X') : mg d e xs ys = (X, d, Y) :: mg d e xs (ys.drop 1) := by
  cases ys with
  | nil => simp at hx
  | cons p ps =>
    obtain rfl : p = (X, Y) := by simpa using hx
    cases xs with
    | nil => rw [mg]; rfl
    | cons q qs =>
      rcases h with h | ⟨X', Y', h1, h2⟩
      · simp at h
      · obtain rfl : q = (X', Y') := by simpa using h1
        rw [mg, if_neg (by simp only; omega), if_pos h2]; rfl
theorem mg_same (d e : Int) {xs ys : List (Int × Int)} {X Y Y' : Int} (hx : xs[0]? = some (X, Y)) (hy : ys[0]? = some (X, Y')) : mg d e xs ys = (X, Y, Y') :: mg d e (xs.drop 1) (ys.drop 1) := by
  cases xs with
  | nil => simp at hx
  | cons p ps =>
    obtain rfl : p = (X, Y) := by simpa using hx
    cases ys with
    | nil => simp at hy
    | cons q qs =>
      obtain rfl : q = (X, Y') := by simpa using hy
      rw [mg, if_neg (by simp only; omega), if_neg (by simp only; omega)]; rfl

/-- A slot of a run. -/
def sl (a : Act) (i : Nat) : Value := a.tmps.getD i undef
def LMu (l : Nat) (a' : Act) (_ : World) : Nat := 2 * (slen (a'.tmps.getD 6 undef) + slen (a'.tmps.getD 7 undef)) + (if l = 0 then 1 else 0)

end Go.Proofs.Ytldkelpngeopmaa
