/- num.TakeBytes and the document's TakeBytes by one contract each, whatever the bytes. -/
import Derived.Test.YtinelpegpcfoaaaNumBytes
import Derived.Test.YtinelpegpcfoaaaRef
namespace Go.Proofs.Ytinelpegpcfoaaa
open Go.RowKit

def tbOk (xs : List Int) : Bool := decide (2 ≤ xs.length ∧ num (xs.take 2) + 2 ≤ xs.length)
def tbM (xs : List Int) : Nat := if tbOk xs = true then (num (xs.take 2)).toNat else 0
def tbY (xs : List Int) : List Int := if tbOk xs = true then (xs.drop 2).take (num (xs.take 2)).toNat else []
def tbN (xs : List Int) : Int := if tbOk xs = true then 2 + (num (xs.take 2)).toNat else 0
def tbE (xs : List Int) : Int := if tbOk xs = true then 0 else 3

theorem takeBytes_any (a : Option Addr) (len cap : Nat) (xs : List Int) (w : World) (hr : Row w a len cap xs) (hbd : len ≤ 140737488351232) :
    Calls Try.prog 16 #[.slice a len cap] w fun e w' => ∃ a' c', e = .returned (.tuple #[.slice a' (tbM xs) c', .int .i64 (tbN xs), .int .i64 (tbE xs)]) ∧ Row w' a' (tbM xs) c' (tbY xs) ∧ Below w.heap.size w w' := by
  unfold tbM tbY tbN tbE
  have hl := hr.len
  have hnn := (num_bd (xs.take 2) (hr.byt.take 2)).1
  by_cases h : tbOk xs = true
  · simp only [if_pos h]
    obtain ⟨h1, h2⟩ := of_decide_eq_true h
    obtain ⟨m, hm⟩ := Int.eq_ofNat_of_zero_le hnn
    obtain ⟨b, off, rfl, _⟩ := hr.at (by omega)
    rw [hm, Int.toNat_natCast]
    refine (takeBytes_in b off len cap xs w hr hbd (by omega) m hm (by omega)).mono ?_
    rintro e w' ⟨g, c', rfl, hown, hbel⟩
    exact ⟨_, _, rfl, hown.row, hbel⟩
  · simp only [if_neg h]
    refine (takeBytes_short a len cap xs w hr (by simp [tbOk] at h; omega)).mono ?_
    rintro e w' ⟨rfl, rfl⟩
    exact ⟨_, _, rfl, Row.nil _, Below.refl _ _⟩

theorem refTakeBytes_any (a : Option Addr) (len cap : Nat) (xs : List Int) (w : World) (hr : Row w a len cap xs) (hbd : len ≤ 140737488351232) :
    Calls Try.prog 17 #[.slice a len cap] w fun e w' => ∃ a' c', e = .returned (.tuple #[.slice a' (tbM xs) c', .int .i64 (tbN xs), .int .i64 (tbE xs)]) ∧ Row w' a' (tbM xs) c' (tbY xs) ∧ Below w.heap.size w w' := by
  unfold tbM tbY tbN tbE
  have hl := hr.len
  have hnn := (num_bd (xs.take 2) (hr.byt.take 2)).1
  by_cases h : tbOk xs = true
  · simp only [if_pos h]
    obtain ⟨h1, h2⟩ := of_decide_eq_true h
    obtain ⟨m, hm⟩ := Int.eq_ofNat_of_zero_le hnn
    obtain ⟨b, off, rfl, _⟩ := hr.at (by omega)
    rw [hm, Int.toNat_natCast]
    refine (refTakeBytes_in b off len cap xs w hr hbd (by omega) m hm (by omega)).mono ?_
    rintro e w' ⟨g, c', rfl, hown, hbel⟩
    exact ⟨_, _, rfl, hown.row, hbel⟩
  · simp only [if_neg h]
    refine (refTakeBytes_short a len cap xs w hr (by simp [tbOk] at h; omega)).mono ?_
    rintro e w' ⟨rfl, rfl⟩
    exact ⟨_, _, rfl, Row.nil _, Below.refl _ _⟩
end Go.Proofs.Ytinelpegpcfoaaa
