/- What Same, and the document's own functions that only read labels, answer: contracts. -/
import Derived.Test.YthhpfpihgmhlbaaLabRead1
namespace Go.Proofs.Ythhpfpihgmhlbaa
open Go.RowKit

theorem two_allocs (w : World) (x y : Obj) : Below w.heap.size w ((w.alloc x).alloc y) := ext_trans (below_alloc _ _) (below_alloc _ _)
theorem cell_old {w : World} {p : Addr} {v : Value} (o : Obj) (h : w.cell? p = some v) : (w.alloc o).cell? p = some v := by rw [(below_alloc w o).cell (lt_of_cell h)]; exact h
theorem atL_drop {d : Int} {xs : List (Int × Int)} {k : Nat} {c : Int} (h : ∀ j x y, j < k → xs[j]? = some (x, y) → x ≠ c) : atL d xs c = atL d (xs.drop k) c := by
  induction k generalizing xs with
  | zero => rfl
  | succ k ih =>
    cases xs with
    | nil => rfl
    | cons p xs =>
      rw [List.drop_succ_cons, atL_cons, if_neg (h 0 p.1 p.2 (by omega) rfl)]
      exact ih fun j x y hj hx => h (j + 1) x y (by omega) (by simpa using hx)
theorem atL_here {d : Int} {xs : List (Int × Int)} {k : Nat} {c y : Int} (h : ∀ j x y, j < k → xs[j]? = some (x, y) → x ≠ c) (hk : xs[k]? = some (c, y)) : atL d xs c = y := by
  obtain ⟨h1, h2⟩ := List.getElem?_eq_some_iff.1 hk
  rw [atL_drop h, List.drop_eq_getElem_cons h1, h2, atL_cons, if_pos rfl]

set_option maxHeartbeats 400000 in
theorem refAt_any (d : Int) (a : Option Addr) (n cap : Nat) (xs : List (Int × Int)) (c : Int) (w : World) (hr : RowG PE w a n cap xs) :
    Calls Try.prog 38 #[.agg #[.int .u8 d, .slice a n cap], .int .u16 c] w fun e w' => e = .returned (.int .u8 (atL d xs c)) ∧ Below w.heap.size w w' := by
  have hl : Hid (xs.length = n) := hr.len
  have hcap := hr.cap_le
  have hb0 := below_alloc w (Obj.cells #[Value.int IntKind.u8 d, Value.slice a n cap] 41)
  go_enter Try.func38, Try.ntmps38
  go_wp2_with fail
  go_loop [5] (fun i => ∃ k : Nat, k ≤ n ∧ i = .int .i64 k ∧ ∀ j x y, j < k → xs[j]? = some (x, y) → x ≠ c) (fun i => n - (intOf i).toNat)
  case atStart => exact ⟨0, by omega, rfl, fun j _ _ h => by omega⟩
  case round =>
    obtain ⟨k, hk, rfl, hup⟩ := hrel
    by_cases hlt : k < n
    · have hp : (k : Int) < (n : Int) := by omega
      obtain ⟨b1, off1, rfl, _⟩ := hr.at (by omega)
      obtain ⟨X, Y, hX, _⟩ := hr.get2 k hlt
      obtain ⟨c1, c2⟩ := (hr.below hb0).pair hX
      have HX : Hid (xs[k]? = some (X, Y)) := hX
      clear hX
      by_cases hle : X = c
      · subst hle
        have HU : Hid (∀ j x y, j < k → xs[j]? = some (x, y) → x ≠ X) := hup
        clear hup
        go_wp2
        go_ret
        refine ⟨?_, hb0⟩
        rw [atL_here HU.out HX.out]; rfl
      · have hle' : (X == c) = false := by simpa using hle
        go_wp2
        go_round
        case rel =>
          refine ⟨k + 1, by omega, by go_num, fun j x y h2 hx => ?_⟩
          by_cases hj : j < k
          · exact hup j x y hj hx
          · obtain rfl : j = k := by omega
            have := HX.out; rw [hx] at this; simp at this; omega
        case measure => simp [intOf]; omega
    · obtain rfl : k = n := by omega
      have HU : Hid (∀ j x y, j < k → xs[j]? = some (x, y) → x ≠ c) := hup
      clear hup
      go_wp2
      go_ret
      refine ⟨?_, hb0⟩
      rw [atL_drop HU.out, List.drop_of_length_le (by rw [hl.out]; exact Nat.le_refl _)]; rfl

/-- Is a label as P5.2 asks? -/
def canB (d : Int) (xs : List (Int × Int)) : Bool := decide (d ≤ 5) && (xs.all fun p => decide (p.2 ≤ 5 ∧ p.2 ≠ d)) && asc (xs.map Prod.fst)
theorem up_iff {xs : List (Int × Int)} : UpL xs ↔ Srt (xs.map Prod.fst) := by
  unfold UpL Srt
  rw [List.pairwise_map]
theorem canB_iff {d : Int} {xs : List (Int × Int)} : canB d xs = true ↔ d ≤ 5 ∧ (∀ p ∈ xs, p.2 ≤ 5) ∧ CanL d xs := by
  simp only [canB, Bool.and_eq_true, decide_eq_true_eq, List.all_eq_true, asc_iff, ← up_iff, CanL]
  constructor
  · rintro ⟨⟨h1, h2⟩, h3⟩; exact ⟨h1, fun p hp => (h2 p hp).1, h3, fun p hp => (h2 p hp).2⟩
  · rintro ⟨h1, h2, h3, h4⟩; exact ⟨⟨h1, fun p hp => ⟨h2 p hp, h4 p hp⟩⟩, h3⟩
theorem canB_of {d : Int} {xs : List (Int × Int)} (hd : d ≤ 5) (h1 : ∀ (j : Nat) (x y : Int), xs[j]? = some (x, y) → y ≤ 5 ∧ y ≠ d) (h2 : ∀ (j : Nat) (x y x' y' : Int), xs[j]? = some (x, y) → xs[j + 1]? = some (x', y') → x < x') : canB d xs = true := by
  have hp : ∀ p ∈ xs, p.2 ≤ 5 ∧ p.2 ≠ d := fun p hp => by
    obtain ⟨i, hi, rfl⟩ := List.mem_iff_getElem.1 hp
    exact h1 i xs[i].1 xs[i].2 (List.getElem?_eq_getElem hi)
  refine canB_iff.2 ⟨hd, fun p h => (hp p h).1, up_iff.2 (Srt.of_steps fun i hi => ?_), fun p h => (hp p h).2⟩
  simp only [List.length_map] at hi
  have e1 : xs[i]? = some (xs[i].1, xs[i].2) := List.getElem?_eq_getElem (by omega)
  have e2 : xs[i + 1]? = some (xs[i + 1].1, xs[i + 1].2) := List.getElem?_eq_getElem hi
  have := h2 i _ _ _ _ e1 e2
  rw [getD_eq (by simp; omega), getD_eq (by simp; omega)]
  simpa using this
theorem canB_not1 {d : Int} {xs : List (Int × Int)} {j : Nat} {x y : Int} (h : xs[j]? = some (x, y)) (hb : ¬ (y ≤ 5 ∧ y ≠ d)) : canB d xs = false := by
  cases hc : canB d xs
  · rfl
  · obtain ⟨_, h2, _, h4⟩ := canB_iff.1 hc
    have hm := List.mem_of_getElem? h
    exact absurd ⟨h2 _ hm, h4 _ hm⟩ hb
theorem canB_not2 {d : Int} {xs : List (Int × Int)} {j : Nat} {x y x' y' : Int} (h : xs[j]? = some (x, y)) (h' : xs[j + 1]? = some (x', y')) (hb : x' ≤ x) : canB d xs = false := by
  cases hc : canB d xs
  · rfl
  · obtain ⟨_, _, h3, _⟩ := canB_iff.1 hc
    have := h3.lt (show j < j + 1 by omega) h h'
    omega
theorem canB_not0 {d : Int} {xs : List (Int × Int)} (hb : 5 < d) : canB d xs = false := by
  cases hc : canB d xs
  · rfl
  · have := (canB_iff.1 hc).1; omega

def lightB (d : Int) (xs : List (Int × Int)) : Bool := decide (xs.length ≤ 24) && canB d xs
set_option maxHeartbeats 400000 in
theorem refRise_any (x : Int) (w : World) : Calls Try.prog 46 #[.int .u8 x] w fun e w' => e = .returned (.int .u8 (riseL x)) ∧ w' = w := by
  unfold riseL
  by_cases h : x = 0
  · subst h
    go_enter Try.func46, Try.ntmps46
    go_wp2_with fail
    go_ret
    exact ⟨rfl, rfl⟩
  · have h' : (x == 0) = false := by simpa using h
    rw [if_neg h]
    go_enter Try.func46, Try.ntmps46
    go_wp2_with fail
    go_ret
    exact ⟨rfl, rfl⟩
end Go.Proofs.Ythhpfpihgmhlbaa
