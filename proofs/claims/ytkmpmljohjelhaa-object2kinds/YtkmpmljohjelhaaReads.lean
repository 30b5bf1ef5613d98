/- What the functions that only read lists of categories answer: contracts, for every list. -/
import Derived.Test.YtkmpmljohjelhaaRows
import Derived.Test.YtkmpmljohjelhaaSets
import Derived.BigQuiet
namespace Go.Proofs.Ytkmpmljohjelhaa
open Go.RowKit
set_option maxRecDepth 100000

theorem info27 : (Try.prog.info? 42).map (fun i => (i.zero, i.size, i.bytes)) = some (some (.int .u16 0), 1, 2) := by kernel_rfl
theorem bel_drewN {B : Nat} {a w : World} (h : Below B a w) (n : Nat) : Below B a (w.drewN n) := ⟨h.os, h.tape, h.output, h.size, h.block⟩
/-- May a list be a set? -/
def mayS (xs : List Int) : Bool := decide (xs.length ≤ 16) && asc xs

set_option maxHeartbeats 400000 in
theorem rises_any (a : Option Addr) (n cap : Nat) (xs : List Int) (w : World) (hr : RowW w a n cap xs) :
    Calls Try.prog 52 #[.slice a n cap] w fun e w' => e = .returned (.bool (asc xs)) ∧ Below w.heap.size w w' := by
  have hl : Hid (xs.length = n) := hr.len
  have hcap := hr.cap_le
  go_enter Try.func52, Try.ntmps52
  go_wp2_with fail
  go_loopw [3] (fun i wr => ∃ k : Nat, 1 ≤ k ∧ (k ≤ n ∨ k = 1) ∧ i = .int .i64 k ∧ Below w.heap.size w wr ∧ ∀ j, 1 ≤ j → j < k → xs.getD (j - 1) 0 < xs.getD j 0) (fun i _ => n - (intOf i).toNat)
  case atStart => exact ⟨1, by omega, .inr rfl, rfl, Below.refl _ _, fun j h1 h2 => by omega⟩
  case round =>
    obtain ⟨k, hk1, hk2, rfl, hbel, hup⟩ := hrel
    by_cases hlt : k < n
    · have hp : (k : Int) < (n : Int) := by omega
      obtain ⟨b, off, rfl, hc⟩ := (hr.below hbel).at (by omega)
      have c1 := hc k hlt
      have c2 := hc (k - 1) (by omega)
      have hq : ((k : Int) - 1) = ((k - 1 : Nat) : Int) := by omega
      generalize hX : xs.getD k 0 = X at c1
      generalize hY : xs.getD (k - 1) 0 = Y at c2
      have HX : Hid (xs.getD k 0 = X) := hX
      have HY : Hid (xs.getD (k - 1) 0 = Y) := hY
      clear hX hY hc
      by_cases hle : X ≤ Y
      · go_wp2
        go_quiet (fail)
        go_wp2
        go_ret
        refine ⟨?_, bel_drewN hbel _⟩
        rw [asc_false (k - 1) (by have := hl.out; omega) (by rw [show k - 1 + 1 = k by omega, HX.out, HY.out]; exact hle)]; rfl
      · have hle' : decide (X ≤ Y) = false := by simpa using hle
        go_wp2
        go_quiet (fail)
        go_wp2
        go_roundw
        case rel =>
          refine ⟨k + 1, by omega, by omega, by go_num, bel_drewN hbel _, fun j h1 h2 => ?_⟩
          by_cases hj : j < k
          · exact hup j h1 hj
          · obtain rfl : j = k := by omega
            rw [HX.out, HY.out]; omega
        case measure => simp [intOf]; omega
    · have hp : decide ((k : Int) < (n : Int)) = false := by simp; omega
      go_wp2
      go_ret
      refine ⟨?_, hbel⟩
      rw [(asc_iff xs).2 (Srt.of_steps fun i hi => by have := hup (i + 1) (by omega) (by have := hl.out; omega); simpa using this)]; rfl

set_option maxHeartbeats 400000 in
theorem may_any (a : Option Addr) (n cap : Nat) (xs : List Int) (w : World) (hr : RowW w a n cap xs) :
    Calls Try.prog 32 #[.slice a n cap] w fun e w' => e = .returned (.bool (mayS xs)) ∧ Below w.heap.size w w' := by
  have hl := hr.len
  unfold mayS
  by_cases h : n ≤ 16
  · have h1 : (n : Int) ≤ 16 := by omega
    rw [hl, decide_eq_true h, Bool.true_and]
    go_enter Try.func32, Try.ntmps32
    go_wp2_with fail
    refine (rises_any a n cap xs _ hr).mono ?_
    rintro e w1 ⟨rfl, hb⟩
    go_wp2
    go_ret
    exact ⟨rfl, hb⟩
  · have h1 : decide ((n : Int) ≤ 16) = false := by simp; omega
    rw [hl, decide_eq_false h, Bool.false_and]
    go_enter Try.func32, Try.ntmps32
    go_wp2_with fail
    go_ret
    exact ⟨rfl, Below.refl _ _⟩

set_option maxHeartbeats 400000 in
theorem refMay_any (a : Option Addr) (n cap : Nat) (xs : List Int) (w : World) (hr : RowW w a n cap xs) :
    Calls Try.prog 38 #[.slice a n cap] w fun e w' => e = .returned (.bool (mayS xs)) ∧ Below w.heap.size w w' := by
  have hl : Hid (xs.length = n) := hr.len
  have hcap := hr.cap_le
  unfold mayS
  rw [hl.out]
  go_enter Try.func38, Try.ntmps38
  go_wp2_with fail
  go_loopw [3] (fun i wr => ∃ k : Nat, 1 ≤ k ∧ (k ≤ n ∨ k = 1) ∧ i = .int .i64 k ∧ Below w.heap.size w wr ∧ ∀ j, 1 ≤ j → j < k → xs.getD (j - 1) 0 < xs.getD j 0) (fun i _ => n - (intOf i).toNat)
  case atStart => exact ⟨1, by omega, .inr rfl, rfl, Below.refl _ _, fun j h1 h2 => by omega⟩
  case round =>
    obtain ⟨k, hk1, hk2, rfl, hbel, hup⟩ := hrel
    by_cases hlt : k < n
    · have hp : (k : Int) < (n : Int) := by omega
      obtain ⟨b, off, rfl, hc⟩ := (hr.below hbel).at (by omega)
      have c1 := hc k hlt
      have c2 := hc (k - 1) (by omega)
      have hq : ((k : Int) - 1) = ((k - 1 : Nat) : Int) := by omega
      generalize hX : xs.getD k 0 = X at c1
      generalize hY : xs.getD (k - 1) 0 = Y at c2
      have HX : Hid (xs.getD k 0 = X) := hX
      have HY : Hid (xs.getD (k - 1) 0 = Y) := hY
      clear hX hY hc
      by_cases hle : X ≤ Y
      · go_wp2
        go_quiet (fail)
        go_wp2
        go_ret
        refine ⟨?_, bel_drewN hbel _⟩
        rw [asc_false (k - 1) (by have := hl.out; omega) (by rw [show k - 1 + 1 = k by omega, HX.out, HY.out]; exact hle), Bool.and_false]; rfl
      · have hle' : decide (X ≤ Y) = false := by simpa using hle
        go_wp2
        go_quiet (fail)
        go_wp2
        go_roundw
        case rel =>
          refine ⟨k + 1, by omega, by omega, by go_num, bel_drewN hbel _, fun j h1 h2 => ?_⟩
          by_cases hj : j < k
          · exact hup j h1 hj
          · obtain rfl : j = k := by omega
            rw [HX.out, HY.out]; omega
        case measure => simp [intOf]; omega
    · have hp : decide ((k : Int) < (n : Int)) = false := by simp; omega
      by_cases h : n ≤ 16
      · have h1 : (n : Int) ≤ 16 := by omega
        go_wp2
        go_ret
        refine ⟨?_, hbel⟩
        rw [(asc_iff xs).2 (Srt.of_steps fun i hi => by have := hup (i + 1) (by omega) (by have := hl.out; omega); simpa using this), decide_eq_true h]; rfl
      · have h1 : decide ((n : Int) ≤ 16) = false := by simp; omega
        go_wp2
        go_ret
        refine ⟨?_, hbel⟩
        rw [decide_eq_false h]; rfl

theorem list_ext {xs ys : List Int} (hl : xs.length = ys.length) (h : ∀ j, j < xs.length → xs.getD j 0 = ys.getD j 0) : xs = ys := by
  apply List.ext_getElem hl
  intro i h1 h2
  have := h i h1
  rwa [getD_eq h1, getD_eq h2] at this

end Go.Proofs.Ytkmpmljohjelhaa
