/- What obj1.takePart answers, and writes into an object, part by part: contracts. -/
import Derived.Test.YtldkelpngeopmaaObOwn
import Derived.Test.YtldkelpngeopmaaLcTake
namespace Go.Proofs.Ytldkelpngeopmaa
open Go.RowKit
set_option maxRecDepth 100000
set_option linter.unusedVariables false

def verE (z : List Int) : Int := if z.length < 1 then 3 else if z.getD 0 0 ≠ 1 then 2 else 0
def kinE (z : List Int) : Int := if z.length < 1 then 3 else if isK (z.getD 0 0) = false then 2 else 0
def kinK (z : List Int) : Int := if z.length < 1 ∨ isK (z.getD 0 0) = false then 0 else z.getD 0 0

theorem part0 (a : Option Addr) (len cap : Nat) (z : List Int) (w : World) (p : Value) (hr : Row w a len cap z) :
    Calls Try.prog 24 #[.slice a len cap, .int .i64 0, p] w fun e w' => e = .returned (.tuple #[.int .i64 1, .int .i64 (verE z)]) ∧ w' = w := by
  have hq := takeVersion_any a len cap z w hr
  rw [← hr.len] at hq
  rw [show (if z.length < 1 then (3 : Int) else if z.getD 0 0 ≠ 1 then 2 else 0) = verE z from rfl] at hq
  have hl := hr.len
  generalize verE z = E at hq ⊢
  subst hl
  go_enter Try.func24, Try.ntmps24
  go_wp2_with fail
  refine hq.mono ?_
  rintro e w ⟨rfl, rfl⟩
  go_wp2_with fail
  go_ret2
  exact ⟨rfl, rfl⟩
theorem part1 (a : Option Addr) (len cap : Nat) (z : List Int) (w : World) (g : Nat) (x : Ob) (hr : Row w a len cap z) (hO : ObAt w g x) :
    Calls Try.prog 24 #[.slice a len cap, .int .i64 1, .pointer (some ⟨g, 0, none⟩)] w fun e w' => e = .returned (.tuple #[.int .i64 1, .int .i64 (kinE z)]) ∧ w' = w.setCell ⟨g, 1, none⟩ (.int .i64 (kinK z)) := by
  have hq := takeKind_any a len cap z w hr
  rw [← hr.len] at hq
  rw [show (if z.length < 1 then (3 : Int) else if isK (z.getD 0 0) = false then 2 else 0) = kinE z from rfl, show (if z.length < 1 ∨ isK (z.getD 0 0) = false then (0 : Int) else z.getD 0 0) = kinK z from rfl] at hq
  have hl := hr.len
  have cx := hO.cells.2.1
  have fz := hO.fz 1
  generalize kinE z = E at hq ⊢
  generalize kinK z = K at hq ⊢
  subst hl
  go_enter Try.func24, Try.ntmps24
  go_wp2_with fail
  refine hq.mono ?_
  rintro e w ⟨rfl, rfl⟩
  go_wp2_with fail
  go_ret2
  exact ⟨rfl, rfl⟩
theorem part2 (a : Option Addr) (len cap : Nat) (z : List Int) (w : World) (g : Nat) (x : Ob) (hr : Row w a len cap z) (hO : ObAt w g x) :
    Calls Try.prog 24 #[.slice a len cap, .int .i64 2, .pointer (some ⟨g, 0, none⟩)] w fun e w' => e = .returned (.tuple #[.int .i64 8, .int .i64 (takeE z 8)]) ∧ w' = w.setCell ⟨g, 0, none⟩ (.int .u64 (takeV z 8)) := by
  have hq := take_any a len cap 8 z w hr
  have cx := hO.cells.1
  have fz := hO.fz 0
  generalize takeE z 8 = E at hq ⊢
  generalize takeV z 8 = V at hq ⊢
  go_enter Try.func24, Try.ntmps24
  go_wp2_with fail
  refine hq.mono ?_
  rintro e w ⟨rfl, rfl⟩
  go_wp2_with fail
  go_ret2
  exact ⟨rfl, rfl⟩
set_option maxHeartbeats 1000000 in
theorem part3 (a : Option Addr) (len cap : Nat) (z : List Int) (w : World) (g : Nat) (x : Ob) (hr : Row w a len cap z) (hbd : len ≤ 1000000) (hO : ObAt w g x) :
    Calls Try.prog 24 #[.slice a len cap, .int .i64 3, .pointer (some ⟨g, 0, none⟩)] w fun e w' => ∃ (so : Option Addr) (k co : Nat) (w1 : World), e = .returned (.tuple #[.int .i64 (tlN z), .int .i64 (tlE z)]) ∧
      OwnG PE 46 w1 w.heap.size so k co (tlP z) ∧ Below w.heap.size w w1 ∧ w' = (w1.setCell ⟨g, 2, none⟩ (.int .u8 (tlD z))).setCell ⟨g, 3, none⟩ (.slice so k co) := by
  have hq := ltake_any a len cap z w hr hbd
  generalize tlN z = N at hq ⊢
  generalize tlE z = E at hq ⊢
  generalize tlD z = D at hq ⊢
  go_enter Try.func24, Try.ntmps24
  go_wp2_with fail
  refine hq.mono ?_
  rintro e w1 ⟨so, k, co, rfl, o, b⟩
  have hO1 := hO.below b
  have c2 := hO1.cells.2.2.1
  have c3 := hO1.cells.2.2.2.1
  have f2 := hO1.fz 2
  have f3 := hO1.fz 3
  go_wp2_with fail
  go_ret2
  exact ⟨so, k, co, w1, rfl, o, b, rfl⟩
set_option maxHeartbeats 1000000 in
theorem part4 (x : Ob) (hk : isK x.k = true) (a : Option Addr) (len cap : Nat) (z : List Int) (w : World) (g : Nat) (hr : Row w a len cap z) (hne : 0 < len → ∀ y, a = some y → y.block ≠ g) (hbd : len ≤ 1000000) (hO : ObAt w g x) (hM : x.Made w (g + 1)) :
    Calls Try.prog 24 #[.slice a len cap, .int .i64 4, .pointer (some ⟨g, 0, none⟩)] w fun e w' => ReadsOwn x z w g e w' := by
  have hq := takeOwn_any x hk a len cap z w g hr hne hbd hO hM
  unfold ReadsOwn at hq ⊢
  obtain ⟨E, hE⟩ : ∃ E, E = owE x.k z := ⟨_, rfl⟩
  rw [← hE] at hq ⊢
  clear hE
  go_enter Try.func24, Try.ntmps24
  go_wp2_with fail
  refine hq.mono ?_
  rintro e w1 ⟨N, rfl, hg, hrest⟩
  have HR : Hid (E = 0 → _) := hrest
  clear hrest
  go_wp2_with fail
  go_ret2
  exact ⟨N, rfl, hg, HR.out⟩
end Go.Proofs.Ytldkelpngeopmaa
