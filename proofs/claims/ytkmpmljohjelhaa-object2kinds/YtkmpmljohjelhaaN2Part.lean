/- What obj2.takePart answers, and writes into an object, part by part: contracts. -/
import Derived.Test.YtkmpmljohjelhaaN2Own
import Derived.Test.YtkmpmljohjelhaaScTake
namespace Go.Proofs.Ytkmpmljohjelhaa
open Go.RowKit
set_option maxRecDepth 100000
set_option linter.unusedVariables false

def ver2E (z : List Int) : Int := if z.length < 1 then 3 else if z.getD 0 0 ≠ 2 then 2 else 0
def kin2E (z : List Int) : Int := if z.length < 1 then 3 else if isK (z.getD 0 0) = false then 2 else 0
def kin2K (z : List Int) : Int := if z.length < 1 ∨ isK (z.getD 0 0) = false then 0 else z.getD 0 0

theorem part0N (a : Option Addr) (len cap : Nat) (z : List Int) (w : World) (p : Value) (hr : Row w a len cap z) :
    Calls Try.prog 23 #[.slice a len cap, .int .i64 0, p] w fun e w' => e = .returned (.tuple #[.int .i64 1, .int .i64 (ver2E z)]) ∧ w' = w := by
  have hq := takeVersion2_any a len cap z w hr
  rw [← hr.len] at hq
  rw [show (if z.length < 1 then (3 : Int) else if z.getD 0 0 ≠ 2 then 2 else 0) = ver2E z from rfl] at hq
  have hl := hr.len
  generalize ver2E z = E at hq ⊢
  subst hl
  go_enter Try.func23, Try.ntmps23
  go_wp2_with fail
  refine hq.mono ?_
  rintro e w ⟨rfl, rfl⟩
  go_wp2_with fail
  go_ret2
  exact ⟨rfl, rfl⟩
theorem part1N (a : Option Addr) (len cap : Nat) (z : List Int) (w : World) (g : Nat) (x : Ob) (hr : Row w a len cap z) (hO : ObAt w g x) :
    Calls Try.prog 23 #[.slice a len cap, .int .i64 1, .pointer (some ⟨g, 0, none⟩)] w fun e w' => e = .returned (.tuple #[.int .i64 1, .int .i64 (kin2E z)]) ∧ w' = w.setCell ⟨g, 1, none⟩ (.int .i64 (kin2K z)) := by
  have hq := takeKind2_any a len cap z w hr
  rw [← hr.len] at hq
  rw [show (if z.length < 1 then (3 : Int) else if isK (z.getD 0 0) = false then 2 else 0) = kin2E z from rfl, show (if z.length < 1 ∨ isK (z.getD 0 0) = false then (0 : Int) else z.getD 0 0) = kin2K z from rfl] at hq
  have hl := hr.len
  have cx := hO.cells.2.1
  have fz := hO.fz 1
  generalize kin2E z = E at hq ⊢
  generalize kin2K z = K at hq ⊢
  subst hl
  go_enter Try.func23, Try.ntmps23
  go_wp2_with fail
  refine hq.mono ?_
  rintro e w ⟨rfl, rfl⟩
  go_wp2_with fail
  go_ret2
  exact ⟨rfl, rfl⟩
theorem part2N (a : Option Addr) (len cap : Nat) (z : List Int) (w : World) (g : Nat) (x : Ob) (hr : Row w a len cap z) (hO : ObAt w g x) :
    Calls Try.prog 23 #[.slice a len cap, .int .i64 2, .pointer (some ⟨g, 0, none⟩)] w fun e w' => e = .returned (.tuple #[.int .i64 8, .int .i64 (takeE z 8)]) ∧ w' = w.setCell ⟨g, 0, none⟩ (.int .u64 (takeV z 8)) := by
  have hq := take_any a len cap 8 z w hr
  have cx := hO.cells.1
  have fz := hO.fz 0
  generalize takeE z 8 = E at hq ⊢
  generalize takeV z 8 = V at hq ⊢
  go_enter Try.func23, Try.ntmps23
  go_wp2_with fail
  refine hq.mono ?_
  rintro e w ⟨rfl, rfl⟩
  go_wp2_with fail
  go_ret2
  exact ⟨rfl, rfl⟩
set_option maxHeartbeats 1000000 in
theorem part3N (a : Option Addr) (len cap : Nat) (z : List Int) (w : World) (g : Nat) (x : Ob) (hr : Row w a len cap z) (hbd : len ≤ 1000000) (hO : ObAt w g x) :
    Calls Try.prog 23 #[.slice a len cap, .int .i64 3, .pointer (some ⟨g, 0, none⟩)] w fun e w' => ∃ (y : Sv) (w1 : World), e = .returned (.tuple #[.int .i64 (svN z), .int .i64 (svE z)]) ∧
      y.Own w1 w.heap.size ∧ (y.xs = svX z ∧ y.ys = svY z ∧ y.zs = svZ z) ∧ Below w.heap.size w w1 ∧ w' = ((w1.setCell ⟨g, 4, none⟩ (.slice y.a1 y.n1 y.c1)).setCell ⟨g, 5, none⟩ (.slice y.a2 y.n2 y.c2)).setCell ⟨g, 6, none⟩ (.slice y.a3 y.n3 y.c3) := by
  have hq := stakeO_any a len cap z w hr hbd
  generalize svN z = N at hq ⊢
  generalize svE z = E at hq ⊢
  go_enter Try.func23, Try.ntmps23
  go_wp2_with fail
  refine hq.mono ?_
  rintro e w1 ⟨y, rfl, o, hys, b⟩
  have HYS : Hid (y.xs = svX z ∧ y.ys = svY z ∧ y.zs = svZ z) := hys
  clear hys
  have hO1 := hO.below b
  have c4 := hO1.cells.2.2.2.2.1
  have c5 := hO1.cells.2.2.2.2.2.1
  have c6 := hO1.cells.2.2.2.2.2.2.1
  have f4 := hO1.fz 4
  have f5 := hO1.fz 5
  have f6 := hO1.fz 6
  go_wp2_with fail
  go_ret2
  exact ⟨y, w1, rfl, o, HYS.out, b, rfl⟩
set_option maxHeartbeats 1000000 in
theorem part4N (x : Ob) (hk : isK x.k = true) (a : Option Addr) (len cap : Nat) (z : List Int) (w : World) (g : Nat) (hr : Row w a len cap z) (hne : 0 < len → ∀ y, a = some y → y.block ≠ g) (hbd : len ≤ 1000000) (hO : ObAt w g x) (hM : x.Made w (g + 1)) :
    Calls Try.prog 23 #[.slice a len cap, .int .i64 4, .pointer (some ⟨g, 0, none⟩)] w fun e w' => ReadsOwn2 x z w g e w' := by
  have hq := takeOwn2_any x hk a len cap z w g hr hne hbd hO hM
  unfold ReadsOwn2 at hq ⊢
  obtain ⟨E, hE⟩ : ∃ E, E = owE x.k z := ⟨_, rfl⟩
  rw [← hE] at hq ⊢
  clear hE
  go_enter Try.func23, Try.ntmps23
  go_wp2_with fail
  refine hq.mono ?_
  rintro e w1 ⟨N, rfl, hg, hrest⟩
  have HR : Hid (E = 0 → _) := hrest
  clear hrest
  go_wp2_with fail
  go_ret2
  exact ⟨N, rfl, hg, HR.out⟩
end Go.Proofs.Ytkmpmljohjelhaa
