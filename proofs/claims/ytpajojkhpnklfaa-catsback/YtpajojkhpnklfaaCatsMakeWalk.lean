/- CatsMake walked: it answers true, and turns nothing that was there. -/
import Derived.Test.YtpajojkhpnklfaaPdq
import Derived.Test.YtpajojkhpnklfaaMake0
import Derived.Test.YtpajojkhpnklfaaCatsAllWalk
namespace Go.Proofs.Ytpajojkhpnklfaa
open Go.RowKit

/-- cats.Make, whatever the list. -/
theorem make_all (a : Option Addr) (n cap : Nat) (xs : List Int) (w : World) (hr : RowW w a n cap xs) (hbd : n ≤ 1000000) :
    Calls Try.prog 13 #[.slice a n cap] w fun e w' => ∃ so k co zs, e = .returned (.slice so k co) ∧ OwnW 27 w' w.heap.size so k co zs ∧ Below w.heap.size w w' ∧ Srt zs ∧ (∀ x, x ∈ zs ↔ x ∈ xs) ∧ k ≤ n := by
  by_cases h0 : n = 0
  · subst h0
    obtain rfl := hr.empty rfl
    exact make_none a cap w hr
  · exact make_any a n cap xs w hr hbd (by omega)

set_option maxHeartbeats 1000000 in
theorem catsMake_walk (a : Option Addr) (n cap : Nat) (xs : List Int) (w : World) (hr : RowW w a n cap xs) :
    Calls Try.prog 3 #[.slice a n cap] w fun e w' => e = .returned (.bool true) ∧ Below w.heap.size w w' := by
  by_cases hlong : 60 < n
  · have h1 : (n : Int) > 60 := by omega
    go_enter Try.func3, Try.ntmps3
    go_wp2_with fail
    refine (begun_true _).mono ?_
    rintro e w1 ⟨rfl, hb1⟩
    go_wp2_with fail
    go_ret
    exact ⟨rfl, hb1⟩
  have h1 : decide ((60 : Int) < n) = false := by simp; omega
  have h3 : ¬ (n : Int) > 60 := by omega
  go_enter Try.func3, Try.ntmps3
  go_wp2_with fail
  refine (begun_true _).mono ?_
  rintro e w1 ⟨rfl, b1⟩
  replace hr := hr.below b1
  have q1 := may_any a n cap xs w1 hr
  have q2 := fun W (hW : Below w1.heap.size w1 W) => refMay_any a n cap xs W (hr.below hW)
  generalize mayS xs = r at q1 q2
  go_wp2_with fail
  refine q1.mono ?_
  rintro e w2 ⟨rfl, b2⟩
  clear q1
  go_wp2_with fail
  refine (q2 _ b2).mono ?_
  rintro e w3 ⟨rfl, b3⟩
  clear q2
  replace b2 := ext_trans b2 b3
  clear b3
  go_wp2_with fail
  refine (make_all a n cap xs _ (hr.below b2) (by omega)).mono ?_
  rintro e w4 ⟨sa, na, ca, A, rfl, oa, b4, hA, mA, lA⟩
  replace b2 := ext_trans b2 b4
  have ra := oa.row
  clear b4 oa
  go_wp2_with fail
  refine (refMake_any a n cap xs _ (hr.below b2) (by omega)).mono ?_
  rintro e w5 ⟨sb, nb, cb, B, rfl, ob, b5, hB, mB, lB⟩
  replace b2 := ext_trans b2 b5
  go_wp2_with fail
  refine (same_true sa na ca A sb nb cb B w5 (ra.below b5) ob.row (srt_unique hA hB fun x => by rw [mA, mB])).mono ?_
  rintro e w6 ⟨rfl, b6⟩
  go_wp2_with fail
  go_ret
  exact ⟨rfl, ext_trans b1 (ext_trans b2 b6)⟩
end Go.Proofs.Ytpajojkhpnklfaa
