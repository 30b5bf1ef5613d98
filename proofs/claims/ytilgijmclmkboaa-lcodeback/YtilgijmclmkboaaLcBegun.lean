/- lcode does something: what the statements ask first. -/
import Derived.Test.YtilgijmclmkboaaLcTake
import Derived.Test.YtilgijmclmkboaaLcPut
namespace Go.Proofs.Ytilgijmclmkboaa
open Go.RowKit
set_option linter.unusedVariables false

/-- What 'string(b)' of bytes is. -/
theorem strB : Hid (∀ (W : World) (ao : Option Addr) (n c : Nat) (zs : List Int), Row W ao n c zs → (convert 25 9 (.slice ao n c)).run Try.prog W = .ok (.string (strOfNums zs)) W) := fun W ao n c zs hrow => run_str (P := Try.prog) W 25 9 5 Try.underlying25 Try.underlying5 Try.underlying9 ao n c zs hrow

set_option maxHeartbeats 2000000 in
theorem begun6_true (w : World) : Calls Try.prog 7 #[] w fun e w' => e = .returned (.bool true) ∧ Below w.heap.size w w' := by
  go_enter Try.func7, Try.ntmps7
  go_wp2_with fail
  refine (ltake_any (some ⟨w.heap.size, 0, none⟩) 6 6 [2, 1, 0, 3, 4, 9] _ (row_lit w 5 [2, 1, 0, 3, 4, 9] 6 rfl (by omega) (byt_of _ rfl)) (by omega)).mono ?_
  rintro e w1 ⟨so, k, co, rfl, o1, b1⟩
  rw [show tlP [2, 1, 0, 3, 4, 9] = [(3, 4)] by decide] at o1
  rw [show tlD [2, 1, 0, 3, 4, 9] = 2 by decide, show tlN [2, 1, 0, 3, 4, 9] = 5 by decide, show tlE [2, 1, 0, 3, 4, 9] = 0 by decide]
  obtain rfl : k = 1 := o1.1.symm
  have r1 := o1.row
  replace b1 := ext_trans (below_alloc w _) b1
  have h1 := below_alloc w1 (.cells #[.int .u8 2, .slice so 1 co] 24)
  have hp := lput_any none 0 0 [] 2 so 1 co [(3, 4)] _ (Row.nil _) (r1.below h1) (by decide) (by omega)
  replace b1 := ext_trans b1 h1
  clear o1 r1 h1
  go_wp2_with fail
  refine hp.mono ?_
  rintro e w2 ⟨g2, c2, rfl, o2, b2⟩
  have o3 : Own 5 w2 _ g2 5 c2 [2, 1, 0, 3, 4] := o2
  have hs9 := strB.out w2 _ _ _ _ o3.row
  have hq : ((strOfNums [2, 1, 0, 3, 4]).toList == [2, 1, 0, 3, 4]) = true := by rw [Lib.strOfNums_toList]; rfl
  replace b2 := ext_trans b1 b2
  clear o2 o3 b1 hp
  go_wp2_with fail
  go_ret
  exact ⟨rfl, b2⟩
end Go.Proofs.Ytilgijmclmkboaa
