/- What Rise answers of a label: a contract. -/
import Derived.Test.YthhpfpihgmhlbaaLabJoin
namespace Go.Proofs.Ythhpfpihgmhlbaa
open Go.RowKit

/-- A label that has risen. -/
def riseP (d : Int) (ps : List (Int × Int)) : List (Int × Int) := cmb (riseL d) (fun x _ => riseL x) (ps.map fun p => (p.1, p.2, p.2))
theorem rise_up {ps : List (Int × Int)} (h : UpL ps) : UpR (ps.map fun p => (p.1, p.2, p.2)) := List.pairwise_map.2 h
theorem rise_can (d : Int) {ps : List (Int × Int)} (h : UpL ps) : CanL (riseL d) (riseP d ps) := cmb_can _ _ _ (rise_up h)
theorem rise_at (d : Int) {ps : List (Int × Int)} (h : UpL ps) (c : Int) : atL (riseL d) (riseP d ps) c = riseL (atL d ps c) := by
  rw [riseP, cmb_at _ _ _ (rise_up h)]
  clear h
  induction ps with
  | nil => rfl
  | cons p ps ih =>
    rw [List.map_cons, atR, atL_cons]
    by_cases hc : p.1 = c
    · rw [if_pos hc, if_pos hc]
    · rw [if_neg hc, if_neg hc, ih]
theorem riseL_lv {x : Int} (h : 0 ≤ x ∧ x ≤ 5) : 0 ≤ riseL x ∧ riseL x ≤ 5 := by unfold riseL; split <;> omega

end Go.Proofs.Ythhpfpihgmhlbaa
