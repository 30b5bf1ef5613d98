/- What Join and Meet answer: contracts, over what goes through two labels at once. -/
import Derived.Test.YtldkelpngeopmaaLabMerge
import Derived.Test.YtldkelpngeopmaaLabOut
namespace Go.Proofs.Ytldkelpngeopmaa
open Go.RowKit
set_option maxRecDepth 100000

theorem cmb_snoc (D : Int) (f : Int → Int → Int) (rs : List (Int × Int × Int)) (r : Int × Int × Int) : cmb D f (rs ++ [r]) = cmb D f rs ++ unl r.1 (f r.2.1 r.2.2) D := by
  induction rs with
  | nil => simp [cmb, unl]
  | cons q rs ih =>
    rw [List.cons_append, cmb, cmb, ih]
    split <;> simp
theorem mg_lv (d e : Int) (xs ys : List (Int × Int)) (hx : LvL d xs) (hy : LvL e ys) : ∀ r ∈ mg d e xs ys, (0 ≤ r.2.1 ∧ r.2.1 ≤ 5) ∧ 0 ≤ r.2.2 ∧ r.2.2 ≤ 5 := by
  have hd := hx.1; have he := hy.1
  replace hx := hx.2; replace hy := hy.2
  fun_induction mg d e xs ys with
  | case1 => simp
  | case2 p ps ih =>
    intro r hr
    rcases List.mem_cons.1 hr with rfl | hr
    · exact ⟨hx p (by simp), he⟩
    · exact ih (fun q hq => hx q (by simp [hq])) hy r hr
  | case3 q qs ih =>
    intro r hr
    rcases List.mem_cons.1 hr with rfl | hr
    · exact ⟨hd, hy q (by simp)⟩
    · exact ih hx (fun q' hq => hy q' (by simp [hq])) r hr
  | case4 p ps q qs h ih =>
    intro r hr
    rcases List.mem_cons.1 hr with rfl | hr
    · exact ⟨hx p (by simp), he⟩
    · exact ih (fun q hq => hx q (by simp [hq])) hy r hr
  | case5 p ps q qs h h' ih =>
    intro r hr
    rcases List.mem_cons.1 hr with rfl | hr
    · exact ⟨hd, hy q (by simp)⟩
    · exact ih hx (fun q' hq => hy q' (by simp [hq])) r hr
  | case6 p ps q qs h h' ih =>
    intro r hr
    rcases List.mem_cons.1 hr with rfl | hr
    · exact ⟨hx p (by simp), hy q (by simp)⟩
    · exact ih (fun q hq => hx q (by simp [hq])) (fun q' hq => hy q' (by simp [hq])) r hr

end Go.Proofs.Ytldkelpngeopmaa
