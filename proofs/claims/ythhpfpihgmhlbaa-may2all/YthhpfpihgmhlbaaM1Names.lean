/- Who may, by levels: what is said of labels plainly, and what Names answers: contracts. -/
import Derived.Test.YthhpfpihgmhlbaaLabFlows
import Derived.Test.YthhpfpihgmhlbaaLabRefFlows
import Derived.Test.YthhpfpihgmhlbaaLabRiseAll
import Derived.Test.YthhpfpihgmhlbaaLabMay
namespace Go.Proofs.Ythhpfpihgmhlbaa
open Go.RowKit

theorem bool_of (P : Prop) : ∃ q : Bool, q = true ↔ P := by
  by_cases h : P
  · exact ⟨true, by simp [h]⟩
  · exact ⟨false, by simp [h]⟩
theorem bool_same {P : Prop} {q r : Bool} (h : q = true ↔ P) (k : r = true ↔ P) : q = r := Bool.eq_iff_iff.2 (h.trans k.symm)

/-- May a call name a label? -/
def nameB (d : Int) (xs : List (Int × Int)) : Bool := decide (d = 2 ∧ starsL 3 xs = [])
/-- Has a label a star at each of these? -/
def starB (d : Int) (xs : List (Int × Int)) (cs : List Int) : Bool := cs.all fun c => decide (atL d xs c = 0)
/-- Which error is told first. -/
def why (n s f : Bool) : Int := if n = true then if s = true then if f = true then 0 else 6 else 5 else 4

/-- A label in memory: its levels are levels, its categories rise, and they are few. -/
structure Lb (w : World) (d : Int) (a : Option Addr) (n cap : Nat) (xs : List (Int × Int)) : Prop where
  row : RowG PE w a n cap xs
  lv : LvL d xs
  up : UpL xs
  le : n ≤ 100
theorem Lb.below {w w' : World} {d : Int} {a : Option Addr} {n cap : Nat} {xs : List (Int × Int)} (h : Lb w d a n cap xs) (hb : Below w.heap.size w w') : Lb w' d a n cap xs := ⟨h.row.below hb, h.lv, h.up, h.le⟩
theorem Lb.rise {w : World} {B : Nat} {d : Int} {a : Option Addr} {n cap : Nat} {xs : List (Int × Int)} (h : Lb w d a n cap xs) {w' : World} {so : Option Addr} {k co : Nat} (ho : OwnG PE 51 w' B so k co (riseP d xs)) : Lb w' (riseL d) so k co (riseP d xs) := by
  refine ⟨ho.row, ⟨riseL_lv h.lv.1, fun p hp => ?_⟩, (rise_can d h.up).1, ?_⟩
  · obtain ⟨_, r, hr, rfl⟩ := cmb_cats _ _ _ p hp
    obtain ⟨q, hq, rfl⟩ := List.mem_map.1 hr
    exact riseL_lv (h.lv.2 q hq)
  · have := cmb_len (riseL d) (fun x _ => riseL x) (xs.map fun p => (p.1, p.2, p.2))
    rw [List.length_map, h.row.len] at this
    have h1 : (riseP d xs).length = k := ho.1
    have h2 := h.le
    unfold riseP at h1
    omega

set_option maxHeartbeats 1000000 in
theorem refNames_any (d : Int) (a : Option Addr) (n cap : Nat) (xs : List (Int × Int)) (w : World) (hr : RowG PE w a n cap xs) (hn : n ≤ 1000000) :
    Calls Try.prog 36 #[.agg #[.int .u8 d, .slice a n cap]] w fun e w' => e = .returned (.bool (nameB d xs)) ∧ Below w.heap.size w w' := by
  by_cases hd : d = 2
  · subst hd
    go_enter Try.func36, Try.ntmps36
    go_wp2_with fail
    refine (levels_any 2 a n cap xs 3 _ (hr.below (below_alloc _ _)) hn).mono ?_
    rintro e w1 ⟨so, k, co, rfl, hown, hb⟩
    have hk : ((k : Int) == 0) = decide (starsL 3 xs = []) := by
      have := hown.1
      by_cases h : starsL 3 xs = []
      · rw [decide_eq_true h]; rw [h] at this; simp at this; simp; omega
      · rw [decide_eq_false h]
        have h2 : (starsL 3 xs).length ≠ 0 := fun e => h (List.eq_nil_of_length_eq_zero e)
        simp; omega
    have HQ : Hid (nameB 2 xs = decide (starsL 3 xs = [])) := by simp [nameB, Hid]
    generalize decide (starsL 3 xs = []) = q at HQ hk
    have hkl : k ≤ 9223372036854775807 := by have := hown.row.cap_le; omega
    go_wp2_with fail
    go_ret
    refine ⟨?_, ext_trans (below_alloc _ _) hb⟩
    rw [HQ.out]; rfl
  · have hd' : (d == 2) = false := by simpa using hd
    go_enter Try.func36, Try.ntmps36
    go_wp2_with fail
    go_ret
    refine ⟨?_, below_alloc _ _⟩
    simp [nameB, hd]
end Go.Proofs.Ythhpfpihgmhlbaa
