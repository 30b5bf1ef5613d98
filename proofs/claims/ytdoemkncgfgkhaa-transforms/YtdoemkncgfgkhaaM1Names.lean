/- Who may, by levels: what is said of labels plainly, and what Names answers: contracts. -/
import Derived.Test.YtdoemkncgfgkhaaLabFlows
import Derived.Test.YtdoemkncgfgkhaaLabRefFlows
import Derived.Test.YtdoemkncgfgkhaaLabRiseAll
import Derived.Test.YtdoemkncgfgkhaaLabMay
namespace Go.Proofs.Ytdoemkncgfgkhaa
open Go.RowKit
set_option maxRecDepth 100000

theorem bool_of (P : Prop) : ∃ q : Bool, q = true ↔ P := by
  by_cases h : P
  · exact ⟨true, by simp [h]⟩
  · exact ⟨false, by simp [h]⟩
theorem bool_same {P : Prop} {q r : Bool} (h : q = true ↔ P) (k : r = true ↔ P) : q = r := Bool.eq_iff_iff.2 (h.trans k.symm)

/-- May a call name a label? -/
def nameB (d : Int) (xs : List (Int × Int)) : Bool := decide (d = 2 ∧ starsL 3 xs = [])
/-- Has a label a star at each of these? -/
def starB (d : Int) (xs : List (Int × Int)) (cs : List Int) : Bool := cs.all fun c => decide (atL d xs c = 0)
/-- Which error is told first. -/
def why (n s f : Bool) : Int := if n = true then if s = true then if f = true then 0 else 6 else 5 else 4

/-- A label in memory: its levels are levels, its categories rise, and they are few. -/
structure Lb (w : World) (d : Int) (a : Option Addr) (n cap : Nat) (xs : List (Int × Int)) : Prop where
  row : RowG PE w a n cap xs
  lv : LvL d xs
  up : UpL xs
  le : n ≤ 100
theorem Lb.below {w w' : World} {d : Int} {a : Option Addr} {n cap : Nat} {xs : List (Int × Int)} (h : Lb w d a n cap xs) (hb : Below w.heap.size w w') : Lb w' d a n cap xs := ⟨h.row.below hb, h.lv, h.up, h.le⟩
theorem Lb.rise {w : World} {B : Nat} {d : Int} {a : Option Addr} {n cap : Nat} {xs : List (Int × Int)} (h : Lb w d a n cap xs) {w' : World} {so : Option Addr} {k co : Nat} (ho : OwnG PE 40 w' B so k co (riseP d xs)) : Lb w' (riseL d) so k co (riseP d xs) := by
  refine ⟨ho.row, ⟨riseL_lv h.lv.1, fun p hp => ?_⟩, (rise_can d h.up).1, ?_⟩
  · obtain ⟨_, r, hr, rfl⟩ := cmb_cats _ _ _ p hp
    obtain ⟨q, hq, rfl⟩ := List.mem_map.1 hr
    exact riseL_lv (h.lv.2 q hq)
  · have := cmb_len (riseL d) (fun x _ => riseL x) (xs.map fun p => (p.1, p.2, p.2))
    rw [List.length_map, h.row.len] at this
    have h1 : (riseP d xs).length = k := ho.1
    have h2 := h.le
    unfold riseP at h1
    omega

theorem namesF_any (x y : Int) (w : World) : Calls Try.prog 48 #[.agg #[.int .u16 x, .int .u8 y]] w fun e w' => e = .returned (.bool (y == 3)) ∧ Below w.heap.size w w' := by
  go_enter Try.func48, Try.ntmps48
  go_wp2_with fail
  go_ret
  exact ⟨rfl, below_alloc _ _⟩

set_option maxHeartbeats 1000000 in
theorem index_any (a : Option Addr) (n cap : Nat) (xs : List (Int × Int)) (w : World) (hr : RowG PE w a n cap xs) :
    Calls Try.prog 73 #[.slice a n cap, .func (.func 48) #[] #[]] w fun e w' => ∃ i : Int, e = .returned (.int .i64 i) ∧ (0 ≤ i ↔ starsL 3 xs ≠ []) ∧ Below w.heap.size w w' := by
  have hl : Hid (xs.length = n) := hr.len
  have hcap := hr.cap_le
  go_enter Try.func73, Try.ntmps73
  go_wp2_with fail
  go_loopw [8] (fun i wr => ∃ j : Nat, j ≤ n ∧ i = .int .i64 j ∧ Below w.heap.size w wr ∧ starsL 3 (xs.take j) = []) (fun i _ => n - (intOf i).toNat)
  case atStart => exact ⟨0, by omega, rfl, Below.refl _ _, by simp [starsL]⟩
  case round =>
    obtain ⟨j, hj, rfl, hbr, hst⟩ := hrel
    have HST : Hid (starsL 3 (xs.take j) = []) := hst
    clear hst
    by_cases hlt : j < n
    · have hp : (j : Int) < (n : Int) := by omega
      obtain ⟨b, off, rfl, _⟩ := hr.at (by omega)
      obtain ⟨X, Y, hX, HXb⟩ := hr.get2 j hlt
      obtain ⟨t1, t2⟩ := (hr.below hbr).pair hX
      have HX : Hid (xs[j]? = some (X, Y)) := hX
      clear hX
      go_wp2_with fail
      refine (namesF_any X Y _).mono ?_
      rintro e w1 ⟨rfl, hb1⟩
      by_cases hY : Y = 3
      · subst hY
        go_wp2_with fail
        go_ret
        refine ⟨j, rfl, ⟨fun _ h => ?_, fun _ => by omega⟩, ext_trans hbr hb1⟩
        have : X ∈ starsL 3 xs := by
          unfold starsL
          exact List.mem_map.2 ⟨(X, 3), List.mem_filter.2 ⟨List.mem_of_getElem? HX.out, by simp⟩, rfl⟩
        rw [h] at this
        simp at this
      · have hY' : (Y == 3) = false := by simpa using hY
        go_wp2_with fail
        go_roundw
        case rel =>
          refine ⟨j + 1, by omega, by go_num, ext_trans hbr hb1, ?_⟩
          rw [take_snoc HX.out, stars_snoc_n _ _ _ _ hY]
          exact HST.out
        case measure => simp [intOf]; omega
    · obtain rfl : j = n := by omega
      go_wp2_with fail
      go_ret
      refine ⟨-1, rfl, ⟨fun h => by omega, fun h => ?_⟩, hbr⟩
      have h1 := HST.out
      rw [List.take_of_length_le (by rw [hl.out]; exact Nat.le_refl _)] at h1
      exact absurd h1 h

set_option maxHeartbeats 1000000 in
theorem contains_any (a : Option Addr) (n cap : Nat) (xs : List (Int × Int)) (w : World) (hr : RowG PE w a n cap xs) :
    Calls Try.prog 47 #[.slice a n cap, .func (.func 48) #[] #[]] w fun e w' => e = .returned (.bool (!decide (starsL 3 xs = []))) ∧ Below w.heap.size w w' := by
  go_enter Try.func47, Try.ntmps47
  go_wp2_with fail
  refine (index_any a n cap xs _ hr).mono ?_
  rintro e w1 ⟨i, rfl, hi, hb⟩
  obtain ⟨q, hq⟩ : ∃ q, q = decide (0 ≤ i) := ⟨_, rfl⟩
  have HQ : Hid (q = !decide (starsL 3 xs = [])) := by
    show q = _
    rw [hq]
    by_cases h : starsL 3 xs = []
    · rw [decide_eq_true h, decide_eq_false (fun k => hi.1 k h)]; rfl
    · rw [decide_eq_false h, decide_eq_true (hi.2 h)]; rfl
  have hq' : decide (0 ≤ i) = q := hq.symm
  clear hi hq
  go_wp2_with fail
  go_ret
  exact ⟨by rw [HQ.out]; rfl, hb⟩

set_option maxHeartbeats 1000000 in
theorem names_any (d : Int) (a : Option Addr) (n cap : Nat) (xs : List (Int × Int)) (w : World) (hr : RowG PE w a n cap xs) :
    Calls Try.prog 18 #[.agg #[.int .u8 d, .slice a n cap]] w fun e w' => e = .returned (.bool (nameB d xs)) ∧ Below w.heap.size w w' := by
  by_cases hd : d = 2
  · subst hd
    go_enter Try.func18, Try.ntmps18
    go_wp2_with fail
    refine (contains_any a n cap xs _ (hr.below (below_alloc _ _))).mono ?_
    rintro e w1 ⟨rfl, hb⟩
    have HQ : Hid (nameB 2 xs = decide (starsL 3 xs = [])) := by simp [nameB, Hid]
    generalize decide (starsL 3 xs = []) = q at HQ
    go_wp2_with fail
    go_ret
    refine ⟨?_, ext_trans (below_alloc _ _) hb⟩
    rw [HQ.out]
    cases q <;> rfl
  · have hd' : (d == 2) = false := by simpa using hd
    go_enter Try.func18, Try.ntmps18
    go_wp2_with fail
    go_ret
    refine ⟨?_, below_alloc _ _⟩
    simp [nameB, hd]

set_option maxHeartbeats 1000000 in
theorem refNames_any (d : Int) (a : Option Addr) (n cap : Nat) (xs : List (Int × Int)) (w : World) (hr : RowG PE w a n cap xs) (hn : n ≤ 1000000) :
    Calls Try.prog 42 #[.agg #[.int .u8 d, .slice a n cap]] w fun e w' => e = .returned (.bool (nameB d xs)) ∧ Below w.heap.size w w' := by
  by_cases hd : d = 2
  · subst hd
    go_enter Try.func42, Try.ntmps42
    go_wp2_with fail
    refine (levels_any 2 a n cap xs 3 _ (hr.below (below_alloc _ _)) hn).mono ?_
    rintro e w1 ⟨so, k, co, rfl, hown, hb⟩
    have hk : ((k : Int) == 0) = decide (starsL 3 xs = []) := by
      have := hown.1
      by_cases h : starsL 3 xs = []
      · rw [decide_eq_true h]; rw [h] at this; simp at this; simp; omega
      · rw [decide_eq_false h]
        have h2 : (starsL 3 xs).length ≠ 0 := fun e => h (List.eq_nil_of_length_eq_zero e)
        simp; omega
    have HQ : Hid (nameB 2 xs = decide (starsL 3 xs = [])) := by simp [nameB, Hid]
    generalize decide (starsL 3 xs = []) = q at HQ hk
    have hkl : k ≤ 9223372036854775807 := by have := hown.row.cap_le; omega
    go_wp2_with fail
    go_ret
    refine ⟨?_, ext_trans (below_alloc _ _) hb⟩
    rw [HQ.out]; rfl
  · have hd' : (d == 2) = false := by simpa using hd
    go_enter Try.func42, Try.ntmps42
    go_wp2_with fail
    go_ret
    refine ⟨?_, below_alloc _ _⟩
    simp [nameB, hd]
end Go.Proofs.Ytdoemkncgfgkhaa
