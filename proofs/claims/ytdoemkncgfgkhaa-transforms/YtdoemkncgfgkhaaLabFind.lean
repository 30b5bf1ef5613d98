/- What the functions that only read labels answer, from the levels on: contracts. -/
import Derived.Test.YtdoemkncgfgkhaaLab
import Derived.Test.YtdoemkncgfgkhaaLevel
import Derived.Test.YtdoemkncgfgkhaaMerge
import Derived.BigQuiet
namespace Go.Proofs.Ytdoemkncgfgkhaa
open Go.RowKit
set_option maxRecDepth 100000

theorem lev_of {x : Int} (h : 0 ≤ x ∧ x ≤ 5) : ∃ i : Fin 6, lev i = x := ⟨⟨x.toNat, by omega⟩, by simp [lev]; omega⟩
theorem top_lev (i j : Fin 6) : lev (top i j) = max (lev i) (lev j) := by revert i j; decide
theorem low_lev (i j : Fin 6) : lev (low i j) = min (lev i) (lev j) := by revert i j; decide
theorem lmax_num (x y : Int) (hx : 0 ≤ x ∧ x ≤ 5) (hy : 0 ≤ y ∧ y ≤ 5) (w : World) : Calls Try.prog 58 #[.int .u8 x, .int .u8 y] w fun e w' => e = .returned (.int .u8 (max x y)) ∧ w' = w := by
  obtain ⟨i, rfl⟩ := lev_of hx
  obtain ⟨j, rfl⟩ := lev_of hy
  rw [← top_lev]
  exact lmax_lev i j _ rfl w
theorem lflows_num (x y : Int) (hx : 0 ≤ x ∧ x ≤ 5) (hy : 0 ≤ y ∧ y ≤ 5) (w : World) : Calls Try.prog 60 #[.int .u8 x, .int .u8 y] w fun e w' => e = .returned (.bool (decide (x ≤ y))) ∧ w' = w := by
  obtain ⟨i, rfl⟩ := lev_of hx
  obtain ⟨j, rfl⟩ := lev_of hy
  rw [show decide (lev i ≤ lev j) = decide (i ≤ j) by simp [lev, Fin.le_def]]
  exact lflows_lev i j w
def riseL (x : Int) : Int := if x = 0 then 5 else x
theorem lrise_num (x : Int) (hx : 0 ≤ x ∧ x ≤ 5) (w : World) : Calls Try.prog 75 #[.int .u8 x] w fun e w' => e = .returned (.int .u8 (riseL x)) ∧ w' = w := by
  obtain ⟨i, rfl⟩ := lev_of hx
  rw [show riseL (lev i) = lev (up i) by revert i; decide]
  exact rise_lev i w
/-- How two numbers stand. -/
def cmpI (x y : Int) : Int := if x < y then -1 else if y < x then 1 else 0
set_option maxHeartbeats 400000 in
theorem compare_any (x y : Int) (w : World) : Calls Try.prog 71 #[.int .u16 x, .int .u16 y] w fun e w' => e = .returned (.int .i64 (cmpI x y)) ∧ w' = w := by
  unfold cmpI
  go_enter Try.func71, Try.ntmps71
  go_wp2_with fail
  refine (isNaN_any x _).mono ?_
  rintro e w1 ⟨rfl, rfl⟩
  go_wp2_with fail
  refine (isNaN_any y _).mono ?_
  rintro e w1 ⟨rfl, rfl⟩
  by_cases h : x < y
  · go_wp2_with fail
    go_ret
    simp
  · have h' : decide (x < y) = false := by simpa using h
    by_cases h2 : y < x
    · go_wp2_with fail
      go_ret
      simp
    · have h2' : decide (y < x) = false := by simpa using h2
      go_wp2_with fail
      go_ret
      simp
set_option maxHeartbeats 400000 in
theorem findF_any (x y c : Int) (w : World) : Calls Try.prog 83 #[.agg #[.int .u16 x, .int .u8 y], .int .u16 c] w fun e w' => e = .returned (.int .i64 (cmpI x c)) ∧ Below w.heap.size w w' := by
  go_enter Try.func83, Try.ntmps83
  go_wp2_with fail
  refine (compare_any x c _).mono ?_
  rintro e w1 ⟨rfl, rfl⟩
  go_wp2_with fail
  go_ret
  exact ⟨rfl, below_alloc _ _⟩
set_option maxHeartbeats 400000 in
theorem makeF_any (x y x' y' : Int) (w : World) : Calls Try.prog 70 #[.agg #[.int .u16 x, .int .u8 y], .agg #[.int .u16 x', .int .u8 y']] w fun e w' => e = .returned (.int .i64 (cmpI x x')) ∧ Below w.heap.size w w' := by
  go_enter Try.func70, Try.ntmps70
  go_wp2_with fail
  refine (compare_any x x' _).mono ?_
  rintro e w1 ⟨rfl, rfl⟩
  go_wp2_with fail
  go_ret
  exact ⟨rfl, ext_trans (below_alloc _ _) (below_alloc _ _)⟩

theorem UpL.lt {ps : List (Int × Int)} (h : UpL ps) {i j : Nat} {x y x' y' : Int} (hij : i < j) (hi : ps[i]? = some (x, y)) (hj : ps[j]? = some (x', y')) : x < x' := by
  obtain ⟨hi1, hi2⟩ := List.getElem?_eq_some_iff.1 hi
  obtain ⟨hj1, hj2⟩ := List.getElem?_eq_some_iff.1 hj
  have := List.pairwise_iff_getElem.1 h i j hi1 hj1 hij
  rw [hi2, hj2] at this
  exact this

set_option maxHeartbeats 1000000 in
theorem search_any (a : Option Addr) (n cap : Nat) (xs : List (Int × Int)) (c : Int) (w : World) (hr : RowG PE w a n cap xs) (hs : UpL xs) (hbd : n ≤ 70368744177664) :
    Calls Try.prog 82 #[.slice a n cap, .int .u16 c, .func (.func 83) #[] #[]] w fun e w' => ∃ (p : Nat) (q : Bool), e = .returned (.tuple #[.int .i64 p, .bool q]) ∧ p ≤ n ∧ (∀ t x y, xs[t]? = some (x, y) → t < p → x < c) ∧ (∀ t x y, xs[t]? = some (x, y) → p ≤ t → c ≤ x) ∧ (q = true ↔ ∃ y, xs[p]? = some (c, y)) ∧ Below w.heap.size w w' := by
  have hl : Hid (xs.length = n) := hr.len
  have hcap := hr.cap_le
  go_enter Try.func82, Try.ntmps82
  go_wp2_with fail
  go_loopw [9, 10] (fun i j wr => ∃ p q : Nat, p ≤ q ∧ q ≤ n ∧ i = .int .i64 p ∧ j = .int .i64 q ∧ (∀ t x y, xs[t]? = some (x, y) → t < p → x < c) ∧ (∀ t x y, xs[t]? = some (x, y) → q ≤ t → c ≤ x) ∧ Below w.heap.size w wr) (fun i j _ => (intOf j).toNat - (intOf i).toNat)
  case atStart => exact ⟨0, n, by omega, by omega, rfl, rfl, fun t _ _ _ h => by omega, fun t x y h h' => by have := (List.getElem?_eq_some_iff.1 h).1; have := hl.out; omega, Below.refl _ _⟩
  case round =>
    obtain ⟨p, q, hpq, hqn, rfl, rfl, hlo, hhi, hbel⟩ := hrel
    by_cases hlt : p < q
    · have h1 : (p : Int) < (q : Int) := by omega
      obtain ⟨m, hm⟩ : ∃ m : Nat, m = (p + q) / 2 := ⟨_, rfl⟩
      have e3 : ((p : Int) + (q : Int)) / 2 = (m : Int) := by omega
      have h2 : m < n := by omega
      have h3 : (m : Int) < (n : Int) := by omega
      have h4 : p ≤ m ∧ m < q := by omega
      have HM : Hid (m = (p + q) / 2) := hm
      clear hm
      obtain ⟨b, off, rfl, _⟩ := hr.at (by omega)
      obtain ⟨X, Y, hX, _⟩ := hr.get2 m h2
      obtain ⟨c1, c2⟩ := (hr.below hbel).pair hX
      have HX : Hid (xs[m]? = some (X, Y)) := hX
      clear hX
      go_wp2_with fail
      refine (findF_any X Y c _).mono ?_
      rintro e w1 ⟨rfl, hb1⟩
      by_cases hXc : X < c
      · have hcm : cmpI X c = -1 := by simp [cmpI, hXc]
        rw [hcm]
        go_wp2
        go_roundw
        case rel =>
          refine ⟨m + 1, q, by omega, by omega, by go_num, rfl, fun t x y hx ht => ?_, hhi, ext_trans hbel hb1⟩
          by_cases hj : t < m
          · have := hs.lt hj hx HX.out; omega
          · obtain rfl : t = m := by omega
            have := HX.out; rw [hx] at this; simp at this; omega
        case measure => simp [intOf]; omega
      · have hcm : decide (cmpI X c < 0) = false := by simp [cmpI, hXc]; split <;> omega
        go_wp2
        go_roundw
        case rel =>
          refine ⟨p, m, by omega, by omega, rfl, rfl, hlo, fun t x y hx ht => ?_, ext_trans hbel hb1⟩
          by_cases hj : m < t
          · have := hs.lt hj HX.out hx; omega
          · obtain rfl : t = m := by omega
            have := HX.out; rw [hx] at this; simp at this; omega
        case measure => simp [intOf]; omega
    · obtain rfl : p = q := by omega
      by_cases hpn : p < n
      · have h1 : (p : Int) < (n : Int) := by omega
        obtain ⟨b, off, rfl, _⟩ := hr.at (by omega)
        obtain ⟨X, Y, hX, _⟩ := hr.get2 p hpn
        obtain ⟨c1, c2⟩ := (hr.below hbel).pair hX
        have HX : Hid (xs[p]? = some (X, Y)) := hX
        clear hX
        by_cases hXc : X = c
        · subst hXc
          go_wp2_with fail
          refine (findF_any X Y X _).mono ?_
          rintro e w1 ⟨rfl, hb1⟩
          have hcm : (cmpI X X == 0) = true := by simp [cmpI]
          go_wp2_with fail
          go_ret2
          refine ⟨p, true, rfl, hqn, hlo, hhi, ⟨fun _ => ⟨Y, HX.out⟩, fun _ => rfl⟩, ext_trans hbel hb1⟩
        · go_wp2_with fail
          refine (findF_any X Y c _).mono ?_
          rintro e w1 ⟨rfl, hb1⟩
          have hcm : (cmpI X c == 0) = false := by simp [cmpI]; split <;> (try split) <;> omega
          go_wp2_with fail
          go_ret2
          refine ⟨p, false, rfl, hqn, hlo, hhi, ⟨fun h => by simp at h, fun ⟨y, hy⟩ => ?_⟩, ext_trans hbel hb1⟩
          rw [HX.out] at hy; simp at hy; omega
      · have h1 : decide ((p : Int) < (n : Int)) = false := by simp; omega
        go_wp2_with fail
        go_ret2
        refine ⟨p, false, rfl, hqn, hlo, hhi, ⟨fun h => by simp at h, fun ⟨y, hy⟩ => ?_⟩, hbel⟩
        have := (List.getElem?_eq_some_iff.1 hy).1; have := hl.out; omega
end Go.Proofs.Ytdoemkncgfgkhaa
