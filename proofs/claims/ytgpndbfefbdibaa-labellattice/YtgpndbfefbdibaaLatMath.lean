/- LabelLattice answers true: what is so of labels, plainly. -/
import Derived.Test.YtgpndbfefbdibaaLabTwo
namespace Go.Proofs.Ytgpndbfefbdibaa
open Go.RowKit
set_option linter.unusedVariables false

theorem fl_refl (d : Int) (xs : List (Int × Int)) : FlL d xs d xs := fun _ => Int.le_refl _
theorem fl_anti {d e : Int} {xs ys : List (Int × Int)} (hx : CanL d xs) (hy : CanL e ys) (nx : ∀ p ∈ xs, 0 ≤ p.1) (ny : ∀ p ∈ ys, 0 ≤ p.1) (h : FlL d xs e ys) (k : FlL e ys d xs) : d = e ∧ xs = ys := by
  have hde : d = e := by
    have h1 := h (-1); have h2 := k (-1)
    rw [atL_none nx, atL_none ny] at h1 h2
    omega
  subst hde
  exact ⟨rfl, can_ext hx hy fun c => Int.le_antisymm (h c) (k c)⟩
theorem lat_facts {d1 d2 d3 : Int} {xs ys vs : List (Int × Int)} (hx : CanL d1 xs) (hy : CanL d2 ys) (nx : ∀ p ∈ xs, 0 ≤ p.1) (ny : ∀ p ∈ ys, 0 ≤ p.1) :
    FlL d1 xs d1 xs ∧ (FlL d1 xs d2 ys → FlL d2 ys d1 xs → d1 = d2 ∧ xs = ys) ∧ (FlL d1 xs d2 ys → FlL d2 ys d3 vs → FlL d1 xs d3 vs) ∧
    FlL d1 xs (max d1 d2) (comb max d1 d2 xs ys) ∧ FlL d2 ys (max d1 d2) (comb max d1 d2 xs ys) ∧ FlL (min d1 d2) (comb min d1 d2 xs ys) d1 xs ∧ FlL (min d1 d2) (comb min d1 d2 xs ys) d2 ys ∧
    (FlL d1 xs d3 vs → FlL d2 ys d3 vs → FlL (max d1 d2) (comb max d1 d2 xs ys) d3 vs) ∧ (FlL d3 vs d1 xs → FlL d3 vs d2 ys → FlL d3 vs (min d1 d2) (comb min d1 d2 xs ys)) := by
  have hj := comb_at max d1 d2 hx.1 hy.1
  have hm := comb_at min d1 d2 hx.1 hy.1
  refine ⟨fl_refl _ _, fl_anti hx hy nx ny, fun h k c => Int.le_trans (h c) (k c), fun c => ?_, fun c => ?_, fun c => ?_, fun c => ?_, fun h k c => ?_, fun h k c => ?_⟩
  · rw [hj]; omega
  · rw [hj]; omega
  · rw [hm]; omega
  · rw [hm]; omega
  · rw [hj]; have := h c; have := k c; omega
  · rw [hm]; have := h c; have := k c; omega
theorem lat_eqs {d1 d2 d3 : Int} {xs ys vs : List (Int × Int)} (hx : CanL d1 xs) (hy : CanL d2 ys) (hv : CanL d3 vs) (lx : LvL d1 xs) (ly : LvL d2 ys) (lv : LvL d3 vs) (nx : ∀ p ∈ xs, 0 ≤ p.1) (ny : ∀ p ∈ ys, 0 ≤ p.1) (nz : ∀ p ∈ comb max d1 d2 xs ys, 0 ≤ p.1) :
    (max d1 d2 = max d2 d1 ∧ comb max d1 d2 xs ys = comb max d2 d1 ys xs) ∧
    (max d1 (max d2 d3) = max (max d1 d2) d3 ∧ comb max d1 (max d2 d3) xs (comb max d2 d3 ys vs) = comb max (max d1 d2) d3 (comb max d1 d2 xs ys) vs) ∧
    (max d1 (min d1 d2) = d1 ∧ comb max d1 (min d1 d2) xs (comb min d1 d2 xs ys) = xs) ∧
    (min d1 (max d1 d2) = d1 ∧ comb min d1 (max d1 d2) xs (comb max d1 d2 xs ys) = xs) ∧
    (FlL d1 xs d2 ys ↔ max d1 d2 = d2 ∧ comb max d1 d2 xs ys = ys) ∧ LvL (max d2 d3) (comb max d2 d3 ys vs) ∧ True := by
  have hj := comb_at max d1 d2 hx.1 hy.1
  have hm := comb_at min d1 d2 hx.1 hy.1
  have cj := comb_can max d1 d2 hx.1 hy.1
  have cm := comb_can min d1 d2 hx.1 hy.1
  have ext : ∀ {d e : Int} {us ws : List (Int × Int)}, CanL d us → CanL e ws → d = e → (∀ c, atL d us c = atL e ws c) → d = e ∧ us = ws := fun h1 h2 e h3 => by
    subst e
    exact ⟨rfl, can_ext h1 h2 h3⟩
  refine ⟨ext cj (comb_can max d2 d1 hy.1 hx.1) (by omega) fun c => ?_, ext (comb_can max d1 (max d2 d3) hx.1 (comb_can max d2 d3 hy.1 hv.1).1) (comb_can max (max d1 d2) d3 cj.1 hv.1) (by omega) fun c => ?_, ext (comb_can max d1 (min d1 d2) hx.1 cm.1) hx (by omega) fun c => ?_, ext (comb_can min d1 (max d1 d2) hx.1 cj.1) hx (by omega) fun c => ?_, ⟨fun h => ?_, fun h c => ?_⟩, comb_lv max_lv ly lv, trivial⟩
  · rw [hj, comb_at max d2 d1 hy.1 hx.1]; omega
  · rw [comb_at max d1 (max d2 d3) hx.1 (comb_can max d2 d3 hy.1 hv.1).1, comb_at max d2 d3 hy.1 hv.1, comb_at max (max d1 d2) d3 cj.1 hv.1, hj]; omega
  · rw [comb_at max d1 (min d1 d2) hx.1 cm.1, hm]; omega
  · rw [comb_at min d1 (max d1 d2) hx.1 cj.1, hj]; omega
  · have h1 := h (-1)
    rw [atL_none nx, atL_none ny] at h1
    exact ext cj hy (by omega) fun c => by rw [hj]; have := h c; omega
  · have h1 := hj c
    rw [h.2, h.1] at h1
    omega
end Go.Proofs.Ytgpndbfefbdibaa
