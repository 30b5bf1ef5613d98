/- From what a row hands over (a label, a slice of pairs that came in) to what the walks ask. -/
import Derived.Test.YtldkelpngeopmaaLab
import Derived.Test.YtldkelpngeopmaaRows
import Derived.Lib.SmallJoins
import Derived.Deep.SlicePairs
import Derived.OpenShut
namespace Go.Proofs.Ytldkelpngeopmaa
open Go.RowKit Go.ChangeShapes Go.WideShapes
set_option maxRecDepth 100000

theorem cells24 : Try.prog.cellsOf 25 = 2 := by kernel_rfl
theorem cells29 : Try.prog.cellsOf 46 = 2 := by kernel_rfl
theorem cells25 : Try.prog.cellsOf 42 = 1 := by kernel_rfl
theorem cells5 : Try.prog.cellsOf 5 = 1 := by kernel_rfl

theorem open_pairs {H : Type} {enc : TypeId × Value → H} {W : World} {base : Nat} {held : Bool} {fuel : Nat} {v : Value} {x : DataW H × List MemPlace}
    (h : DataW.trod enc Try.prog W base (fun _ => true) held fuel 23 [v] = some x) : ∃ (a : Option Addr) (n cap : Nat) (xs : List (Int × Int)), v = .slice a n cap ∧ RowG PE W a n cap xs := by
  rcases Go.Deep.open_slice_pairs Try.underlying23 Try.underlying46 cells29 rfl rfl cells25 cells5 h with ⟨hcs, _⟩ | ⟨a, len, cap, m, n, V0, V1, D0, D1, P0, P1, hcs, _, hl, hm, hmm, _, hx⟩
  · obtain rfl : v = .slice none 0 0 := by simpa using hcs
    exact ⟨none, 0, 0, [], rfl, RowG.nil _ _⟩
  · obtain rfl : v = .slice (some a) len cap := by simpa using hcs
    simp only [if_true] at hmm
    subst hmm
    have hv : ∀ i, i < m → ∃ x y : Int, V0 i = .int .u16 x ∧ V1 i = .int .u8 y ∧ ((0 ≤ x ∧ x < 65536) ∧ 0 ≤ y ∧ y < 256) := by
      intro i hi
      obtain ⟨_, _, h0, h1⟩ := hx i hi
      obtain ⟨x, e0, _, wx⟩ := DataW.trod_int Try.underlying42 h0
      obtain ⟨y, e1, _, wy⟩ := DataW.trod_int Try.underlying5 h1
      have b0 := bounds_u16 wx
      have b1 := bounds_u8 wy
      exact ⟨x, y, by simpa using e0, by simpa using e1, by omega, by omega⟩
    have hspot : 0 < len → ∃ b off, a = ⟨b, off, none⟩ := fun hp => by
      have hc := (hx 0 (by omega)).1
      obtain ⟨b, off, spot⟩ := a
      have hs : spot = none := by simpa [Addr.add] using World.cell?_spot hc
      subst hs
      exact ⟨b, off, rfl⟩
    refine ⟨some a, len, m, (List.range len).map (fun i => (intOf (V0 i), intOf (V1 i))), rfl, by simp, hl, hm, ?_, fun h => by simp at h, fun hp => ?_, fun ad had i p hi j u hu => ?_⟩
    · intro p hp
      obtain ⟨i, hi, rfl⟩ := List.mem_map.1 hp
      obtain ⟨x, y, e0, e1, hb⟩ := hv i (by have := List.mem_range.1 hi; omega)
      rw [e0, e1]; exact hb
    · obtain ⟨b, off, rfl⟩ := hspot hp
      exact ⟨b, off, rfl⟩
    · obtain rfl := Option.some.inj had
      have hil : i < len := by
        have := (List.getElem?_eq_some_iff.1 hi).1
        simpa using this
      rw [List.getElem?_map, List.getElem?_range hil] at hi
      obtain rfl : (intOf (V0 i), intOf (V1 i)) = p := by simpa using hi
      obtain ⟨x, y, e0, e1, _⟩ := hv i (by omega)
      have hc := hx i (by omega)
      rw [e0, e1] at hu
      match j, hu with
      | 0, hu =>
        obtain rfl : Value.int .u16 x = u := by simpa [PE, intOf] using hu
        simpa [PE, e0] using hc.1
      | 1, hu =>
        obtain rfl : Value.int .u8 y = u := by simpa [PE, intOf] using hu
        simpa [PE, e1] using hc.2.1
      | j + 2, hu => simp [PE] at hu
set_option maxRecDepth 100000 in
theorem open_label {H : Type} {enc : TypeId × Value → H} {W : World} {r : Reach} {b0 base : Nat} {held : Bool} {v : Value} {d : DataW H} {p : List MemPlace} (hv : Value.okWide Try.prog W r b0 25 v)
    (h : DataW.Trod enc Try.prog W base (fun _ => true) held 25 v d p) : ∃ (x : Int) (a : Option Addr) (n cap : Nat) (xs : List (Int × Int)), v = .agg #[.int .u8 x, .slice a n cap] ∧ (0 ≤ x ∧ x < 256) ∧ RowG PE W a n cap xs := by
  obtain ⟨v0, v1, y0, y1, n, rfl, _, _, g0, g1⟩ := Joins.open_agg2 Try.underlying25 (by kernel_rfl) cells24 hv h
  obtain ⟨x, e0, _, wx⟩ := DataW.trod_int Try.underlying5 g0
  obtain ⟨a, m, cap, xs, rfl, hr⟩ := open_pairs g1
  have b := bounds_u8 wx
  obtain rfl : v0 = .int .u8 x := by simpa using e0
  exact ⟨x, a, m, cap, xs, rfl, by omega, hr⟩
set_option maxRecDepth 100000 in
theorem open_pairs_arg {H : Type} {enc : TypeId × Value → H} {W : World} {r : Reach} {b0 base : Nat} {held : Bool} {v : Value} {d : DataW H} {p : List MemPlace} (hv : Value.okWide Try.prog W r b0 23 v)
    (h : DataW.Trod enc Try.prog W base (fun _ => true) held 23 v d p) : ∃ (a : Option Addr) (n cap : Nat) (xs : List (Int × Int)), v = .slice a n cap ∧ RowG PE W a n cap xs := by
  obtain ⟨a, n, cap, rfl⟩ := okWide_slice Try.underlying23 hv
  obtain ⟨fuel, hf⟩ := h
  exact open_pairs (v := .slice a n cap) (by simpa [Value.cells] using hf)
end Go.Proofs.Ytldkelpngeopmaa
