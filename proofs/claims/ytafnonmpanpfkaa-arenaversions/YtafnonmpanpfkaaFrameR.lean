/- From what a row hands over (a slice of slices of bytes that came in) to what the walks ask. -/
import Derived.Test.YtafnonmpanpfkaaFrame
import Derived.Test.YtafnonmpanpfkaaRings
import Derived.Deep.Matrix
import Derived.OpenShut
namespace Go.Proofs.Ytafnonmpanpfkaa
open Go.RowKit Go.ChangeShapes Go.WideShapes
set_option maxRecDepth 100000

theorem cellsRb : Try.prog.cellsOf 32 = 1 := by kernel_rfl
theorem cellsR8 : Try.prog.cellsOf 5 = 1 := by kernel_rfl
set_option maxHeartbeats 1000000 in
theorem open_ring {H : Type} {enc : TypeId × Value → H} {W : World} {base : Nat} {held : Bool} {fuel : Nat} {v : Value} {x : DataW H × List MemPlace}
    (h : DataW.trod enc Try.prog W base (fun _ => true) held fuel 49 [v] = some x) : ∃ (a : Option Addr) (n cap : Nat) (ps : List Le), v = .slice a n cap ∧ RowR W a n cap ps := by
  rcases Go.Deep.open_int_rows Try.underlying49 Try.underlying32 Try.underlying5 cellsRb cellsR8 h with ⟨hcs, _⟩ | ⟨a, len, cap, A, L, C, Z, hcs, _, hl, hm, _, hx⟩
  · obtain rfl : v = .slice none 0 0 := by simpa using hcs
    exact ⟨none, 0, 0, [], rfl, RowR.nil _⟩
  · obtain rfl : v = .slice (some a) len cap := by simpa using hcs
    have hspot : 0 < len → ∃ b off, a = ⟨b, off, none⟩ := fun hp => by
      have hc := (hx 0 (by omega)).1
      obtain ⟨b, off, spot⟩ := a
      have hs : spot = none := by simpa [Addr.add] using World.cell?_spot hc
      subst hs
      exact ⟨b, off, rfl⟩
    have hrow : ∀ i, i < len → Row W (A i) (L i) (C i) ((Z i).take (L i)) := by
      intro i hi
      obtain ⟨_, h1, h2, h3, h4, h5, h6⟩ := hx i (by omega)
      refine row_of (zs := Z i) ?_
      cases hA : A i with
      | none =>
        have hC := h5 hA
        exact .inl ⟨rfl, by omega, hC, List.eq_nil_of_length_eq_zero (by omega)⟩
      | some y =>
        exact .inr ⟨y, rfl, h1, h2, h3, fun k hk => (h6 y hA).2 k (by omega), h4⟩
    refine ⟨some a, len, cap, (List.range len).map (fun i => ⟨A i, L i, C i, (Z i).take (L i)⟩), rfl, ⟨by simp, hl, hm, ReL.all _, fun h => by simp at h, fun hp => ?_, fun ad had i p hi j u hu => ?_⟩, fun p hp => ?_⟩
    · obtain ⟨b, off, rfl⟩ := hspot hp
      exact ⟨b, off, rfl⟩
    · obtain rfl := Option.some.inj had
      have hil : i < len := by
        have := (List.getElem?_eq_some_iff.1 hi).1
        simpa using this
      rw [List.getElem?_map, List.getElem?_range hil] at hi
      simp only [Option.map_some, Option.some.injEq] at hi
      subst hi
      match j, hu with
      | 0, hu =>
        obtain rfl : Value.slice (A i) (L i) (C i) = u := by simpa [ReL] using hu
        simpa [ReL] using (hx i (by omega)).1
      | j + 1, hu => simp [ReL] at hu
    · obtain ⟨i, hi, rfl⟩ := List.mem_map.1 hp
      exact hrow i (by simpa using hi)
set_option maxRecDepth 100000 in
theorem open_ring_arg {H : Type} {enc : TypeId × Value → H} {W : World} {r : Reach} {b0 base : Nat} {held : Bool} {v : Value} {d : DataW H} {p : List MemPlace} (hv : Value.okWide Try.prog W r b0 49 v)
    (h : DataW.Trod enc Try.prog W base (fun _ => true) held 49 v d p) : ∃ (a : Option Addr) (n cap : Nat) (ps : List Le), v = .slice a n cap ∧ RowR W a n cap ps := by
  obtain ⟨a, n, cap, rfl⟩ := okWide_slice Try.underlying49 hv
  obtain ⟨fuel, hf⟩ := h
  exact open_ring (v := .slice a n cap) (by simpa [Value.cells] using hf)
end Go.Proofs.Ytafnonmpanpfkaa
