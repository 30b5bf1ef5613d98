/- From what a row hands over (a label of sets that came in) to what the walks ask: its three lists, and how long they may be by the form's own reach. -/
import Derived.Test.YtdoemkncgfgkhaaSv
import Derived.Test.YtdoemkncgfgkhaaFrame
import Derived.Test.YtdoemkncgfgkhaaRows
import Derived.Lib.SmallJoins
import Derived.Deep.Slices
import Derived.OpenShut
import Derived.SizedLaws
namespace Go.Proofs.Ytdoemkncgfgkhaa
open Go.RowKit Go.ChangeShapes Go.WideShapes
set_option maxRecDepth 100000

theorem cellsS : Try.prog.cellsOf 27 = 3 := by kernel_rfl
theorem cellsU : Try.prog.cellsOf 38 = 1 := by kernel_rfl
theorem bytesU : Try.prog.bytesOf 38 = 2 := by kernel_rfl

set_option maxRecDepth 100000 in
theorem open_words {H : Type} {enc : TypeId × Value → H} {W : World} {base : Nat} {held : Bool} {fuel : Nat} {v : Value} {x : DataW H × List MemPlace}
    (h : DataW.trod enc Try.prog W base (fun _ => true) held fuel 25 [v] = some x) :
    ∃ (a : Option Addr) (n cap : Nat) (xs : List Int), v = .slice a n cap ∧ RowW W a n cap xs ∧ ((∀ m ∈ x.1.weights Try.prog 25, m ≤ reachBytes) → n < 70368744177664) := by
  rcases Go.Deep.open_slice1 Try.underlying25 cellsU h with ⟨hcs, _⟩ | ⟨a, len, cap, m, n, V, D, Pl, hcs, _, hl, hm, hmm, hx, hc⟩
  · obtain rfl : v = .slice none 0 0 := by simpa using hcs
    exact ⟨none, 0, 0, [], rfl, RowW.nil _, fun _ => by omega⟩
  · obtain rfl : v = .slice (some a) len cap := by simpa using hcs
    simp only [if_true] at hmm
    subst hmm
    have hv : ∀ i, i < m → ∃ z : Int, V i = .int .u16 z ∧ (0 ≤ z ∧ z < 65536) := by
      intro i hi
      obtain ⟨_, h0⟩ := hc i hi
      obtain ⟨z, e0, _, wz⟩ := DataW.trod_int Try.underlying38 h0
      have b0 := bounds_u16 wz
      exact ⟨z, by simpa using e0, by omega⟩
    have hspot : 0 < len → ∃ b off, a = ⟨b, off, none⟩ := fun hp => by
      have hc0 := (hc 0 (by omega)).1
      obtain ⟨b, off, spot⟩ := a
      have hs : spot = none := by simpa [Addr.add] using World.cell?_spot hc0
      subst hs
      exact ⟨b, off, rfl⟩
    refine ⟨some a, len, m, (List.range len).map (fun i => intOf (V i)), rfl, ⟨by simp, hl, hm, ?_, fun h => by simp at h, fun hp => ?_, fun ad had i hi => ?_⟩, fun hz => ?_⟩
    · intro p hp
      obtain ⟨i, hi, rfl⟩ := List.mem_map.1 hp
      obtain ⟨z, e0, hb⟩ := hv i (by have := List.mem_range.1 hi; omega)
      rw [e0]; exact hb
    · obtain ⟨b, off, rfl⟩ := hspot hp
      exact ⟨b, off, rfl⟩
    · obtain rfl := Option.some.inj had
      obtain ⟨z, e0, hb⟩ := hv i (by omega)
      rw [(hc i (by omega)).1, e0]
      simp [List.getD, hi, e0, intOf]
    · have h1 := hz ((((List.range len).map D).length + ((List.range (m - len)).map fun j => D (len + j)).length) * Try.prog.bytesOf 38) (by
        rw [hx]
        simp [DataW.weights, Try.underlying25])
      rw [bytesU, List.length_map, List.length_range] at h1
      have h2 := reachBytes_lt
      have h3 : (2 : Nat) ^ 47 = 140737488355328 := by decide
      omega
set_option maxRecDepth 100000 in
theorem open_sets {H : Type} {enc : TypeId × Value → H} {W : World} {r : Reach} {b0 base : Nat} {held : Bool} {v : Value} {d : DataW H} {p : List MemPlace} (hv : Value.okWide Try.prog W r b0 27 v)
    (h : DataW.Trod enc Try.prog W base (fun _ => true) held 27 v d p) :
    ∃ x : Sv, v = .agg #[.slice x.a1 x.n1 x.c1, .slice x.a2 x.n2 x.c2, .slice x.a3 x.n3 x.c3] ∧ x.In W ∧ ((∀ m ∈ d.weights Try.prog 27, m ≤ reachBytes) → x.n1 < 70368744177664 ∧ x.n2 < 70368744177664 ∧ x.n3 < 70368744177664) := by
  obtain ⟨v0, v1, v2, y0, y1, y2, n, rfl, rfl, _, g0, g1, g2⟩ := Joins.open_agg3 Try.underlying27 (by kernel_rfl) cellsS hv h
  obtain ⟨a1, n1, c1, xs, rfl, r1, z1⟩ := open_words g0
  obtain ⟨a2, n2, c2, ys, rfl, r2, z2⟩ := open_words g1
  obtain ⟨a3, n3, c3, zs, rfl, r3, z3⟩ := open_words g2
  refine ⟨⟨a1, n1, c1, xs, a2, n2, c2, ys, a3, n3, c3, zs⟩, rfl, ⟨r1, r2, r3⟩, fun hz => ⟨z1 fun m hm => hz m ?_, z2 fun m hm => hz m ?_, z3 fun m hm => hz m ?_⟩⟩
  · simp [DataW.weights, Try.underlying27]
    exact DataW.weights_mem_each (j := 0) (t := 25) rfl rfl m hm
  · simp [DataW.weights, Try.underlying27]
    exact DataW.weights_mem_each (j := 1) (t := 25) rfl rfl m hm
  · simp [DataW.weights, Try.underlying27]
    exact DataW.weights_mem_each (j := 2) (t := 25) rfl rfl m hm
end Go.Proofs.Ytdoemkncgfgkhaa
