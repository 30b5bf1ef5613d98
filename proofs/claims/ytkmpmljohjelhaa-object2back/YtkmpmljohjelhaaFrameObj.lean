/- From what a row hands over (an object that came in) to what the walks ask: its numbers, where its lists lie and what they say. -/
import Derived.Test.YtkmpmljohjelhaaObj
import Derived.Test.YtkmpmljohjelhaaJFrame
import Derived.Deep.Slices
namespace Go.Proofs.Ytkmpmljohjelhaa
open Go.RowKit Go.ChangeShapes Go.WideShapes
set_option maxRecDepth 100000

theorem cellsW1 : Try.prog.cellsOf 42 = 1 := by kernel_rfl
set_option maxRecDepth 100000 in
theorem open_wordsO {H : Type} {enc : TypeId × Value → H} {W : World} {base : Nat} {held : Bool} {fuel : Nat} {v : Value} {x : DataW H × List MemPlace}
    (h : DataW.trod enc Try.prog W base (fun _ => true) held fuel 26 [v] = some x) :
    ∃ (a : Option Addr) (n cap : Nat) (xs : List Int), v = .slice a n cap ∧ RowW W a n cap xs := by
  rcases Go.Deep.open_slice1 Try.underlying26 cellsW1 h with ⟨hcs, _⟩ | ⟨a, len, cap, m, n, V, D, Pl, hcs, _, hl, hm, hmm, hx, hc⟩
  · obtain rfl : v = .slice none 0 0 := by simpa using hcs
    exact ⟨none, 0, 0, [], rfl, RowW.nil _⟩
  · obtain rfl : v = .slice (some a) len cap := by simpa using hcs
    simp only [if_true] at hmm
    subst hmm
    have hv : ∀ i, i < m → ∃ z : Int, V i = .int .u16 z ∧ (0 ≤ z ∧ z < 65536) := by
      intro i hi
      obtain ⟨_, h0⟩ := hc i hi
      obtain ⟨z, e0, _, wz⟩ := DataW.trod_int Try.underlying42 h0
      have b0 := bounds_u16 wz
      exact ⟨z, by simpa using e0, by omega⟩
    have hspot : 0 < len → ∃ b off, a = ⟨b, off, none⟩ := fun hp => by
      have hc0 := (hc 0 (by omega)).1
      obtain ⟨b, off, spot⟩ := a
      have hs : spot = none := by simpa [Addr.add] using World.cell?_spot hc0
      subst hs
      exact ⟨b, off, rfl⟩
    refine ⟨some a, len, m, (List.range len).map (fun i => intOf (V i)), rfl, ⟨by simp, hl, hm, ?_, fun h => by simp at h, fun hp => ?_, fun ad had i hi => ?_⟩⟩
    · intro p hp
      obtain ⟨i, hi, rfl⟩ := List.mem_map.1 hp
      obtain ⟨z, e0, hb⟩ := hv i (by have := List.mem_range.1 hi; omega)
      rw [e0]; exact hb
    · obtain ⟨b, off, rfl⟩ := hspot hp
      exact ⟨b, off, rfl⟩
    · obtain rfl := Option.some.inj had
      obtain ⟨z, e0, hb⟩ := hv i (by omega)
      rw [(hc i (by omega)).1, e0]
      simp [List.getD, hi, e0, intOf]

theorem open_bytesO {H : Type} {enc : TypeId × Value → H} {W : World} {base : Nat} {held : Bool} {fuel : Nat} {v : Value} {x : DataW H × List MemPlace}
    (hf : DataW.trod enc Try.prog W base (fun _ => true) held fuel 29 [v] = some x) : ∃ (a : Option Addr) (n cap : Nat) (xs : List Int), v = .slice a n cap ∧ Row W a n cap xs := by
  rcases open_ints Try.underlying29 Try.underlying5 (by kernel_rfl) hf with ⟨hcs, _⟩ | ⟨x, l, c, zs, hcs, _, hl, hm, hz, _, hcell, hwz⟩
  · obtain rfl : v = .slice none 0 0 := by simpa using hcs
    exact ⟨_, _, _, _, rfl, row_of (zs := []) (.inl ⟨rfl, rfl, rfl, rfl⟩)⟩
  · obtain rfl : v = .slice (some x) l c := by simpa using hcs
    exact ⟨_, _, _, _, rfl, row_of (zs := zs) (.inr ⟨_, rfl, hl, hm, by simpa using hz, hcell, hwz⟩)⟩
theorem open_ob {H : Type} {enc : TypeId × Value → H} {W : World} {r : Reach} {b0 base : Nat} {held : Bool} {v : Value} {d : DataW H} {p : List MemPlace} (hv : Value.okWide Try.prog W r b0 32 v)
    (h : DataW.Trod enc Try.prog W base (fun _ => true) held 32 v d p) : ∃ x : Ob, v = .agg #[.int .u64 x.i, .int .i64 x.k, .int .u8 x.d, .slice x.a3 x.n3 x.m3, .slice x.a4 x.n4 x.m4, .slice x.a5 x.n5 x.m5, .slice x.a6 x.n6 x.m6, .int .i64 x.q, .int .i64 x.u, .int .i64 x.n, .slice x.a10 x.n10 x.m10, .slice x.a11 x.n11 x.m11, .slice x.a12 x.n12 x.m12] ∧ x.In W := by
  obtain ⟨i, k, x, q, u, n, a3, a4, a5, a6, a10, a11, a12, n3, m3, n4, m4, n5, m5, n6, m6, n10, m10, n11, m11, n12, m12, rfl, cs, hc⟩ := open_object hv h
  obtain ⟨f3, y3, g3⟩ := hc.r3
  obtain ⟨f4, y4, g4⟩ := hc.r4
  obtain ⟨f5, y5, g5⟩ := hc.r5
  obtain ⟨f6, y6, g6⟩ := hc.r6
  obtain ⟨f10, y10, g10⟩ := hc.r10
  obtain ⟨f11, y11, g11⟩ := hc.r11
  obtain ⟨f12, y12, g12⟩ := hc.r12
  obtain ⟨_, _, _, ps, e3, r3⟩ := open_pairs g3
  obtain ⟨_, _, _, va, e4, r4⟩ := open_wordsO g4
  obtain ⟨_, _, _, vb, e5, r5⟩ := open_wordsO g5
  obtain ⟨_, _, _, vc, e6, r6⟩ := open_wordsO g6
  obtain ⟨_, _, _, xs, e10, r10⟩ := open_bytesO g10
  obtain ⟨_, _, _, ws, e11, r11⟩ := open_wordsO g11
  obtain ⟨_, _, _, ls, e12, r12⟩ := open_ring g12
  simp only [Value.slice.injEq] at e3 e4 e5 e6 e10 e11 e12
  obtain ⟨rfl, rfl, rfl⟩ := e3
  obtain ⟨rfl, rfl, rfl⟩ := e4
  obtain ⟨rfl, rfl, rfl⟩ := e5
  obtain ⟨rfl, rfl, rfl⟩ := e6
  obtain ⟨rfl, rfl, rfl⟩ := e10
  obtain ⟨rfl, rfl, rfl⟩ := e11
  obtain ⟨rfl, rfl, rfl⟩ := e12
  exact ⟨⟨i, k, x, a3, n3, m3, a4, n4, m4, a5, n5, m5, a6, n6, m6, q, u, n, a10, n10, m10, a11, n11, m11, a12, n12, m12, ps, va, vb, vc, xs, ws, ls⟩, rfl, ⟨hc.bi, hc.bk, hc.bx, r3, r4, r5, r6, r10, r11, r12⟩⟩
end Go.Proofs.Ytkmpmljohjelhaa
