/- From what a row hands over (a slice of operations that came in) to what the walk asks; and the array of slices that the law keeps beside the memory. -/
import Derived.Test.YtdnlldmpigfadaaFrBegun
import Derived.Test.YtdnlldmpigfadaaFrame
import Derived.Lib.SmallJoins
import Derived.Deep.Slices
import Derived.OpenShut
namespace Go.Proofs.Ytdnlldmpigfadaa
open Go.RowKit Go.ChangeShapes Go.WideShapes

/-- The slice at a, of n operations, reads as these four numbers each. -/
structure OpsIn (w : World) (a : Option Addr) (n cap : Nat) (K F O B : Nat → Int) : Prop where
  lid : n ≤ cap ∧ cap ≤ 9223372036854775807
  spot : 0 < n → ∃ b off, a = some ⟨b, off, none⟩ ∧ ∀ i, i < n → w.cell? ⟨b, off + i * 4, none⟩ = some (.int .i64 (K i)) ∧ w.cell? ⟨b, off + i * 4 + 1, none⟩ = some (.int .i64 (F i)) ∧
    w.cell? ⟨b, off + i * 4 + 2, none⟩ = some (.int .i64 (O i)) ∧ w.cell? ⟨b, off + i * 4 + 3, none⟩ = some (.int .u8 (B i))
  bd : ∀ i, i < n → (-9223372036854775808 ≤ K i ∧ K i < 9223372036854775808) ∧ (-9223372036854775808 ≤ F i ∧ F i < 9223372036854775808) ∧ (-9223372036854775808 ≤ O i ∧ O i < 9223372036854775808) ∧ (0 ≤ B i ∧ B i < 256)
theorem OpsIn.below {w w' : World} {a : Option Addr} {n cap : Nat} {K F O B : Nat → Int} (h : OpsIn w a n cap K F O B) (hb : Below w.heap.size w w') : OpsIn w' a n cap K F O B := by
  refine ⟨h.lid, fun hn => ?_, h.bd⟩
  obtain ⟨b, off, rfl, hc⟩ := h.spot hn
  refine ⟨b, off, rfl, fun i hi => ?_⟩
  obtain ⟨h0, h1, h2, h3⟩ := hc i hi
  have hl := lt_of_cell h0
  exact ⟨(hb.cell hl).trans h0, (hb.cell (p := ⟨b, off + i * 4 + 1, none⟩) hl).trans h1, (hb.cell (p := ⟨b, off + i * 4 + 2, none⟩) hl).trans h2, (hb.cell (p := ⟨b, off + i * 4 + 3, none⟩) hl).trans h3⟩

theorem cellsOp : Try.prog.cellsOf 29 = 4 := by kernel_rfl
theorem cellsI : Try.prog.cellsOf 3 = 1 := by kernel_rfl
theorem cellsB : Try.prog.cellsOf 5 = 1 := by kernel_rfl
set_option maxRecDepth 100000 in
theorem open_ops {H : Type} {enc : TypeId × Value → H} {W : World} {r : Reach} {b0 base : Nat} {held : Bool} {v : Value} {d : DataW H} {p : List MemPlace} (hv : Value.okWide Try.prog W r b0 22 v)
    (h : DataW.Trod enc Try.prog W base (fun _ => true) held 22 v d p) : ∃ (a : Option Addr) (n cap : Nat) (K F O B : Nat → Int), v = .slice a n cap ∧ OpsIn W a n cap K F O B := by
  obtain ⟨a, n, cap, rfl⟩ := okWide_slice Try.underlying22 hv
  obtain ⟨fuel, hf⟩ := h
  have hf' : DataW.trod enc Try.prog W base (fun _ => true) held fuel 22 [.slice a n cap] = some (d, p) := by simpa [Value.cells] using hf
  rcases Go.Deep.open_slice Try.underlying22 hf' with ⟨hcs, _⟩ | ⟨ad, len, c, m, fu, D, Pl, hcs, _, hl, hm, hmm, _, hx⟩
  · simp only [List.cons.injEq, Value.slice.injEq, and_true] at hcs
    obtain ⟨rfl, rfl, rfl⟩ := hcs
    exact ⟨none, 0, 0, fun _ => 0, fun _ => 0, fun _ => 0, fun _ => 0, rfl, ⟨by omega, by omega⟩, fun h => absurd h (by omega), fun i hi => absurd hi (by omega)⟩
  · simp only [List.cons.injEq, Value.slice.injEq, and_true] at hcs
    obtain ⟨rfl, rfl, rfl⟩ := hcs
    simp only [if_true] at hmm
    subst hmm
    have each : ∀ i, i < m → ∃ q : Int × Int × Int × Int, W.cell? (ad.add (i * 4)) = some (.int .i64 q.1) ∧ W.cell? (ad.add (i * 4 + 1)) = some (.int .i64 q.2.1) ∧ W.cell? (ad.add (i * 4 + 2)) = some (.int .i64 q.2.2.1) ∧ W.cell? (ad.add (i * 4 + 3)) = some (.int .u8 q.2.2.2) ∧
        ((-9223372036854775808 ≤ q.1 ∧ q.1 < 9223372036854775808) ∧ (-9223372036854775808 ≤ q.2.1 ∧ q.2.1 < 9223372036854775808) ∧ (-9223372036854775808 ≤ q.2.2.1 ∧ q.2.2.1 < 9223372036854775808) ∧ (0 ≤ q.2.2.2 ∧ q.2.2.2 < 256)) := by
      intro i hi
      obtain ⟨cs', h1, h2⟩ := hx i hi
      rw [cellsOp] at h1
      obtain ⟨_, hlen, hcell⟩ := World.cells?_some h1
      obtain ⟨y0, y1, y2, y3, k, _, _, g0, g1, g2, g3⟩ := Joins.trod_struct4 Try.underlying29 h2
      match cs', hlen with
      | [v0, v1, v2, v3], _ =>
        simp [cellsI, cellsB] at g0 g1 g2 g3
        have e0 := hcell 0 (by omega)
        have e1 := hcell 1 (by omega)
        have e2 := hcell 2 (by omega)
        have e3 := hcell 3 (by omega)
        rw [Go.Deep.add_add] at e0 e1 e2 e3
        obtain ⟨z0, f0, _, b0⟩ := DataW.trod_int Try.underlying3 g0
        obtain ⟨z1, f1, _, b1⟩ := DataW.trod_int Try.underlying3 g1
        obtain ⟨z2, f2, _, b2⟩ := DataW.trod_int Try.underlying3 g2
        obtain ⟨z3, f3, _, b3⟩ := DataW.trod_int Try.underlying5 g3
        obtain rfl : v0 = .int .i64 z0 := by simpa using f0
        obtain rfl : v1 = .int .i64 z1 := by simpa using f1
        obtain rfl : v2 = .int .i64 z2 := by simpa using f2
        obtain rfl : v3 = .int .u8 z3 := by simpa using f3
        have k0 := bounds_i64 b0
        have k1 := bounds_i64 b1
        have k2 := bounds_i64 b2
        have k3 := bounds_u8 b3
        exact ⟨(z0, z1, z2, z3), by simpa using e0, by simpa using e1, by simpa using e2, by simpa using e3, show (_ ≤ z0 ∧ z0 < _) ∧ (_ ≤ z1 ∧ z1 < _) ∧ (_ ≤ z2 ∧ z2 < _) ∧ (_ ≤ z3 ∧ z3 < _) by omega⟩
    obtain ⟨q, hq⟩ := Go.Deep.choose_lt each
    refine ⟨some ad, n, m, fun i => (q i).1, fun i => (q i).2.1, fun i => (q i).2.2.1, fun i => (q i).2.2.2, rfl, ⟨hl, hm⟩, fun hp => ?_, fun i hi => (hq i (by omega)).2.2.2.2⟩
    have hc0 := (hq 0 (by omega)).1
    obtain ⟨b, off, spot⟩ := ad
    have hs : spot = none := by simpa [Addr.add] using World.cell?_spot hc0
    subst hs
    refine ⟨b, off, rfl, fun i hi => ?_⟩
    have ha : ∀ x, (⟨b, off, none⟩ : Addr).add x = ⟨b, off + x, none⟩ := fun x => by
      by_cases h : x = 0
      · subst h; simp [Addr.add]
      · simp [Addr.add, h]
    obtain ⟨h0, h1, h2, h3, _⟩ := hq i (by omega)
    rw [ha] at h0 h1 h2 h3
    exact ⟨h0, h1, h2, h3⟩

/-- An array of 512 slices, all nil. -/
theorem zero27 : ∃ Z : Array Value, Z.size = 512 ∧ (∀ i, i < 512 → Z[i]? = some (.slice none 0 0)) ∧ ∀ w, (zeroValue 27).run Try.prog w = .ok (.agg Z) w := by
  have h : (Try.prog.info? 27).map (fun i => i.zero) = some (some (.agg (Array.replicate 512 (.slice none 0 0)))) := by kernel_rfl
  obtain ⟨i, hi, hz⟩ := Option.map_eq_some_iff.1 h
  refine ⟨Array.replicate 512 (.slice none 0 0), by simp, fun i hi => by simp [hi], fun w => ?_⟩
  simp [zeroValue, typeInfo, hi, hz]
end Go.Proofs.Ytdnlldmpigfadaa
