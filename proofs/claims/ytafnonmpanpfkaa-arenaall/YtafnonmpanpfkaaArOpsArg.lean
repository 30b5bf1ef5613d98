/- From what a row hands over (a slice of operations that came in, each with bytes of its own) to what the walk asks. -/
import Derived.Test.YtafnonmpanpfkaaArMath
import Derived.Test.YtafnonmpanpfkaaFrame
import Derived.Test.YtafnonmpanpfkaaFrameB
import Derived.Lib.SmallJoins
import Derived.Deep.Slices
import Derived.OpenShut
namespace Go.Proofs.Ytafnonmpanpfkaa
open Go.RowKit Go.ChangeShapes Go.WideShapes
set_option maxRecDepth 100000

set_option linter.unusedVariables false

/-- An operation's id, and its bytes. -/
structure Oa where
  id : Int
  a : Option Addr
  n : Nat
  c : Nat
  xs : List Int
/-- The slice at a, of n operations, reads as a number, an id and a slice of bytes each. (F and O are not looked at: the shell's other operations have them.) -/
structure OpsIn (w : World) (a : Option Addr) (n cap : Nat) (K F O : Nat → Int) (B : Nat → Oa) : Prop where
  lid : n ≤ cap ∧ cap ≤ 9223372036854775807
  spot : 0 < n → ∃ b off, a = some ⟨b, off, none⟩ ∧ ∀ i, i < n → w.cell? ⟨b, off + i * 3, none⟩ = some (.int .i64 (K i)) ∧ w.cell? ⟨b, off + i * 3 + 1, none⟩ = some (.int .u64 (B i).id) ∧ w.cell? ⟨b, off + i * 3 + 2, none⟩ = some (.slice (B i).a (B i).n (B i).c)
  bd : ∀ i, i < n → (-9223372036854775808 ≤ K i ∧ K i < 9223372036854775808) ∧ U (B i).id
  row : ∀ i, i < n → Row w (B i).a (B i).n (B i).c (B i).xs
theorem OpsIn.below {w w' : World} {a : Option Addr} {n cap : Nat} {K F O : Nat → Int} {B : Nat → Oa} (h : OpsIn w a n cap K F O B) (hb : Below w.heap.size w w') : OpsIn w' a n cap K F O B := by
  refine ⟨h.lid, fun hn => ?_, h.bd, fun i hi => (h.row i hi).below hb⟩
  obtain ⟨b, off, rfl, hc⟩ := h.spot hn
  refine ⟨b, off, rfl, fun i hi => ?_⟩
  obtain ⟨h0, h1, h2⟩ := hc i hi
  have hl := lt_of_cell h0
  exact ⟨(hb.cell hl).trans h0, (hb.cell (p := ⟨b, off + i * 3 + 1, none⟩) hl).trans h1, (hb.cell (p := ⟨b, off + i * 3 + 2, none⟩) hl).trans h2⟩

theorem cellsOp : Try.prog.cellsOf 34 = 3 := by kernel_rfl
theorem cellsI : Try.prog.cellsOf 3 = 1 := by kernel_rfl
theorem cellsU : Try.prog.cellsOf 31 = 1 := by kernel_rfl
theorem cellsS : Try.prog.cellsOf 32 = 1 := by kernel_rfl
theorem trod_struct3a {H : Type} {enc : TypeId × Value → H} {P : Program} {w : World} {base : Nat} {spare : Nat → Bool} {held : Bool} {t : TypeId} {f0 f1 f2 : Field} {fuel : Nat} {cs : List Value} {x : DataW H × List MemPlace} (ht : P.underlying t = some (.struct #[f0, f1, f2])) (h : DataW.trod enc P w base spare held fuel t cs = some x) :
    ∃ y0 y1 y2 n, DataW.trod enc P w base spare held n f0.type ((cs.drop f0.offset).take (P.cellsOf f0.type)) = some y0 ∧
      DataW.trod enc P w base spare held n f1.type ((cs.drop f1.offset).take (P.cellsOf f1.type)) = some y1 ∧ DataW.trod enc P w base spare held n f2.type ((cs.drop f2.offset).take (P.cellsOf f2.type)) = some y2 := by
  obtain ⟨xs, n, _, rfl, hl, hlen, hf⟩ := DataW.trod_struct ht h
  match xs, hlen with
  | [y0, y1, y2], _ => exact ⟨y0, y1, y2, n, by simpa using hf 0 f0 rfl, by simpa using hf 1 f1 rfl, by simpa using hf 2 f2 rfl⟩
theorem bytes_cell {H : Type} {enc : TypeId × Value → H} {W : World} {base fuel : Nat} {held : Bool} {v : Value} {x : DataW H × List MemPlace} (hf : DataW.trod enc Try.prog W base (fun _ => true) held fuel 32 [v] = some x) :
    ∃ (a : Option Addr) (n cap : Nat) (xs : List Int), v = .slice a n cap ∧ Row W a n cap xs := by
  rcases open_ints Try.underlying32 Try.underlying5 (by kernel_rfl) hf with ⟨hcs, _⟩ | ⟨x, l, c, zs, hcs, _, hl, hm, hz, _, hcell, hwz⟩
  · simp at hcs
    exact ⟨_, _, _, _, hcs, row_of (zs := []) (.inl ⟨rfl, rfl, rfl, rfl⟩)⟩
  · simp at hcs
    exact ⟨_, _, _, _, hcs, row_of (zs := zs) (.inr ⟨_, rfl, hl, hm, by simpa using hz, hcell, hwz⟩)⟩
set_option maxRecDepth 100000 in
theorem open_ops {H : Type} {enc : TypeId × Value → H} {W : World} {r : Reach} {b0 base : Nat} {held : Bool} {v : Value} {d : DataW H} {p : List MemPlace} (hv : Value.okWide Try.prog W r b0 22 v)
    (h : DataW.Trod enc Try.prog W base (fun _ => true) held 22 v d p) : ∃ (a : Option Addr) (n cap : Nat) (K F O : Nat → Int) (B : Nat → Oa), v = .slice a n cap ∧ OpsIn W a n cap K F O B := by
  obtain ⟨a, n, cap, rfl⟩ := okWide_slice Try.underlying22 hv
  obtain ⟨fuel, hf⟩ := h
  have hf' : DataW.trod enc Try.prog W base (fun _ => true) held fuel 22 [.slice a n cap] = some (d, p) := by simpa [Value.cells] using hf
  rcases Go.Deep.open_slice Try.underlying22 hf' with ⟨hcs, _⟩ | ⟨ad, len, c, m, fu, D, Pl, hcs, _, hl, hm, hmm, _, hx⟩
  · simp only [List.cons.injEq, Value.slice.injEq, and_true] at hcs
    obtain ⟨rfl, rfl, rfl⟩ := hcs
    exact ⟨none, 0, 0, fun _ => 0, fun _ => 0, fun _ => 0, fun _ => ⟨0, none, 0, 0, []⟩, rfl, ⟨by omega, by omega⟩, fun h => absurd h (by omega), fun i hi => absurd hi (by omega), fun i hi => absurd hi (by omega)⟩
  · simp only [List.cons.injEq, Value.slice.injEq, and_true] at hcs
    obtain ⟨rfl, rfl, rfl⟩ := hcs
    simp only [if_true] at hmm
    subst hmm
    have each : ∀ i, i < m → ∃ q : Int × Oa, W.cell? (ad.add (i * 3)) = some (.int .i64 q.1) ∧ W.cell? (ad.add (i * 3 + 1)) = some (.int .u64 q.2.id) ∧
        W.cell? (ad.add (i * 3 + 2)) = some (.slice q.2.a q.2.n q.2.c) ∧ Row W q.2.a q.2.n q.2.c q.2.xs ∧
        ((-9223372036854775808 ≤ q.1 ∧ q.1 < 9223372036854775808) ∧ U q.2.id) := by
      intro i hi
      obtain ⟨cs', h1, h2⟩ := hx i hi
      rw [cellsOp] at h1
      obtain ⟨_, hlen, hcell⟩ := World.cells?_some h1
      obtain ⟨y0, y1, y2, k, g0, g3, g4⟩ := trod_struct3a Try.underlying34 h2
      match cs', hlen with
      | [v0, v3, v4], _ =>
        simp [cellsI, cellsU, cellsS] at g0 g3 g4
        have e0 := hcell 0 (by omega)
        have e3 := hcell 1 (by omega)
        have e4 := hcell 2 (by omega)
        rw [Go.Deep.add_add] at e0 e3 e4
        obtain ⟨z0, f0, _, b0⟩ := DataW.trod_int Try.underlying3 g0
        obtain ⟨z3, f3, _, b3⟩ := DataW.trod_int Try.underlying31 g3
        obtain ⟨za, zn, zc, zx, rfl, hrow⟩ := bytes_cell g4
        obtain rfl : v0 = .int .i64 z0 := by simpa using f0
        obtain rfl : v3 = .int .u64 z3 := by simpa using f3
        have k0 := bounds_i64 b0
        have k3 := bounds_u64 b3
        exact ⟨(z0, ⟨z3, za, zn, zc, zx⟩), by simpa using e0, by simpa using e3, by simpa using e4, hrow, show (_ ≤ z0 ∧ z0 < _) ∧ (0 ≤ z3 ∧ z3 < 18446744073709551616) by omega⟩
    haveI : Inhabited (Int × Oa) := ⟨(0, ⟨0, none, 0, 0, []⟩)⟩
    obtain ⟨q, hq⟩ := Go.Deep.choose_lt each
    refine ⟨some ad, n, m, fun i => (q i).1, fun _ => 0, fun _ => 0, fun i => (q i).2, rfl, ⟨hl, hm⟩, fun hp => ?_, fun i hi => (hq i (by omega)).2.2.2.2, fun i hi => (hq i (by omega)).2.2.2.1⟩
    have hc0 := (hq 0 (by omega)).1
    obtain ⟨b, off, spot⟩ := ad
    have hs : spot = none := by simpa [Addr.add] using World.cell?_spot hc0
    subst hs
    refine ⟨b, off, rfl, fun i hi => ?_⟩
    have ha : ∀ x, (⟨b, off, none⟩ : Addr).add x = ⟨b, off + x, none⟩ := fun x => by
      by_cases h : x = 0
      · subst h; simp [Addr.add]
      · simp [Addr.add, h]
    obtain ⟨h0, h1, h2, _⟩ := hq i (by omega)
    rw [ha] at h0 h1 h2
    exact ⟨h0, h1, h2⟩
end Go.Proofs.Ytafnonmpanpfkaa
