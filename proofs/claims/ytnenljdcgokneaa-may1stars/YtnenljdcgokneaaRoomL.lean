/- How many pairs a label that came in may have: what its slice takes is bounded by the form's own reach. -/
import Derived.Test.YtnenljdcgokneaaFrameL
import Derived.SizedLaws
namespace Go.Proofs.Ytnenljdcgokneaa
open Go.RowKit Go.ChangeShapes Go.WideShapes

theorem bytes39 : Try.prog.bytesOf 39 = 4 := by kernel_rfl
theorem label_room {H : Type} {enc : TypeId × Value → H} {W : World} {r : Reach} {b0 base : Nat} {held : Bool} {v : Value} {d : DataW H} {p : List MemPlace} (hv : Value.okWide Try.prog W r b0 24 v)
    (h : DataW.Trod enc Try.prog W base (fun _ => true) held 24 v d p) (hz : ∀ m ∈ d.weights Try.prog 24, m ≤ reachBytes) (x : Value) (a : Option Addr) (n cap : Nat) (e : v = .agg #[x, .slice a n cap]) : n < 35184372088832 := by
  obtain ⟨v0, v1, y0, y1, k, rfl, rfl, _, g0, g1⟩ := Joins.open_agg2 Try.underlying24 (by kernel_rfl) cells24 hv h
  obtain ⟨_, rfl⟩ : v0 = x ∧ v1 = .slice a n cap := by simpa using e
  rcases Go.Deep.open_slice_pairs Try.underlying22 Try.underlying39 cells29 rfl rfl cells25 cells5 g1 with ⟨hcs, _⟩ | ⟨a', len, cap', m, n', V0, V1, D0, D1, P0, P1, hcs, _, hl, hm, hmm, hx, _⟩
  · have : n = 0 := by
      simp only [List.cons.injEq, Value.slice.injEq] at hcs
      exact hcs.1.2.1
    omega
  · obtain ⟨_, rfl, _⟩ : a = some a' ∧ n = len ∧ cap = cap' := by simpa using hcs
    have h1 := hz ((((List.range n).map fun i => DataW.agg [D0 i, D1 i]).length + ((List.range (m - n)).map fun j => DataW.agg [D0 (n + j), D1 (n + j)]).length) * Try.prog.bytesOf 39) (by
      rw [hx]
      simp [DataW.weights, DataW.weightsEach, Try.underlying24, Try.underlying22])
    rw [bytes39, List.length_map, List.length_range] at h1
    have h2 := reachBytes_lt
    have h3 : (2 : Nat) ^ 47 = 140737488355328 := by decide
    omega
end Go.Proofs.Ytnenljdcgokneaa
