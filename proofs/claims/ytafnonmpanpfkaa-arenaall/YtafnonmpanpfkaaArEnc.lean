/- Lists of numbers, of bytes and of strings as rows of one cell each. -/
import Derived.Test.YtafnonmpanpfkaaPgAppend
import Derived.Test.YtafnonmpanpfkaaRings
import Derived.Test.YtafnonmpanpfkaaRgRead
import Derived.Test.YtafnonmpanpfkaaNmPath
import Derived.Test.YtafnonmpanpfkaaNum
namespace Go.Proofs.Ytafnonmpanpfkaa
open Go.RowKit
set_option maxRecDepth 100000

def EQ : Enc Int := ⟨1, by decide, fun x => [.int .u64 x], fun _ => rfl, fun x u hu => by simp at hu; subst hu; rfl, fun x => 0 ≤ x ∧ x < 18446744073709551616⟩
def EB : Enc Int := ⟨1, by decide, fun x => [.int .u8 x], fun _ => rfl, fun x u hu => by simp at hu; subst hu; rfl, fun x => 0 ≤ x ∧ x < 256⟩
def ES : Enc (List Int) := ⟨1, by decide, fun x => [.string (strOfNums x)], fun _ => rfl, fun x u hu => by simp at hu; subst hu; rfl, Byt⟩
section
variable {w w' : World} {a : Option Addr} {n cap : Nat}
theorem RowG.q {xs : List Int} (h : RowG EQ w a n cap xs) : RowQ w a n cap xs := by
  obtain ⟨h1, h2, h3, h4, h5, h6, h7⟩ := h
  refine ⟨h1, h2, h3, h4, h5, h6, fun x hx i hi => ?_⟩
  have hl : i < xs.length := by omega
  have := h7 x hx i xs[i] (List.getElem?_eq_getElem hl) 0 (.int .u64 xs[i]) rfl
  rw [List.getD_eq_getElem?_getD, List.getElem?_eq_getElem hl]
  simpa [EQ] using this
theorem RowG.b {xs : List Int} (h : RowG EB w a n cap xs) : Row w a n cap xs := by
  obtain ⟨h1, h2, h3, h4, h5, h6, h7⟩ := h
  refine ⟨h1, h2, h3, h4, h5, h6, fun x hx i hi => ?_⟩
  have hl : i < xs.length := by omega
  have := h7 x hx i xs[i] (List.getElem?_eq_getElem hl) 0 (.int .u8 xs[i]) rfl
  rw [List.getD_eq_getElem?_getD, List.getElem?_eq_getElem hl]
  simpa [EB] using this
theorem Row.g {xs : List Int} (h : Row w a n cap xs) : RowG EB w a n cap xs := by
  obtain ⟨h1, h2, h3, h4, h5, h6, h7⟩ := h
  refine ⟨h1, h2, h3, h4, h5, h6, fun x hx i v hi j u hj => ?_⟩
  have hl := (List.getElem?_eq_some_iff.1 hi).1
  have := h7 x hx i (by omega)
  rw [List.getD_eq_getElem?_getD, hi] at this
  simp only [EB] at hj ⊢
  cases j with
  | zero =>
    simp at hj
    subst hj
    simpa using this
  | succ j => simp at hj
theorem RowG.str {b off : Nat} {ls : List (List Int)} (h : RowG ES w (some ⟨b, off, none⟩) n cap ls) {i : Nat} {xs : List Int} (hi : ls[i]? = some xs) : w.cell? ⟨b, off + i, none⟩ = some (.string (strOfNums xs)) := by
  have := h.cells i xs hi 0 _ rfl
  simpa [ES] using this
theorem RowG.num {b off : Nat} {ls : List Int} (h : RowG EQ w (some ⟨b, off, none⟩) n cap ls) {i : Nat} {x : Int} (hi : ls[i]? = some x) : w.cell? ⟨b, off + i, none⟩ = some (.int .u64 x) := by
  have := h.cells i x hi 0 _ rfl
  simpa [EQ] using this
end
theorem infoEQ : (Try.prog.info? 31).map (fun i => (i.zero, i.size, i.bytes)) = some (some (.int .u64 0), EQ.k, 8) := infoQ
theorem infoEB : (Try.prog.info? 5).map (fun i => (i.zero, i.size, i.bytes)) = some (some (.int .u8 0), EB.k, 1) := info5
theorem infoES : (Try.prog.info? 9).map (fun i => (i.zero, i.size, i.bytes)) = some (some (.string .empty), ES.k, 16) := by kernel_rfl
end Go.Proofs.Ytafnonmpanpfkaa
