/- A byte is written into letters of the call's own: what is left. -/
import Derived.Test.YtkmpmljohjelhaaRings
namespace Go.Proofs.Ytkmpmljohjelhaa
open Go.RowKit
set_option maxRecDepth 100000
set_option linter.unusedVariables false

theorem Byt.setR {xs : List Int} (h : Byt xs) (i : Nat) (v : Int) (hv : 0 ≤ v ∧ v < 256) : Byt (xs.set i v) := fun x hx => (List.mem_or_eq_of_mem_set hx).elim (h x) (fun e => e ▸ hv)
theorem Own.setR {e : TypeId} {w : World} {B g n cap : Nat} {xs : List Int} (h : Own e w B g n cap xs) (i : Nat) (v : Int) (hv : 0 ≤ v ∧ v < 256) : Own e (w.setCell ⟨g, i, none⟩ (.int .u8 v)) B g n cap (xs.set i v) := by
  obtain ⟨cur, hg, hB, hn, hm, hs, ht⟩ := h.block
  refine Own.of_block (cur := cur.toList.set i (.int .u8 v)) hB ?_ hn hm (by simp [hs]) (by simp [h.1]) (h.2.1.setR i v hv) ?_
  · have := heap_setCell_same w g i cur e (.int .u8 v) hg
    rw [this]; congr 2
    apply Array.ext'
    rw [Array.toList_setIfInBounds]
  · rw [List.map_set, ← ht, List.take_set]
theorem Own.meltR {e : TypeId} {w : World} {B g n cap : Nat} {xs : List Int} (h : Own e w B g n cap xs) (i : Nat) : w.frozen? ⟨g, i, none⟩ = false := by
  obtain ⟨cur, hg, _⟩ := h.block
  simp [World.frozen?, hg]
theorem grownBy_setCell (w : World) (g i : Nat) (v : Value) : w.grownBy (w.setCell ⟨g, i, none⟩ v) (some g) :=
  ⟨rfl, rfl, rfl, by simp [World.setCell], fun k _ hn => Below.heap_setCell _ _ _ _ (fun e => hn (by rw [e]))⟩
theorem grownBy_trans {a b c : World} {g : Nat} (h : a.grownBy b (some g)) (k : b.grownBy c (some g)) : a.grownBy c (some g) :=
  ⟨k.os.trans h.os, k.tape.trans h.tape, k.output.trans h.output, Nat.le_trans h.size k.size, fun x hx hn => (k.block x (Nat.lt_of_lt_of_le hx h.size) hn).trans (h.block x hx hn)⟩
/-- A letter that something was written into, here or elsewhere. -/
theorem LeO.spoil {w : World} {B : Nat} {a : Option Addr} {n c : Nat} {xs : List Int} (h : LeO w B ⟨a, n, c, xs⟩) (g i : Nat) (v : Int) (hv : 0 ≤ v ∧ v < 256) : ∃ zs, LeO (w.setCell ⟨g, i, none⟩ (.int .u8 v)) B ⟨a, n, c, zs⟩ := by
  rcases h with ⟨h1, h2, h3, h4⟩ | ⟨g1, h1, h2⟩
  · exact ⟨[], .inl ⟨h1, h2, h3, rfl⟩⟩
  · by_cases e : g1 = g
    · subst e; exact ⟨xs.set i v, .inr ⟨g1, h1, h2.setR i v hv⟩⟩
    · exact ⟨xs, .inr ⟨g1, h1, h2.grown (grownBy_setCell w g i _) (by simpa using e)⟩⟩
/-- A list of letters of the call's own, whatever they say. -/
def Spo (w : World) (B : Nat) (so : Option Addr) (k co : Nat) (qs : List Le) : Prop := OwnG ReL 29 w B so k co qs ∧ ∀ p ∈ qs, ∃ zs, LeO w B ⟨p.a, p.n, p.c, zs⟩
theorem OwnR.spo {w : World} {B k co : Nat} {so : Option Addr} {qs : List Le} (h : OwnR w B so k co qs) : Spo w B so k co qs := ⟨h.1, fun p hp => ⟨p.xs, h.2 p hp⟩⟩
theorem Spo.set {w : World} {B k co : Nat} {so : Option Addr} {qs : List Le} (h : Spo w B so k co qs) {g n c : Nat} {ys : List Int} (hg : Own 5 w B g n c ys) (i : Nat) (v : Int) (hv : 0 ≤ v ∧ v < 256) : Spo (w.setCell ⟨g, i, none⟩ (.int .u8 v)) B so k co qs := by
  refine ⟨?_, fun p hp => (h.2 p hp).elim fun zs hz => hz.spoil g i v hv⟩
  obtain ⟨cur, hc, _⟩ := hg.block
  refine h.1.grown (grownBy_setCell w g i _) fun x hx e => ?_
  rcases h.1.cases with ⟨rfl, _⟩ | ⟨g', cur', rfl, _, hk, _⟩
  · simp at hx
  · obtain rfl := Option.some.inj hx
    obtain rfl : g = g' := by simpa using e
    rw [hc] at hk
    simp at hk
/-- Letter i of such a list. -/
theorem Spo.cell {w : World} {B k co g off : Nat} {qs : List Le} (h : Spo w B (some ⟨g, off, none⟩) k co qs) {i : Nat} {p : Le} (hi : qs[i]? = some p) : w.cell? ⟨g, off + i, none⟩ = some (.slice p.a p.n p.c) ∧ ∃ zs, LeO w B ⟨p.a, p.n, p.c, zs⟩ := by
  refine ⟨?_, h.2 p (List.mem_of_getElem? hi)⟩
  have := h.1.row.cells i p hi 0 (.slice p.a p.n p.c) rfl
  simpa [ReL] using this
end Go.Proofs.Ytkmpmljohjelhaa
