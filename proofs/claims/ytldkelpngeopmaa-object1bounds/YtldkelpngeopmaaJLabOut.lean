/- What appends a pair to pairs, and what goes through two labels at once, answer: contracts. A label that a call builds pair by pair in a variable of its own: how it lies, and what each step leaves. -/
import Derived.Test.YtldkelpngeopmaaLabRead2
import Derived.Test.YtldkelpngeopmaaRegion
namespace Go.Proofs.Ytldkelpngeopmaa
open Go.RowKit
set_option maxRecDepth 100000

theorem info29 : (Try.prog.info? 46).map (fun i => (i.zero, i.size, i.bytes)) = some (some (.agg #[.int .u16 0, .int .u8 0]), 2, 4) := by kernel_rfl
theorem grown_of_below {w w' : World} (h : Below w.heap.size w w') (r : Option Nat) : w.grownBy w' r := ⟨h.os, h.tape, h.output, h.size, fun k hk _ => h.block k hk⟩
theorem grown_trans {a b c : World} {r r' : Option Nat} (h : a.grownBy b r) (k : b.grownBy c r') (hr : ∀ x, r' = some x → r = some x ∨ a.heap.size ≤ x) : a.grownBy c r :=
  ⟨k.os.trans h.os, k.tape.trans h.tape, k.output.trans h.output, Nat.le_trans h.size k.size, fun i hi hne => (k.block i (Nat.lt_of_lt_of_le hi h.size) (fun e => by
    rcases hr i e.symm with h1 | h1
    · exact hne h1.symm
    · omega)).trans (h.block i hi hne)⟩
theorem below_of_grown {a b : World} {r : Option Nat} {B : Nat} (h : a.grownBy b r) (hB : B ≤ a.heap.size) (hr : ∀ x, r = some x → B ≤ x) : Below B a b :=
  ⟨h.os, h.tape, h.output, h.size, fun i hi => h.block i (by omega) (fun e => by have := hr i e.symm; omega)⟩
theorem own_block {α : Type} {E : Enc α} {e : TypeId} {w : World} {B n cap : Nat} {so : Option Addr} {ys : List α} (hown : OwnG E e w B so n cap ys) : ∀ k, (Value.slice so n cap).ownBlock = some k → B ≤ k ∧ k < w.heap.size := by
  intro k hk
  rcases hown.cases with ⟨rfl, _⟩ | ⟨g, cur, rfl, hBg, hg, _⟩
  · simp [Value.ownBlock] at hk
  · obtain rfl : g = k := by simpa [Value.ownBlock] using hk
    exact ⟨hBg, (Array.getElem?_eq_some_iff.1 hg).1⟩

/-- What is kept of a pair beside a Default. -/
def unl (x y d : Int) : List (Int × Int) := if y = d then [] else [(x, y)]
end Go.Proofs.Ytldkelpngeopmaa

namespace Go.Proofs.Ytldkelpngeopmaa
open Go.RowKit
set_option maxRecDepth 100000

theorem cell_of_heap {w : World} {g : Nat} {cs : Array Value} {e : TypeId} {fz : Nat × Nat} (h : w.heap[g]? = some (.cells cs e fz)) (i : Nat) (v : Value) (hv : cs[i]? = some v) : w.cell? ⟨g, i, none⟩ = some v := by
  rw [cell_of_row w g i cs e fz h]; exact hv
theorem heap_new_at (w : World) (o : Obj) (g : Nat) (hg : w.heap.size = g) : (w.alloc o).heap[g]? = some o := by subst hg; exact heap_alloc_new w o
theorem take_snoc {α : Type} {xs : List α} {i : Nat} {x : α} (h : xs[i]? = some x) : xs.take (i + 1) = xs.take i ++ [x] := by
  obtain ⟨h1, h2⟩ := List.getElem?_eq_some_iff.1 h
  rw [List.take_succ_eq_append_getElem h1, h2]

/-- The variable at block G holds a label: D, and pairs of the call's own, all made since W0; all else of W0 is as it was. -/
structure OutAt (W0 : World) (G : Nat) (D : Int) (wr : World) (so : Option Addr) (no co : Nat) (os : List (Int × Int)) : Prop where
  gr : W0.grownBy wr (some G)
  hp : wr.heap[G]? = some (.cells #[.int .u8 D, .slice so no co] 25 (0, 0))
  own : OwnG PE 46 wr W0.heap.size so no co os
  lt : G < W0.heap.size

section
variable {W0 : World} {G : Nat} {D : Int} {wr : World} {so : Option Addr} {no co : Nat} {os : List (Int × Int)}
theorem OutAt.init (h : W0.heap[G]? = some (.cells #[.int .u8 D, .slice none 0 0] 25 (0, 0))) : OutAt W0 G D W0 none 0 0 [] :=
  ⟨⟨rfl, rfl, rfl, Nat.le_refl _, fun _ _ _ => rfl⟩, h, OwnG.of_nil _ _ _ _, (Array.getElem?_eq_some_iff.1 h).1⟩
theorem OutAt.c0 (h : OutAt W0 G D wr so no co os) : wr.cell? ⟨G, 0, none⟩ = some (.int .u8 D) := cell_of_heap h.hp 0 _ rfl
theorem OutAt.c1 (h : OutAt W0 G D wr so no co os) : wr.cell? ⟨G, 1, none⟩ = some (.slice so no co) := cell_of_heap h.hp 1 _ rfl
theorem OutAt.fz (h : OutAt W0 G D wr so no co os) (i : Nat) : wr.frozen? ⟨G, i, none⟩ = false := frozen_of_row wr G i _ 25 h.hp
theorem OutAt.below {w' : World} (h : OutAt W0 G D wr so no co os) (hb : Below wr.heap.size wr w') : OutAt W0 G D w' so no co os :=
  ⟨grown_trans h.gr (grown_of_below hb none) (fun x hx => by simp at hx), (hb.block G (Nat.lt_of_lt_of_le h.lt h.gr.size)).trans h.hp, h.own.below hb, h.lt⟩
/-- What lies elsewhere reads as it did. -/
theorem OutAt.cell (h : OutAt W0 G D wr so no co os) {p : Addr} {v : Value} (hc : W0.cell? p = some v) (hne : p.block ≠ G) : wr.cell? p = some v := h.gr.cell hc (by simpa using hne)
theorem OutAt.row {α : Type} {E : Enc α} (h : OutAt W0 G D wr so no co os) {a : Option Addr} {n c : Nat} {xs : List α} (hr : RowG E W0 a n c xs) (hne : ∀ x, a = some x → x.block ≠ G) : RowG E wr a n c xs :=
  hr.grown h.gr (fun x hx e => hne x hx (by simpa using e.symm))
theorem OutAt.heap (h : OutAt W0 G D wr so no co os) {i : Nat} {o : Obj} (hc : W0.heap[i]? = some o) (hne : i ≠ G) : wr.heap[i]? = some o := (h.gr.block i (Array.getElem?_eq_some_iff.1 hc).1 (by simpa using hne)).trans hc
theorem OutAt.ne (h : OutAt W0 G D wr so no co os) : (Value.slice so no co).ownBlock ≠ some G := fun e => by have := own_block h.own _ e; have := h.lt; omega
/-- Behind a call that may have grown the pairs: the variable still holds the old ones. -/
theorem OutAt.mid {w3 : World} (h : OutAt W0 G D wr so no co os) (hg : wr.grownBy w3 (Value.slice so no co).ownBlock) : w3.heap[G]? = some (.cells #[.int .u8 D, .slice so no co] 25 (0, 0)) ∧ W0.grownBy w3 (some G) ∧ w3.frozen? ⟨G, 1, none⟩ = false ∧ w3.cell? ⟨G, 1, none⟩ = some (.slice so no co) ∧ w3.cell? ⟨G, 0, none⟩ = some (.int .u8 D) := by
  have h1 : w3.heap[G]? = some (.cells #[.int .u8 D, .slice so no co] 25 (0, 0)) := (hg.block G (Nat.lt_of_lt_of_le h.lt h.gr.size) (fun e => h.ne e.symm)).trans h.hp
  exact ⟨h1, grown_trans h.gr hg (fun x hx => .inr (own_block h.own x hx).1), frozen_of_row w3 G 1 _ 25 h1, cell_of_heap h1 1 _ rfl, cell_of_heap h1 0 _ rfl⟩
/-- Behind the store: the variable holds the new ones. -/
theorem OutAt.store {w3 : World} {so' : Option Addr} {no' co' : Nat} {os' : List (Int × Int)} (h : OutAt W0 G D wr so no co os) (hg : wr.grownBy w3 (Value.slice so no co).ownBlock) (ho : OwnG PE 46 w3 W0.heap.size so' no' co' os') :
    OutAt W0 G D (w3.setCell ⟨G, 1, none⟩ (.slice so' no' co')) so' no' co' os' := by
  obtain ⟨h1, h2, _⟩ := h.mid hg
  have hs : w3.grownBy (w3.setCell ⟨G, 1, none⟩ (.slice so' no' co')) (some G) := ⟨rfl, rfl, rfl, by simp [World.setCell], fun k _ hk => Below.heap_setCell _ _ _ _ (fun e => hk (by rw [e]))⟩
  refine ⟨grown_trans h2 hs (fun x hx => .inl hx), ?_, ho.grown hs (fun x hx e => ?_), h.lt⟩
  · rw [heap_setCell_same w3 G 1 _ 25 _ h1]; rfl
  · subst hx
    have := own_block ho x.block (by simp [Value.ownBlock])
    have := h.lt
    have : G = x.block := by simpa using e
    omega
/-- The variable is handed back by the result's own one, at block R. -/
theorem OutAt.ret {w : World} {R B : Nat} {v0 v1 : Value} (h : OutAt W0 G D wr so no co os) (hR : W0.heap[R]? = some (.cells #[v0, v1] 25 (0, 0))) (hRG : R ≠ G) (hBR : B ≤ R) (hBG : B ≤ G) (hb : Below B w W0) :
    ((wr.setCell ⟨R, 0, none⟩ (.int .u8 D)).setCell ⟨R, 1, none⟩ (.slice so no co)).heap[R]? = some (.cells #[.int .u8 D, .slice so no co] 25 (0, 0)) ∧
    OwnG PE 46 ((wr.setCell ⟨R, 0, none⟩ (.int .u8 D)).setCell ⟨R, 1, none⟩ (.slice so no co)) B so no co os ∧ Below B w ((wr.setCell ⟨R, 0, none⟩ (.int .u8 D)).setCell ⟨R, 1, none⟩ (.slice so no co)) := by
  have hRr := h.heap hR hRG
  have hlt : R < W0.heap.size := (Array.getElem?_eq_some_iff.1 hR).1
  have h1 : (wr.setCell ⟨R, 0, none⟩ (.int .u8 D)).heap[R]? = some (.cells #[.int .u8 D, v1] 25 (0, 0)) := by rw [heap_setCell_same wr R 0 _ 25 _ hRr]; rfl
  have g : ∀ (W : World) (i : Nat) (v : Value), W.grownBy (W.setCell ⟨R, i, none⟩ v) (some R) := fun W i v => ⟨rfl, rfl, rfl, by simp [World.setCell], fun k _ hk => Below.heap_setCell _ _ _ _ (fun e => hk (by rw [e]))⟩
  have hne : ∀ x, so = some x → some R ≠ some x.block := fun x hx e => by
    subst hx
    have := own_block h.own x.block (by simp [Value.ownBlock])
    have : R = x.block := by simpa using e
    omega
  have hbw : Below B w wr := hb.trans (below_of_grown h.gr (by omega) (fun x hx => (show G = x by simpa using hx) ▸ hBG))
  refine ⟨?_, ((h.own.grown (g _ 0 _) hne).grown (g _ 1 _) hne).mono (by omega), (hbw.setCell hBR _).setCell hBR _⟩
  rw [heap_setCell_same _ R 1 _ 25 _ h1]; rfl
end
/-- A label that another call made is handed back by the result's own variable, at block R. -/
theorem ret_store {w w1 : World} {R B B' : Nat} {v0 v1 : Value} {D : Int} {so : Option Addr} {no co : Nat} {os : List (Int × Int)} (hR : w1.heap[R]? = some (.cells #[v0, v1] 25 (0, 0))) (hBR : B ≤ R) (hRB : R < B') (hb : Below B w w1) (ho : OwnG PE 46 w1 B' so no co os) :
    ((w1.setCell ⟨R, 0, none⟩ (.int .u8 D)).setCell ⟨R, 1, none⟩ (.slice so no co)).heap[R]? = some (.cells #[.int .u8 D, .slice so no co] 25 (0, 0)) ∧
    OwnG PE 46 ((w1.setCell ⟨R, 0, none⟩ (.int .u8 D)).setCell ⟨R, 1, none⟩ (.slice so no co)) B so no co os ∧ Below B w ((w1.setCell ⟨R, 0, none⟩ (.int .u8 D)).setCell ⟨R, 1, none⟩ (.slice so no co)) := by
  have h1 : (w1.setCell ⟨R, 0, none⟩ (.int .u8 D)).heap[R]? = some (.cells #[.int .u8 D, v1] 25 (0, 0)) := by rw [heap_setCell_same w1 R 0 _ 25 _ hR]; rfl
  have g : ∀ (W : World) (i : Nat) (v : Value), W.grownBy (W.setCell ⟨R, i, none⟩ v) (some R) := fun W i v => ⟨rfl, rfl, rfl, by simp [World.setCell], fun k _ hk => Below.heap_setCell _ _ _ _ (fun e => hk (by rw [e]))⟩
  have hne : ∀ x, so = some x → some R ≠ some x.block := fun x hx e => by
    subst hx
    have := own_block ho x.block (by simp [Value.ownBlock])
    have : R = x.block := by simpa using e
    omega
  refine ⟨?_, ((ho.grown (g _ 0 _) hne).grown (g _ 1 _) hne).mono (by omega), (hb.setCell hBR _).setCell hBR _⟩
  rw [heap_setCell_same _ R 1 _ 25 _ h1]; rfl
/-- A call that hands back a label by a variable of its own. -/
theorem ret_lab {fn : Func} {p : Tmp} (h : fn.results = #[.cell p 25]) (tmps : Array Value) (w : World) (g : Nat) (D : Int) (so : Option Addr) (no co : Nat) (hp : tmps.getD p undef = .pointer (some ⟨g, 0, none⟩))
    (hg : w.heap[g]? = some (.cells #[.int .u8 D, .slice so no co] 25 (0, 0))) : (results fn tmps).run Try.prog w = .ok (.agg #[.int .u8 D, .slice so no co]) w :=
  results_cell_row h tmps w g 25 _ (0, 0) _ hp hg Try.underlying25 rfl (by kernel_rfl)
end Go.Proofs.Ytldkelpngeopmaa
