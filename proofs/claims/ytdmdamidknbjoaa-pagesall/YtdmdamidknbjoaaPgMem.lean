/- A space: a memory of frames and a map of page tables; what a table says, what a new id, one that goes and a byte make of it. -/
import Derived.Test.YtdmdamidknbjoaaPgMap
namespace Go.Proofs.Ytdmdamidknbjoaa
open Go.RowKit
set_option maxRecDepth 100000

/-- An id's table: how many bytes, which, where the table's row is, and which frames. -/
structure Ent where
  n : Nat
  f : Nat → Int
  tb : Nat
  fr : Nat → Nat
/-- How many pages n bytes need. -/
def pg (n : Nat) : Nat := (n + 15) / 16
theorem pg_lt {n j : Nat} (h : j < n) : j / 16 < pg n := by unfold pg; omega
theorem lt_pg {n j : Nat} (h : j < pg n) : 16 * j < n := by unfold pg at h; omega
theorem pg_64 {n : Nat} (h : n ≤ 64) : pg n ≤ 4 := by unfold pg; omega
def tabV (e : Ent) : Value := .agg #[.slice (some ⟨e.tb, 0, none⟩) (pg e.n) (pg e.n), .int .i64 e.n]
/-- What an id is told to have. -/
abbrev Txt := Int → Option (Nat × (Nat → Int))

/-- A space at q, all that it is made of written out: it lies in S, its memory of frames in S0. -/
structure Spr (w : World) (S S0 : Nat → Prop) (q p K c : Nat) (A : Mm) (g : Nat) (b : Nat → Nat) (m : Option Nat) (E : Int → Option Ent) : Prop where
  mem : Mem w S0 p K A g b
  box : w.heap[q]? = some (.cells #[.pointer (some ⟨p, 0, none⟩), .int .i64 K, .map m] 51 (0, 0))
  map : MapAt w m c (fun i => (E i).map tabV)
  row : ∀ i e, E i = some e → w.rowIs e.tb 3 (pg e.n) (fun j => .int .i64 (e.fr j)) ∧ S e.tb ∧ ¬ S0 e.tb ∧ e.n ≤ 64
  byt : ∀ i e j, E i = some e → j < e.n → ∃ F, A (e.fr (j / 16)) = some F ∧ F (j % 16) = e.f j
  inj : ∀ i e j i' e' j', E i = some e → E i' = some e' → j < pg e.n → j' < pg e'.n → e.fr j = e'.fr j' → i = i' ∧ j = j'
  sq : S q ∧ ¬ S0 q
  sm : ∀ x, m = some x → S x ∧ ¬ S0 x
  s0 : ∀ x, S0 x → S x
  lt : ∀ x, S x → x < w.heap.size
/-- A space at q of K frames, free of them free; at most c ids were ever mapped; T says what each has. -/
def Spc (w : World) (S : Nat → Prop) (q K c free : Nat) (T : Txt) : Prop :=
  ∃ (S0 : Nat → Prop) (p : Nat) (A : Mm) (g : Nat) (b : Nat → Nat) (m : Option Nat) (E : Int → Option Ent), Spr w S S0 q p K c A g b m E ∧ cnt A K + free = K ∧ ∀ i, T i = (E i).map fun e => (e.n, e.f)
section
variable {w w' : World} {S S0 : Nat → Prop} {q p K c free : Nat} {A : Mm} {g : Nat} {b : Nat → Nat} {m : Option Nat} {E : Int → Option Ent} {T : Txt}
theorem Spr.kept (h : Spr w S S0 q p K c A g b m E) (hb : ∀ x, S x → w'.heap[x]? = w.heap[x]?) (hs : w.heap.size ≤ w'.heap.size) : Spr w' S S0 q p K c A g b m E :=
  ⟨h.mem.kept (fun x hx => hb x (h.s0 x hx)) hs, (hb _ h.sq.1).trans h.box, h.map.kept (fun x hx => hb x (h.sm x hx).1), fun i e he => ⟨(h.row i e he).1.of_block (hb _ (h.row i e he).2.1), (h.row i e he).2⟩, h.byt, h.inj, h.sq, h.sm, h.s0, fun x hx => Nat.lt_of_lt_of_le (h.lt x hx) hs⟩
theorem Spr.below (h : Spr w S S0 q p K c A g b m E) (hb : Below w.heap.size w w') : Spr w' S S0 q p K c A g b m E := h.kept (fun x hx => hb.block x (h.lt x hx)) hb.size
theorem Spc.kept (h : Spc w S q K c free T) (hb : ∀ x, S x → w'.heap[x]? = w.heap[x]?) (hs : w.heap.size ≤ w'.heap.size) : Spc w' S q K c free T := by
  obtain ⟨S0, p, A, g, b, m, E, h, r⟩ := h
  exact ⟨S0, p, A, g, b, m, E, h.kept hb hs, r⟩
theorem Spc.below (h : Spc w S q K c free T) (hb : Below w.heap.size w w') : Spc w' S q K c free T := by
  obtain ⟨S0, p, A, g, b, m, E, h, r⟩ := h
  exact ⟨S0, p, A, g, b, m, E, h.below hb, r⟩
theorem Spc.other {S2 : Nat → Prop} (h : Spc w S q K c free T) (k : Chg S2 w w') (hd : ∀ x, S x → ¬ S2 x) : Spc w' S q K c free T := by
  obtain ⟨S0, p, A, g, b, m, E, h, r⟩ := h
  exact ⟨S0, p, A, g, b, m, E, h.kept (fun x hx => k.block x (h.lt x hx) (hd x hx)) k.size, r⟩
theorem Spr.f0 (h : Spr w S S0 q p K c A g b m E) : w.cell? ⟨q, 0, none⟩ = some (.pointer (some ⟨p, 0, none⟩)) := by simp [World.cell?, h.box]
theorem Spr.f1 (h : Spr w S S0 q p K c A g b m E) : w.cell? ⟨q, 1, none⟩ = some (.int .i64 K) := by simp [World.cell?, h.box]
theorem Spr.f2 (h : Spr w S S0 q p K c A g b m E) : w.cell? ⟨q, 2, none⟩ = some (.map m) := by simp [World.cell?, h.box]
theorem Spr.lid (h : Spr w S S0 q p K c A g b m E) : K ≤ 512 := h.mem.lid
/-- Only the memory of frames has turned: the same ids, the same tables. -/
theorem Spr.frames {S0' : Nat → Prop} {A' : Mm} {b' : Nat → Nat} (h : Spr w S S0 q p K c A g b m E) (hM : Mem w' S0' p K A' g b') (hc : Chg S0 w w') (hS : ∀ x, S0' x → S0 x ∨ w.heap.size ≤ x)
    (hA : ∀ i e j, E i = some e → j < pg e.n → A' (e.fr j) = A (e.fr j)) : Spr w' (fun x => S x ∨ S0' x) S0' q p K c A' g b' m E := by
  have hno : ∀ x, S x → ¬ S0 x → ¬ S0' x := fun x hx hn hc => (hS x hc).elim hn (fun e => by have := h.lt x hx; omega)
  refine ⟨hM, (hc.block _ (h.lt _ h.sq.1) h.sq.2).trans h.box, h.map.kept (fun x hx => hc.block x (h.lt x (h.sm x hx).1) (h.sm x hx).2), fun i e he => ?_, fun i e j he hj => ?_, h.inj, ⟨.inl h.sq.1, hno _ h.sq.1 h.sq.2⟩, fun x hx => ⟨.inl (h.sm x hx).1, hno _ (h.sm x hx).1 (h.sm x hx).2⟩, fun x hx => .inr hx, fun x hx => ?_⟩
  · obtain ⟨r1, r2, r3, r4⟩ := h.row i e he
    exact ⟨r1.of_block (hc.block _ (h.lt _ r2) r3), .inl r2, hno _ r2 r3, r4⟩
  · rw [hA i e _ he (pg_lt hj)]
    exact h.byt i e j he hj
  · exact hx.elim (fun hx => Nat.lt_of_lt_of_le (h.lt x hx) hc.size) (fun hx => hM.tab.lt x hx)
theorem Spr.taken (h : Spr w S S0 q p K c A g b m E) {i : Int} {e : Ent} {j : Nat} (he : E i = some e) (hj : j < pg e.n) : ∃ F, A (e.fr j) = some F := by
  have := lt_pg hj
  obtain ⟨F, hF, _⟩ := h.byt i e (16 * j) he this
  rw [show 16 * j / 16 = j by omega] at hF
  exact ⟨F, hF⟩
end
end Go.Proofs.Ytdmdamidknbjoaa
