/- Slices of slices of bytes in memory: what one reads as ('RowR'), one that a call itself made with letters of its own ('OwnR'), and append of one letter. No program of the seat is named here but its types. -/
import Derived.Test.YtafnonmpanpfkaaCells
import Derived.Test.YtafnonmpanpfkaaOpBytes
import Derived.Test.YtafnonmpanpfkaaRows
namespace Go.Proofs.Ytafnonmpanpfkaa
open Go.RowKit
set_option maxRecDepth 100000

/-- A letter: where its slice lies, how long it is, its room, its bytes. -/
structure Le where
  a : Option Addr
  n : Nat
  c : Nat
  xs : List Int
/-- A slice as the element of a slice: one cell. -/
def ReL : Enc Le where
  k := 1
  pos := by decide
  cells p := [.slice p.a p.n p.c]
  len _ := rfl
  one p u hu := by simp at hu; subst hu; rfl
  ok _ := True
theorem ReL.all (ps : List Le) : ReL.Ok ps := fun _ _ => trivial
/-- What the letters say. -/
def txt (ps : List Le) : List (List Int) := ps.map Le.xs
theorem txt_nil : txt [] = [] := rfl
theorem txt_append (ps qs : List Le) : txt (ps ++ qs) = txt ps ++ txt qs := by simp [txt]
theorem txt_one (p : Le) : txt [p] = [p.xs] := rfl
theorem txt_len (ps : List Le) : (txt ps).length = ps.length := by simp [txt]
theorem txt_drop (ps : List Le) (k : Nat) : txt (ps.drop k) = (txt ps).drop k := by simp [txt]

/-- The slice at a, of n letters, reads as ps. -/
def RowR (w : World) (a : Option Addr) (n cap : Nat) (ps : List Le) : Prop := RowG ReL w a n cap ps ∧ ∀ p ∈ ps, Row w p.a p.n p.c p.xs
/-- A letter that is nil, or of the call's own (blocks from B on). -/
def LeO (w : World) (B : Nat) (p : Le) : Prop := (p.a = none ∧ p.n = 0 ∧ p.c = 0 ∧ p.xs = []) ∨ ∃ g, p.a = some ⟨g, 0, none⟩ ∧ Own 5 w B g p.n p.c p.xs
/-- A list of letters that is nil or the call's own, each letter too. -/
def OwnR (w : World) (B : Nat) (a : Option Addr) (n cap : Nat) (ps : List Le) : Prop := OwnG ReL 32 w B a n cap ps ∧ ∀ p ∈ ps, LeO w B p

theorem LeO.row {w : World} {B : Nat} {p : Le} (h : LeO w B p) : Row w p.a p.n p.c p.xs := by
  rcases h with ⟨h1, h2, h3, h4⟩ | ⟨g, h1, h2⟩
  · rw [h1, h2, h3, h4]; exact Row.nil w
  · rw [h1]; exact h2.row
theorem LeO.nil (w : World) (B : Nat) : LeO w B ⟨none, 0, 0, []⟩ := .inl ⟨rfl, rfl, rfl, rfl⟩
theorem LeO.made {w : World} {B g n c : Nat} {xs : List Int} (h : Own 5 w B g n c xs) : LeO w B ⟨some ⟨g, 0, none⟩, n, c, xs⟩ := .inr ⟨g, rfl, h⟩
theorem LeO.below {w w' : World} {B : Nat} {p : Le} (h : LeO w B p) (hb : Below w.heap.size w w') : LeO w' B p := by
  rcases h with h | ⟨g, h1, h2⟩
  · exact .inl h
  · exact .inr ⟨g, h1, h2.below hb⟩
theorem LeO.mono {w : World} {B B' : Nat} {p : Le} (h : LeO w B p) (hB : B' ≤ B) : LeO w B' p := by
  rcases h with h | ⟨g, h1, h2⟩
  · exact .inl h
  · exact .inr ⟨g, h1, h2.mono hB⟩
/-- A block of bytes that the call made: what it is. -/
theorem Own.block {e : TypeId} {w : World} {B g n cap : Nat} {xs : List Int} (h : Own e w B g n cap xs) : ∃ cur, w.heap[g]? = some (.cells cur e (0, 0)) ∧ B ≤ g ∧ n ≤ cap ∧ cap ≤ maxLen ∧ cur.size = cap ∧ cur.toList.take n = xs.map (Value.int .u8) := by
  rcases h.2.2.2 with ⟨h, _⟩ | ⟨g', cap', cur, hv, hB, hg, hn, hm, hs, ht⟩
  · simp at h
  · simp only [Value.slice.injEq, Option.some.injEq, Addr.mk.injEq, and_true, true_and] at hv
    obtain ⟨rfl, rfl⟩ := hv
    exact ⟨cur, hg, hB, hn, hm, by simpa using hs, by simpa using ht⟩
theorem Own.grown {e : TypeId} {w w' : World} {B g n cap : Nat} {xs : List Int} {r : Option Nat} (h : Own e w B g n cap xs) (hg : w.grownBy w' r) (hne : some g ≠ r) : Own e w' B g n cap xs :=
  ⟨h.1, h.2.1, h.2.2.kept hg (.inr (by simpa [Value.ownBlock] using hne))⟩
/-- Another kind of block is another block. -/
theorem LeO.grown {w w' : World} {B r : Nat} {p : Le} {cur : Array Value} {f : Nat × Nat} (h : LeO w B p) (hg : w.grownBy w' (some r)) (hr : w.heap[r]? = some (.cells cur 32 f)) : LeO w' B p := by
  rcases h with h | ⟨g, h1, h2⟩
  · exact .inl h
  · refine .inr ⟨g, h1, h2.grown hg fun e => ?_⟩
    obtain ⟨cur', hc, _⟩ := h2.block
    obtain rfl : g = r := by simpa using e
    rw [hr] at hc
    simp at hc
theorem LeO.grown_none {w w' : World} {B : Nat} {p : Le} (h : LeO w B p) (hg : w.grownBy w' none) : LeO w' B p := by
  rcases h with h | ⟨g, h1, h2⟩
  · exact .inl h
  · exact .inr ⟨g, h1, h2.grown hg (by simp)⟩
theorem LeO.grown_lt {w w' : World} {B r : Nat} {p : Le} (h : LeO w B p) (hg : w.grownBy w' (some r)) (hr : r < B) : LeO w' B p := by
  rcases h with h | ⟨g, h1, h2⟩
  · exact .inl h
  · exact .inr ⟨g, h1, h2.grown hg (fun e => by have := h2.lt; simp at e; omega)⟩

theorem RowR.len {w : World} {a : Option Addr} {n cap : Nat} {ps : List Le} (h : RowR w a n cap ps) : ps.length = n := h.1.len
theorem RowR.cap_le {w : World} {a : Option Addr} {n cap : Nat} {ps : List Le} (h : RowR w a n cap ps) : n ≤ cap ∧ cap ≤ 9223372036854775807 := h.1.cap_le
theorem RowR.nil (w : World) : RowR w none 0 0 [] := ⟨RowG.nil _ w, fun _ h => by simp at h⟩
theorem RowR.below {w w' : World} {a : Option Addr} {n cap : Nat} {ps : List Le} (h : RowR w a n cap ps) (hb : Below w.heap.size w w') : RowR w' a n cap ps := ⟨h.1.below hb, fun p hp => (h.2 p hp).below hb⟩
/-- Letter i: its cell, and how it reads. -/
theorem RowR.cell {w : World} {b off n cap : Nat} {ps : List Le} (h : RowR w (some ⟨b, off, none⟩) n cap ps) {i : Nat} {p : Le} (hi : ps[i]? = some p) : w.cell? ⟨b, off + i, none⟩ = some (.slice p.a p.n p.c) ∧ Row w p.a p.n p.c p.xs := by
  refine ⟨?_, h.2 p (List.mem_of_getElem? hi)⟩
  have := h.1.cells i p hi 0 (.slice p.a p.n p.c) rfl
  simpa [ReL] using this
theorem RowR.at {w : World} {a : Option Addr} {n cap : Nat} {ps : List Le} (h : RowR w a n cap ps) (hn : 0 < n) : ∃ b off, a = some ⟨b, off, none⟩ ∧ RowR w (some ⟨b, off, none⟩) n cap ps := by
  obtain ⟨b, off, rfl, _⟩ := h.1.at hn
  exact ⟨b, off, rfl, h⟩
theorem RowR.get {w : World} {a : Option Addr} {n cap : Nat} {ps : List Le} (h : RowR w a n cap ps) (i : Nat) (hi : i < n) : ∃ p, ps[i]? = some p := h.1.get i hi
theorem RowR.tail {w : World} {b off n cap : Nat} {ps : List Le} (h : RowR w (some ⟨b, off, none⟩) n cap ps) (k : Nat) (hk : k ≤ n) : RowR w (some ⟨b, off + k, none⟩) (n - k) (cap - k) (ps.drop k) := by
  refine ⟨?_, fun p hp => h.2 p (List.mem_of_mem_drop hp)⟩
  have := h.1.tail k hk
  simpa [ReL] using this
theorem RowR.tail0 {w : World} {b off n cap : Nat} {ps : List Le} (h : RowR w (some ⟨b, off, none⟩) n cap ps) (k : Nat) (hk : k ≤ n) (hc : cap = k) : RowR w (some ⟨b, off, none⟩) (n - k) 0 (ps.drop k) :=
  ⟨h.1.tail0 k hk hc, fun p hp => h.2 p (List.mem_of_mem_drop hp)⟩

theorem OwnR.row {w : World} {B n cap : Nat} {a : Option Addr} {ps : List Le} (h : OwnR w B a n cap ps) : RowR w a n cap ps := ⟨h.1.row, fun p hp => (h.2 p hp).row⟩
theorem OwnR.len {w : World} {B n cap : Nat} {a : Option Addr} {ps : List Le} (h : OwnR w B a n cap ps) : ps.length = n := h.1.1
theorem OwnR.nil (w : World) (B : Nat) : OwnR w B none 0 0 [] := ⟨OwnG.of_nil _ _ w B, fun _ h => by simp at h⟩
theorem OwnR.below {w w' : World} {B n cap : Nat} {a : Option Addr} {ps : List Le} (h : OwnR w B a n cap ps) (hb : Below w.heap.size w w') : OwnR w' B a n cap ps := ⟨h.1.below hb, fun p hp => (h.2 p hp).below hb⟩
theorem OwnR.mono {w : World} {B B' n cap : Nat} {a : Option Addr} {ps : List Le} (h : OwnR w B a n cap ps) (hB : B' ≤ B) : OwnR w B' a n cap ps := ⟨h.1.mono hB, fun p hp => (h.2 p hp).mono hB⟩
/-- What is written below it leaves it. -/
theorem OwnR.grown_lt {w w' : World} {B n cap r : Nat} {a : Option Addr} {ps : List Le} (h : OwnR w B a n cap ps) (hg : w.grownBy w' (some r)) (hr : r < B) : OwnR w' B a n cap ps :=
  ⟨h.1.grown hg (fun x hx e => by subst hx; obtain ⟨g, off, spot⟩ := x; rcases h.1.cases with ⟨h0, _⟩ | ⟨g', cur, h0, hB, _⟩
                                  · simp at h0
                                  · simp at h0 e; omega), fun p hp => (h.2 p hp).grown_lt hg hr⟩

theorem infoR : (Try.prog.info? 32).map (fun i => (i.zero, i.size, i.bytes)) = some (some (.slice none 0 0), 1, 24) := by kernel_rfl

/-- A slice of one letter that was just laid. -/
theorem lit_one (w : World) (p : Le) : RowG ReL (w.alloc (.cells #[.slice p.a p.n p.c] 32)) (some ⟨w.heap.size, 0, none⟩) 1 1 [p] :=
  (owng_lit ReL w 32 [p] #[.slice p.a p.n p.c] rfl 1 rfl (by omega) (ReL.all _) w.heap.size 0 rfl (by omega)).row

section
variable {ops : Array Oper} {rest : List Oper} {o : Oper} {a : Act} {Q : Exit → Act → World → Prop}
/-- 'append(s, x)', s nil or the call's own list of letters, x a slice of one letter that lies in new memory, the letter the call's own. -/
theorem op_append_letter {K : Act → World → Prop} (w : World) (s x : Operand) (t : TypeId) (ho : o.op = .call { callee := .builtin .append, args := #[s, x], argTypes := #[t, t] })
    (ht : Try.prog.underlying t = some (.slice 32)) (B n cap : Nat) (so : Option Addr) (ps : List Le) (hs : a.eval s = .slice so n cap) (hown : OwnR w B so n cap ps)
    (ao : Option Addr) (c : Nat) (p : Le) (hx : a.eval x = .slice ao 1 c) (hrow : RowG ReL w ao 1 c [p]) (hp : LeO w B p) (hbd : n + 1 ≤ 1000000) (hB : B ≤ w.heap.size)
    (w0 : World) (hbel : Below B w0 w)
    (h : ∀ so' cap' w', OwnR w' B so' (n + 1) cap' (ps ++ [p]) → Below B w0 w' → w.grownBy w' (Value.slice so n cap).ownBlock → K (a.put o.dst (.slice so' (n + 1) cap')) w') : Oper.wp Try.prog o a w K Q := by
  refine op_append_g (E := ReL) w s x t ho 32 ht (.slice none 0 0) 24 infoR rfl (by omega) B n cap so ps hs hown.1 ao 1 c [p] hx hrow ⟨by omega, by omega⟩ hB w0 hbel fun so' cap' w' h1 h2 h3 => h so' cap' w' ⟨h1, fun q hq => ?_⟩ h2 h3
  have hq' : LeO w B q := by
    rcases List.mem_append.1 hq with hq | hq
    · exact hown.2 q hq
    · simp at hq; subst hq; exact hp
  rcases hown.1.cases with ⟨rfl, _⟩ | ⟨g, cur, rfl, _, hg, _⟩
  · exact hq'.grown_none h3
  · exact hq'.grown (r := g) (by simpa [Value.ownBlock] using h3) hg
theorem wp_append_letter (w : World) (hgd : o.guard = none) (s x : Operand) (t : TypeId) (ho : o.op = .call { callee := .builtin .append, args := #[s, x], argTypes := #[t, t] })
    (ht : Try.prog.underlying t = some (.slice 32)) (B n cap : Nat) (so : Option Addr) (ps : List Le) (hs : a.eval s = .slice so n cap) (hown : OwnR w B so n cap ps)
    (ao : Option Addr) (c : Nat) (p : Le) (hx : a.eval x = .slice ao 1 c) (hrow : RowG ReL w ao 1 c [p]) (hp : LeO w B p) (hbd : n + 1 ≤ 1000000) (hB : B ≤ w.heap.size)
    (w0 : World) (hbel : Below B w0 w)
    (h : ∀ so' cap' w', OwnR w' B so' (n + 1) cap' (ps ++ [p]) → Below B w0 w' → w.grownBy w' (Value.slice so n cap).ownBlock → wpList Try.prog ops Q rest (a.put o.dst (.slice so' (n + 1) cap')) w') : wpList Try.prog ops Q (o :: rest) a w :=
  wpList_plain hgd fun _ hK => op_append_letter w s x t ho ht B n cap so ps hs hown ao c p hx hrow hp hbd hB w0 hbel fun so' cap' w' h1 h2 h3 => hK _ _ (h so' cap' w' h1 h2 h3)
/-- 'make([][]byte, 0, n)'. -/
theorem wp_make_ring (w : World) (hgd : o.guard = none) (l c : Operand) (t : TypeId) (ho : o.op = Op.makeSlice t l c) (ht : Try.prog.underlying t = some (.slice 32))
    (cn : Nat) (hl : a.eval l = .int .i64 0) (hc : a.eval c = .int .i64 cn) (hbd : cn ≤ 1000000)
    (h : ∀ w', OwnR w' w.heap.size (some ⟨w.heap.size, 0, none⟩) 0 cn [] → Below w.heap.size w w' → wpList Try.prog ops Q rest (a.put o.dst (.slice (some ⟨w.heap.size, 0, none⟩) 0 cn)) w') : wpList Try.prog ops Q (o :: rest) a w := by
  obtain ⟨i, hi, hz0, hz1, hz2⟩ := info_parts infoR
  refine wpList_plain hgd fun K hK => ?_
  have hrun := run_make (P := Try.prog) w t 32 i (.slice none 0 0) ht hi hz0 .i64 .i64 0 cn (by omega) (by omega) (by rw [hz2]; omega) (by omega)
  unfold Oper.wp
  simp [execOp, ho, hl, hc, hrun, Result.andThen]
  refine hK _ _ (h _ ⟨OwnG.of_cells (E := ReL) (Nat.le_refl _) (heap_alloc_new w _) (Nat.zero_le _) (by unfold maxLen; omega) ?_ rfl (ReL.all _) (by simp [Enc.flat]), fun _ hp => by simp at hp⟩ (below_alloc _ _))
  simp [ReL, madeCells, Value.cells, hz1]
end
end Go.Proofs.Ytafnonmpanpfkaa
