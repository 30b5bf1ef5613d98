/- Lists of 64-bit numbers in memory: what a slice of them reads as ('RowQ'), one that a call itself made, nil or not ('OwnQ'), and the laws for append over them. No program of the seat is named here. Names of objects, plainly: which numbers are names, how deep they are, the list of the boxes that they are in; no Go in sight. What the functions of package name answer: contracts, for every number. The path of a name, the code's and the document's: contracts, for every number; and what the document's other functions answer. What the document's own functions on names answer: contracts, for every number. -/
import Derived.Test.YtkmpmljohjelhaaJBase
import Derived.Test.YtkmpmljohjelhaaRows
import Derived.Lib.EndianBits
import Derived.Lib.MinMax
import Derived.Deep.OwnRows
import Derived.BigQuiet
namespace Go.Proofs.Ytkmpmljohjelhaa
open Go.RowKit
set_option maxRecDepth 100000

/-- All are 64-bit numbers. -/
def Qwd (xs : List Int) : Prop := ∀ x ∈ xs, 0 ≤ x ∧ x < 18446744073709551616
theorem Qwd.nil : Qwd [] := fun _ h => by simp at h
theorem qwd_of (xs : List Int) (h : xs.all (fun x => decide (0 ≤ x) && decide (x < 18446744073709551616)) = true) : Qwd xs := by
  intro x hx
  have := List.all_eq_true.1 h x hx
  simpa using this
theorem Qwd.append {xs ys : List Int} (h : Qwd xs) (k : Qwd ys) : Qwd (xs ++ ys) := fun x hx => (List.mem_append.1 hx).elim (h x) (k x)
theorem Qwd.one {x : Int} (h : 0 ≤ x ∧ x < 18446744073709551616) : Qwd [x] := fun y hy => by simp at hy; subst hy; exact h
theorem Qwd.take {xs : List Int} (h : Qwd xs) (k : Nat) : Qwd (xs.take k) := fun x hx => h x (List.mem_of_mem_take hx)
theorem Qwd.drop {xs : List Int} (h : Qwd xs) (k : Nat) : Qwd (xs.drop k) := fun x hx => h x (List.mem_of_mem_drop hx)
theorem Qwd.get {xs : List Int} (h : Qwd xs) (i : Nat) : 0 ≤ xs.getD i 0 ∧ xs.getD i 0 < 18446744073709551616 := by
  by_cases hi : i < xs.length
  · rw [List.getD_eq_getElem?_getD, List.getElem?_eq_getElem hi]; exact h _ (List.getElem_mem hi)
  · rw [List.getD_eq_getElem?_getD, List.getElem?_eq_none (by omega)]; simp
theorem Qwd.set {xs : List Int} (h : Qwd xs) (i : Nat) (v : Int) (hv : 0 ≤ v ∧ v < 18446744073709551616) : Qwd (xs.set i v) := fun x hx => (List.mem_or_eq_of_mem_set hx).elim (h x) (fun e => e ▸ hv)

/-- The slice at a, of n elements, reads as the numbers xs. -/
def RowQ (w : World) (a : Option Addr) (n cap : Nat) (xs : List Int) : Prop :=
  xs.length = n ∧ n ≤ cap ∧ cap ≤ maxLen ∧ Qwd xs ∧ (a = none → n = 0 ∧ cap = 0) ∧ (0 < n → ∃ b off, a = some ⟨b, off, none⟩) ∧ ∀ x, a = some x → ∀ i, i < n → w.cell? (x.add i) = some (.int .u64 (xs.getD i 0))

/-- A slice that is nil, or at the head of a row of the call's own (blocks from B on), whose elements are the numbers xs. -/
def OwnQ (e : TypeId) (w : World) (B : Nat) (a : Option Addr) (n cap : Nat) (xs : List Int) : Prop :=
  xs.length = n ∧ Qwd xs ∧ w.ownsRow B e 1 (.slice a n cap) n (xs.map (Value.int .u64))

theorem RowQ.len {w : World} {a : Option Addr} {n cap : Nat} {xs : List Int} (h : RowQ w a n cap xs) : xs.length = n := h.1
theorem RowQ.qwd {w : World} {a : Option Addr} {n cap : Nat} {xs : List Int} (h : RowQ w a n cap xs) : Qwd xs := h.2.2.2.1
theorem RowQ.cap_le {w : World} {a : Option Addr} {n cap : Nat} {xs : List Int} (h : RowQ w a n cap xs) : n ≤ cap ∧ cap ≤ 9223372036854775807 := ⟨h.2.1, h.2.2.1⟩
theorem RowQ.nil (w : World) : RowQ w none 0 0 [] := ⟨rfl, Nat.le_refl _, Nat.zero_le _, Qwd.nil, fun _ => ⟨rfl, rfl⟩, fun h => absurd h (by omega), fun _ h => by simp at h⟩
theorem RowQ.none_of (w : World) (x : Addr) (cap : Nat) (hc : cap ≤ 9223372036854775807) : RowQ w (some x) 0 cap [] :=
  ⟨rfl, Nat.zero_le _, hc, Qwd.nil, fun h => by simp at h, fun h => absurd h (by omega), fun _ _ i hi => absurd hi (by omega)⟩
theorem RowQ.empty {w : World} {a : Option Addr} {n cap : Nat} {xs : List Int} (h : RowQ w a n cap xs) (h0 : n = 0) : xs = [] := List.eq_nil_of_length_eq_zero (h.1.trans h0)

theorem RowQ.at {w : World} {a : Option Addr} {n cap : Nat} {xs : List Int} (h : RowQ w a n cap xs) (hn : 0 < n) :
    ∃ b off, a = some ⟨b, off, none⟩ ∧ ∀ i, i < n → w.cell? ⟨b, off + i, none⟩ = some (.int .u64 (xs.getD i 0)) := by
  obtain ⟨_, _, _, _, _, h1, h2⟩ := h
  obtain ⟨b, off, rfl⟩ := h1 hn
  refine ⟨b, off, rfl, fun i hi => ?_⟩
  have := h2 _ rfl i hi
  by_cases h0 : i = 0
  · subst h0; simpa [Addr.add] using this
  · simpa [Addr.add, h0] using this
theorem RowQ.cells {w : World} {b off n cap : Nat} {xs : List Int} (h : RowQ w (some ⟨b, off, none⟩) n cap xs) (i : Nat) (hi : i < n) : w.cell? ⟨b, off + i, none⟩ = some (.int .u64 (xs.getD i 0)) := by
  obtain ⟨b', off', ha, hc⟩ := h.at (by omega)
  simp only [Option.some.injEq, Addr.mk.injEq, and_true] at ha
  obtain ⟨rfl, rfl⟩ := ha
  exact hc i hi

theorem RowQ.below {w w' : World} {a : Option Addr} {n cap : Nat} {xs : List Int} (h : RowQ w a n cap xs) (hb : Below w.heap.size w w') : RowQ w' a n cap xs := by
  obtain ⟨h1, h2, h3, h4, h5, h6, h7⟩ := h
  refine ⟨h1, h2, h3, h4, h5, h6, fun x hx i hi => ?_⟩
  have hc := h7 x hx i hi
  rw [hb.cell (lt_of_cell hc)]
  exact hc

theorem OwnQ.cases {e : TypeId} {w : World} {B n cap : Nat} {a : Option Addr} {xs : List Int} (h : OwnQ e w B a n cap xs) :
    (a = none ∧ n = 0 ∧ cap = 0 ∧ xs = []) ∨ ∃ (g : Nat) (cur : Array Value), a = some ⟨g, 0, none⟩ ∧ B ≤ g ∧ w.heap[g]? = some (.cells cur e (0, 0)) ∧ n ≤ cap ∧ cap ≤ maxLen ∧ cur.size = cap ∧ cur.toList.take n = xs.map (Value.int .u64) := by
  obtain ⟨h1, h2, h3⟩ := h
  rcases h3.2 with ⟨h, h0⟩ | ⟨g, cap', cur, hv, hB, hg, hn, hm, hs, ht⟩
  · simp only [Value.slice.injEq] at h
    obtain ⟨rfl, _, rfl⟩ := h
    exact .inl ⟨rfl, h0, rfl, List.eq_nil_of_length_eq_zero (by omega)⟩
  · simp only [Value.slice.injEq] at hv
    obtain ⟨rfl, _, rfl⟩ := hv
    exact .inr ⟨g, cur, rfl, hB, hg, hn, hm, by simpa using hs, by simpa using ht⟩
theorem OwnQ.of_nil (e : TypeId) (w : World) (B : Nat) : OwnQ e w B none 0 0 [] := ⟨rfl, Qwd.nil, by simp, .inl ⟨rfl, rfl⟩⟩
theorem OwnQ.of_cells {e : TypeId} {w : World} {B g n cap : Nat} {xs : List Int} {cur : Array Value} (hB : B ≤ g) (hg : w.heap[g]? = some (.cells cur e (0, 0))) (hn : n ≤ cap) (hm : cap ≤ maxLen) (hc : cur.size = cap)
    (hx : xs.length = n) (hb : Qwd xs) (ht : cur.toList.take n = xs.map (Value.int .u64)) : OwnQ e w B (some ⟨g, 0, none⟩) n cap xs :=
  ⟨hx, hb, by simp [hx], .inr ⟨g, cap, cur, rfl, hB, hg, hn, hm, by simp [hc], by simpa using ht⟩⟩

theorem OwnQ.row {e : TypeId} {w : World} {B n cap : Nat} {a : Option Addr} {xs : List Int} (h : OwnQ e w B a n cap xs) : RowQ w a n cap xs := by
  have hc := h.cases
  obtain ⟨h1, h2, h3⟩ := h
  rcases hc with ⟨rfl, rfl, rfl, rfl⟩ | ⟨g, cur, rfl, hB, hg, hn, hm, hs, ht⟩
  · exact RowQ.nil w
  · refine ⟨h1, hn, hm, h2, fun h => by simp at h, fun _ => ⟨_, _, rfl⟩, fun x hx i hi => ?_⟩
    obtain rfl := Option.some.inj hx
    exact h3.cells (g := g) rfl i (.int .u64 (xs.getD i 0)) (by simp [List.getElem?_map, List.getElem?_eq_getElem (show i < xs.length by omega)])
theorem OwnQ.lt {e : TypeId} {w : World} {B g off n cap : Nat} {xs : List Int} (h : OwnQ e w B (some ⟨g, off, none⟩) n cap xs) : B ≤ g ∧ g < w.heap.size := by
  rcases h.cases with ⟨h, _⟩ | ⟨g', cur, hv, hB, hg, _⟩
  · simp at h
  · simp only [Option.some.injEq, Addr.mk.injEq, and_true] at hv
    obtain ⟨rfl, _⟩ := hv
    exact ⟨hB, (Array.getElem?_eq_some_iff.1 hg).1⟩

theorem OwnQ.below {e : TypeId} {w w' : World} {B n cap : Nat} {a : Option Addr} {xs : List Int} (h : OwnQ e w B a n cap xs) (hb : Below w.heap.size w w') : OwnQ e w' B a n cap xs := by
  rcases h.cases with ⟨rfl, rfl, rfl, rfl⟩ | ⟨g, cur, rfl, hB, hg, hn, hm, hs, ht⟩
  · exact OwnQ.of_nil _ _ _
  · exact OwnQ.of_cells hB ((hb.block g (Array.getElem?_eq_some_iff.1 hg).1).trans hg) hn hm hs h.1 h.2.1 ht
theorem OwnQ.mono {e : TypeId} {w : World} {B B' n cap : Nat} {a : Option Addr} {xs : List Int} (h : OwnQ e w B a n cap xs) (hB' : B' ≤ B) : OwnQ e w B' a n cap xs := by
  rcases h.cases with ⟨rfl, rfl, rfl, rfl⟩ | ⟨g, cur, rfl, hB, hg, hn, hm, hs, ht⟩
  · exact OwnQ.of_nil _ _ _
  · exact OwnQ.of_cells (Nat.le_trans hB' hB) hg hn hm hs h.1 h.2.1 ht
/-- The first m of a row of the call's own: one such. -/
theorem OwnQ.pre {e : TypeId} {w : World} {B n cap : Nat} {a : Option Addr} {xs : List Int} (h : OwnQ e w B a n cap xs) (m : Nat) (hm' : m ≤ n) : OwnQ e w B a m cap (xs.take m) := by
  have hlen := h.1
  rcases h.cases with ⟨rfl, rfl, rfl, rfl⟩ | ⟨g, cur, rfl, hB, hg, hn, hm, hs, ht⟩
  · obtain rfl : m = 0 := by omega
    exact OwnQ.of_nil _ _ _
  · refine OwnQ.of_cells hB hg (by omega) hm hs (by simp; omega) (h.2.1.take m) ?_
    rw [List.map_take, ← ht, List.take_take, Nat.min_eq_left hm']

theorem quads_one (xs : List Int) : ∀ u ∈ xs.map (Value.int .u64), u.oneCell' = true := ints_oneCell .u64 xs

theorem RowQ.news {w : World} {x : Addr} {n cap : Nat} {xs : List Int} (h : RowQ w (some x) n cap xs) : ∀ j u, (xs.map (Value.int .u64))[j]? = some u → w.cell? (x.add j) = some u := by
  intro j u hj
  obtain ⟨h1, _, _, _, _, _, h7⟩ := h
  have hjl : j < xs.length := by
    by_cases hl : j < xs.length
    · exact hl
    · simp [List.getElem?_eq_none (Nat.le_of_not_lt hl)] at hj
  rw [h7 x rfl j (by omega)]
  simp [List.getElem?_eq_getElem hjl] at hj
  simp [List.getElem?_eq_getElem hjl, hj]

theorem RowQ.pre {w : World} {a : Option Addr} {n cap : Nat} {xs : List Int} (h : RowQ w a n cap xs) (m : Nat) (hm : m ≤ n) : RowQ w a m cap (xs.take m) := by
  obtain ⟨h1, h2, h3, h4, h5, h6, h7⟩ := h
  refine ⟨by simp; omega, by omega, h3, h4.take m, fun ha => ⟨by have := h5 ha; omega, (h5 ha).2⟩, fun hp => h6 (by omega), fun x hx i hi => ?_⟩
  rw [h7 x hx i (by omega)]
  simp [List.getD, hi]
theorem RowQ.sub {w : World} {b off n cap : Nat} {xs : List Int} (h : RowQ w (some ⟨b, off, none⟩) n cap xs) (k m : Nat) (hm : k + m ≤ n) : RowQ w (some ⟨b, off + k, none⟩) m (cap - k) ((xs.drop k).take m) := by
  have h7 := fun i (hi : i < n) => h.cells i hi
  obtain ⟨h1, h2, h3, h4, _, _, _⟩ := h
  refine ⟨by simp; omega, by omega, by omega, (h4.drop k).take m, fun ha => by simp at ha, fun _ => ⟨_, _, rfl⟩, fun x hx i hi => ?_⟩
  obtain rfl := Option.some.inj hx
  have hk : ((⟨b, off + k, none⟩ : Addr).add i) = ⟨b, off + (k + i), none⟩ := by
    by_cases h0 : i = 0
    · subst h0; simp [Addr.add]
    · simp [Addr.add, h0, Nat.add_assoc]
  rw [hk, h7 (k + i) (by omega)]
  simp [List.getD, hi]
theorem RowQ.tail {w : World} {b off n cap : Nat} {xs : List Int} (h : RowQ w (some ⟨b, off, none⟩) n cap xs) (k : Nat) (hk : k ≤ n) : RowQ w (some ⟨b, off + k, none⟩) (n - k) (cap - k) (xs.drop k) := by
  have h1 := h.sub k (n - k) (by omega)
  rwa [List.take_of_length_le (by simp [h.len])] at h1

/-- A new block of numbers that are known. -/
theorem ownq_lit (w : World) (e : TypeId) (xs : List Int) (n : Nat) (hn : xs.length = n) (hm : n ≤ 9223372036854775807) (hb : Qwd xs) : OwnQ e (w.alloc (.cells (xs.map (Value.int .u64)).toArray e)) w.heap.size (some ⟨w.heap.size, 0, none⟩) n n xs :=
  OwnQ.of_cells (Nat.le_refl _) (heap_alloc_new w _) (Nat.le_refl _) hm (by simp [hn]) hn hb (List.take_of_length_le (by simp [hn]))
theorem rowq_lit (w : World) (e : TypeId) (xs : List Int) (n : Nat) (hn : xs.length = n) (hm : n ≤ 9223372036854775807) (hb : Qwd xs) : RowQ (w.alloc (.cells (xs.map (Value.int .u64)).toArray e)) (some ⟨w.heap.size, 0, none⟩) n n xs :=
  (ownq_lit w e xs n hn hm hb).row

theorem OwnQ.block {e : TypeId} {w : World} {B g n cap : Nat} {xs : List Int} (h : OwnQ e w B (some ⟨g, 0, none⟩) n cap xs) :
    ∃ cur : Array Value, B ≤ g ∧ w.heap[g]? = some (.cells cur e (0, 0)) ∧ n ≤ cap ∧ cap ≤ maxLen ∧ cur.size = cap ∧ cur.toList.take n = xs.map (Value.int .u64) := by
  rcases h.cases with ⟨h, _⟩ | ⟨g', cur, hv, r⟩
  · simp at h
  · simp only [Option.some.injEq, Addr.mk.injEq, and_true] at hv
    subst hv
    exact ⟨cur, r⟩
theorem OwnQ.set {e : TypeId} {w : World} {B g n cap : Nat} {xs : List Int} (h : OwnQ e w B (some ⟨g, 0, none⟩) n cap xs) (i : Nat) (v : Int) (hv : 0 ≤ v ∧ v < 18446744073709551616) :
    OwnQ e (w.setCell ⟨g, i, none⟩ (.int .u64 v)) B (some ⟨g, 0, none⟩) n cap (xs.set i v) := by
  obtain ⟨cur, hB, hg, hn, hm, hs, ht⟩ := h.block
  refine OwnQ.of_cells hB (heap_setCell_same w g i cur e _ hg) hn hm (by simp [hs]) (by simp [h.1]) (h.2.1.set i v hv) ?_
  rw [Array.toList_setIfInBounds, List.map_set, ← ht, List.take_set]
theorem OwnQ.cell {e : TypeId} {w : World} {B g n cap : Nat} {xs : List Int} (h : OwnQ e w B (some ⟨g, 0, none⟩) n cap xs) (i : Nat) (hi : i < n) : w.cell? ⟨g, i, none⟩ = some (.int .u64 (xs.getD i 0)) := by
  have := h.row.cells i hi
  rwa [Nat.zero_add] at this
theorem OwnQ.melt {e : TypeId} {w : World} {B g n cap : Nat} {xs : List Int} (h : OwnQ e w B (some ⟨g, 0, none⟩) n cap xs) (i : Nat) : w.frozen? ⟨g, i, none⟩ = false := by
  obtain ⟨cur, hB, hg, hn, hm, hs, ht⟩ := h.block
  simp [World.frozen?, hg]

section
variable {P : Program} {ops : Array Oper} {rest : List Oper} {o : Oper} {a : Act} {Q : Exit → Act → World → Prop}

/-- 'append(s, x...)', s nil or a row of the call's own, x whatever numbers: it may grow. -/
theorem op_append_quads_g {K : Act → World → Prop} (w : World) (s x : Operand) (t : TypeId) (ho : o.op = .call { callee := .builtin .append, args := #[s, x], argTypes := #[t, t] })
    (e : TypeId) (ht : P.underlying t = some (.slice e)) (hinfo : (P.info? e).map (fun i => (i.zero, i.size, i.bytes)) = some (some (.int .u64 0), 1, 8))
    (B n cap : Nat) (so : Option Addr) (ys : List Int) (hs : a.eval s = .slice so n cap) (hown : OwnQ e w B so n cap ys)
    (ao : Option Addr) (m c : Nat) (xs : List Int) (hx : a.eval x = .slice ao m c) (hrow : RowQ w ao m c xs) (hbd : n + m ≤ 8796093022208) (hB : B ≤ w.heap.size)
    (w0 : World) (hbel : Below B w0 w)
    (h : ∀ so' cap' w', OwnQ e w' B so' (n + m) cap' (ys ++ xs) → Below B w0 w' → w.grownBy w' (Value.slice so n cap).ownBlock → K (a.put o.dst (.slice so' (n + m) cap')) w') : Oper.wp P o a w K Q := by
  obtain ⟨i, hi, hz0, hz1, hz2⟩ := info_parts hinfo
  have hbn : ∀ k, (Value.slice so n cap).ownBlock = some k → B ≤ k := by
    intro k hk
    rcases hown.cases with ⟨rfl, _⟩ | ⟨g, cur, rfl, hBg, _⟩
    · simp [Value.ownBlock] at hk
    · obtain rfl : g = k := by simpa [Value.ownBlock] using hk
      exact hBg
  have fin : ∀ v' w', w'.ownsRow B e 1 v' (n + m) (ys.map (Value.int .u64) ++ xs.map (Value.int .u64)) → w.grownBy w' (Value.slice so n cap).ownBlock → (v' = .slice none 0 0 ↔ Value.slice so n cap = .slice none 0 0 ∧ m = 0) → K (a.put o.dst v') w' := by
    intro v' w' h1 h2 _
    have hl : (ys ++ xs).length = n + m := by simp [hown.1, hrow.1]
    have h1' : w'.ownsRow B e 1 v' (n + m) ((ys ++ xs).map (Value.int .u64)) := by simpa using h1
    rcases h1'.2 with ⟨hv, h0⟩ | ⟨g', cap', cur, hv, r⟩
    · subst hv
      have hn0 : n + m = 0 := h0
      have := h none 0 w' ⟨hl, hown.2.1.append hrow.qwd, by rw [hn0] at h1' ⊢; exact h1'⟩ (hbel.grown h2 hB hbn) h2
      rw [hn0] at this
      exact this
    · subst hv
      exact h _ cap' w' ⟨hl, hown.2.1.append hrow.qwd, h1'⟩ (hbel.grown h2 hB hbn) h2
  cases ao with
  | some ad =>
    exact wp_append_own w s x t ho B e i (.int .u64 0) 1 8 ht hi hz0 hz1 hz2 rfl (by decide) _ n _ hs hown.2.2 ad m c (xs.map (Value.int .u64)) hx (by simp [hrow.1]) hrow.news (quads_one xs) (by unfold maxLen; omega) (by omega) hB fin
  | none =>
    obtain ⟨rfl, rfl⟩ := hrow.2.2.2.2.1 rfl
    have hnil : xs = [] := List.eq_nil_of_length_eq_zero hrow.1
    subst hnil
    have hrun := run_append_owned_none (P := P) w B t o.type e i 1 ht hi (.slice so n cap) n (ys.map (Value.int .u64)) hown.2.2
    unfold Oper.wp
    simp [execOp, ho, resolve, invoke, builtin, hs, hx, hrun, Result.andThen]
    exact (show K (a.put o.dst (.slice so n cap)) w by simpa using h so cap w (by simpa using hown) hbel ⟨rfl, rfl, rfl, Nat.le_refl _, fun _ _ _ => rfl⟩)
theorem op_append_quads {K : Act → World → Prop} (w : World) (s x : Operand) (t : TypeId) (ho : o.op = .call { callee := .builtin .append, args := #[s, x], argTypes := #[t, t] })
    (e : TypeId) (ht : P.underlying t = some (.slice e)) (hinfo : (P.info? e).map (fun i => (i.zero, i.size, i.bytes)) = some (some (.int .u64 0), 1, 8))
    (B n cap : Nat) (so : Option Addr) (ys : List Int) (hs : a.eval s = .slice so n cap) (hown : OwnQ e w B so n cap ys)
    (ao : Option Addr) (m c : Nat) (xs : List Int) (hx : a.eval x = .slice ao m c) (hrow : RowQ w ao m c xs) (hbd : n + m ≤ 8796093022208) (hB : B ≤ w.heap.size)
    (w0 : World) (hbel : Below B w0 w)
    (h : ∀ so' cap' w', OwnQ e w' B so' (n + m) cap' (ys ++ xs) → Below B w0 w' → K (a.put o.dst (.slice so' (n + m) cap')) w') : Oper.wp P o a w K Q :=
  op_append_quads_g w s x t ho e ht hinfo B n cap so ys hs hown ao m c xs hx hrow hbd hB w0 hbel fun so' cap' w' h1 h2 _ => h so' cap' w' h1 h2
theorem RowQ.grown {w w' : World} {a : Option Addr} {n cap : Nat} {xs : List Int} {r : Option Nat} (h : RowQ w a n cap xs) (hg : w.grownBy w' r) (hne : ∀ x, a = some x → r ≠ some x.block) : RowQ w' a n cap xs := by
  obtain ⟨h1, h2, h3, h4, h5, h6, h7⟩ := h
  refine ⟨h1, h2, h3, h4, h5, h6, fun x hx i hi => ?_⟩
  have hc := h7 x hx i hi
  have hb : (x.add i).block = x.block := by simp [Addr.add]; split <;> rfl
  have hlt := lt_of_cell hc
  have he : w'.heap[(x.add i).block]? = w.heap[(x.add i).block]? := hg.block _ hlt (by rw [hb]; exact fun e => hne x hx e.symm)
  rw [← hc]
  unfold World.cell?
  rw [he]
theorem wp_append_quads (w : World) (hgd : o.guard = none) (s x : Operand) (t : TypeId) (ho : o.op = .call { callee := .builtin .append, args := #[s, x], argTypes := #[t, t] })
    (e : TypeId) (ht : P.underlying t = some (.slice e)) (hinfo : (P.info? e).map (fun i => (i.zero, i.size, i.bytes)) = some (some (.int .u64 0), 1, 8))
    (B n cap : Nat) (so : Option Addr) (ys : List Int) (hs : a.eval s = .slice so n cap) (hown : OwnQ e w B so n cap ys)
    (ao : Option Addr) (m c : Nat) (xs : List Int) (hx : a.eval x = .slice ao m c) (hrow : RowQ w ao m c xs) (hbd : n + m ≤ 8796093022208) (hB : B ≤ w.heap.size)
    (w0 : World) (hbel : Below B w0 w)
    (h : ∀ so' cap' w', OwnQ e w' B so' (n + m) cap' (ys ++ xs) → Below B w0 w' → wpList P ops Q rest (a.put o.dst (.slice so' (n + m) cap')) w') : wpList P ops Q (o :: rest) a w :=
  wpList_plain hgd fun _ hK => op_append_quads w s x t ho e ht hinfo B n cap so ys hs hown ao m c xs hx hrow hbd hB w0 hbel fun so' cap' w' h1 h2 => hK _ _ (h so' cap' w' h1 h2)
/-- 'x[k:]' of a slice of numbers, whatever its address. -/
theorem RowQ.from {w : World} {a : Option Addr} {n cap : Nat} {xs : List Int} (h : RowQ w a n cap xs) (k : Nat) (hk : k ≤ n) : RowQ w (if cap = k then a else a.map (fun x => x.add k)) (n - k) (cap - k) (xs.drop k) := by
  have hc := h.cap_le
  have hl := h.len
  by_cases h0 : n = k
  · subst h0
    have hnil : xs.drop n = [] := by rw [List.drop_eq_nil_iff]; omega
    rw [hnil, Nat.sub_self]
    cases a with
    | none =>
      have := h.2.2.2.2.1 rfl
      obtain ⟨rfl, rfl⟩ := this
      simpa using RowQ.nil w
    | some x =>
      by_cases hcn : cap = n
      · rw [if_pos hcn]; exact RowQ.none_of _ _ _ (by omega)
      · rw [if_neg hcn]; exact RowQ.none_of _ _ _ (by omega)
  · obtain ⟨b, off, rfl, _⟩ := h.at (by omega)
    rw [if_neg (by omega)]
    have := h.tail k hk
    by_cases hk0 : k = 0
    · subst hk0; simpa [Addr.add] using h
    · simpa [Addr.add, hk0] using this
end
end Go.Proofs.Ytkmpmljohjelhaa

namespace Go.Proofs.Ytkmpmljohjelhaa
set_option maxRecDepth 100000

/-- How many numbers x has, if it is a name of at most f numbers. -/
def dp : Nat → Int → Option Nat
  | 0, x => if x = 1 then some 0 else none
  | f + 1, x => if x = 1 then some 0 else if x % 64 = 0 then none else (dp f (x / 64)).map (· + 1)
/-- Is x a name? -/
def isN (x : Int) : Bool := (dp 6 x).isSome
/-- How many numbers x has: none where it is no name. -/
def dN (x : Int) : Nat := (dp 6 x).getD 0
/-- The n lowest of x's boxes, x itself the last. -/
def upN (x : Int) : Nat → List Int
  | 0 => []
  | n + 1 => x / 64 ^ n :: upN x n
/-- The path. -/
def pth (x : Int) : List Int := if isN x = true then upN x (dN x + 1) else []
/-- Is b on x's path? -/
def wi (x b : Int) : Bool := decide (b ∈ pth x)
def par (x : Int) : Int := if isN x = true then x / 64 else 0
def nmb (x : Int) : Int := if x = 1 then 0 else if isN x = true then x % 64 else 0

/-- x is a name of d numbers. -/
def Nm (x : Int) (d : Nat) : Prop := x / 64 ^ d = 1 ∧ ∀ k, k < d → x / 64 ^ k % 64 ≠ 0

theorem pow_pos64 (k : Nat) : (0 : Int) < 64 ^ k := Int.pow_pos (by decide)
theorem div_div64 (x : Int) (k j : Nat) : x / 64 ^ k / 64 ^ j = x / 64 ^ (k + j) := by
  rw [Int.ediv_ediv_of_nonneg (Int.le_of_lt (pow_pos64 k)), ← Int.pow_add]
theorem div_one64 (x : Int) (k : Nat) : x / 64 ^ k / 64 = x / 64 ^ (k + 1) := by
  have := div_div64 x k 1
  simpa using this
theorem div_suc64 (x : Int) (k : Nat) : x / 64 / 64 ^ k = x / 64 ^ (k + 1) := by
  have := div_div64 x 1 k
  rw [Nat.add_comm] at this
  simpa using this
theorem one_div64 (k : Nat) : (1 : Int) / 64 ^ (k + 1) = 0 := by
  rw [Int.pow_succ, Int.mul_comm, ← Int.ediv_ediv_of_nonneg (by decide)]
  simp
theorem Nm.uniq {x : Int} {d e : Nat} (h : Nm x d) (k : Nm x e) : d = e := by
  have key : ∀ d e : Nat, Nm x d → Nm x e → ¬ d < e := by
    intro d e h k hl
    obtain ⟨j, rfl⟩ : ∃ j, e = d + (j + 1) := ⟨e - d - 1, by omega⟩
    have := k.1
    rw [← div_div64, h.1, one_div64] at this
    omega
  have h1 := key d e h k
  have h2 := key e d k h
  omega
theorem Nm.suc {x : Int} {d : Nat} (h : Nm (x / 64) d) (h0 : x % 64 ≠ 0) : Nm x (d + 1) := by
  refine ⟨by rw [← div_suc64]; exact h.1, fun k hk => ?_⟩
  cases k with
  | zero => simpa using h0
  | succ k => rw [← div_suc64]; exact h.2 k (by omega)
theorem Nm.pred {x : Int} {d : Nat} (h : Nm x (d + 1)) : Nm (x / 64) d ∧ x % 64 ≠ 0 ∧ x ≠ 1 := by
  refine ⟨⟨by rw [div_suc64]; exact h.1, fun k hk => by rw [div_suc64]; exact h.2 (k + 1) (by omega)⟩, by simpa using h.2 0 (by omega), fun h1 => ?_⟩
  subst h1
  have := h.1
  rw [one_div64] at this
  omega
theorem Nm.zero {x : Int} : Nm x 0 ↔ x = 1 := ⟨fun h => by simpa using h.1, fun h => ⟨by simpa using h, fun k hk => by omega⟩⟩
theorem dp_iff : ∀ (f : Nat) (x : Int) (d : Nat), dp f x = some d ↔ d ≤ f ∧ Nm x d
  | 0, x, d => by
    unfold dp
    by_cases h : x = 1
    · rw [if_pos h]
      constructor
      · intro e; obtain rfl := Option.some.inj e; exact ⟨Nat.le_refl _, Nm.zero.2 h⟩
      · rintro ⟨h1, _⟩; obtain rfl : d = 0 := by omega
        rfl
    · rw [if_neg h]
      constructor
      · intro e; cases e
      · rintro ⟨h1, h2⟩; obtain rfl : d = 0 := by omega
        exact absurd (Nm.zero.1 h2) h
  | f + 1, x, d => by
    unfold dp
    by_cases h : x = 1
    · rw [if_pos h]
      constructor
      · intro e; obtain rfl := Option.some.inj e; exact ⟨by omega, Nm.zero.2 h⟩
      · rintro ⟨_, h2⟩; rw [(Nm.zero.2 h).uniq h2]
    · rw [if_neg h]
      by_cases h0 : x % 64 = 0
      · rw [if_pos h0]
        constructor
        · intro e; cases e
        · rintro ⟨_, h2⟩
          cases d with
          | zero => exact absurd (Nm.zero.1 h2) h
          | succ d => exact absurd h0 h2.pred.2.1
      · rw [if_neg h0]
        cases d with
        | zero =>
          constructor
          · intro e; cases hd : dp f (x / 64) <;> simp [hd] at e
          · rintro ⟨_, h2⟩; exact absurd (Nm.zero.1 h2) h
        | succ d =>
          have ih := dp_iff f (x / 64) d
          constructor
          · intro e
            cases hd : dp f (x / 64) with
            | none => simp [hd] at e
            | some d' =>
              simp [hd] at e
              subst e
              have := ih.1 hd
              exact ⟨by omega, this.2.suc h0⟩
          · rintro ⟨h1, h2⟩
            rw [ih.2 ⟨by omega, h2.pred.1⟩]
            rfl
theorem isN_iff (x : Int) : isN x = true ↔ ∃ d, d ≤ 6 ∧ Nm x d := by
  unfold isN
  constructor
  · intro h
    obtain ⟨d, hd⟩ := Option.isSome_iff_exists.1 h
    exact ⟨d, (dp_iff 6 x d).1 hd⟩
  · rintro ⟨d, h⟩
    rw [(dp_iff 6 x d).2 h]; rfl
theorem Nm.is {x : Int} {d : Nat} (h : Nm x d) (hd : d ≤ 6) : isN x = true ∧ dN x = d := by
  unfold isN dN
  rw [(dp_iff 6 x d).2 ⟨hd, h⟩]
  exact ⟨rfl, rfl⟩
theorem nm_of {x : Int} (h : isN x = true) : dN x ≤ 6 ∧ Nm x (dN x) := by
  obtain ⟨d, hd, hn⟩ := (isN_iff x).1 h
  rw [(hn.is hd).2]
  exact ⟨hd, hn⟩
theorem dN_le (x : Int) : dN x ≤ 6 := by
  by_cases h : isN x = true
  · exact (nm_of h).1
  · unfold isN at h
    unfold dN
    cases hd : dp 6 x with
    | none => simp
    | some d => simp [hd] at h
theorem dN_no {x : Int} (h : isN x = false) : dN x = 0 := by
  unfold isN at h
  unfold dN
  cases hd : dp 6 x with
  | none => rfl
  | some d => simp [hd] at h
/-- What a name of d numbers is. -/
theorem pow_up (d : Nat) (h : d ≤ 6) : (64 : Int) ^ d ≤ 68719476736 := by
  match d, h with
  | 0, _ => decide
  | 1, _ => decide
  | 2, _ => decide
  | 3, _ => decide
  | 4, _ => decide
  | 5, _ => decide
  | 6, _ => decide
theorem isN_bd {x : Int} (h : isN x = true) : 1 ≤ x ∧ x < 137438953472 := by
  obtain ⟨h1, h2⟩ := nm_of h
  have h3 := pow_up _ h1
  have h4 := pow_pos64 (dN x)
  have h5 := h2.1
  generalize (64 : Int) ^ dN x = t at *
  have h6 := Int.mul_ediv_add_emod x t
  have h7 := Int.emod_nonneg x (show t ≠ 0 by omega)
  have h8 := Int.emod_lt_of_pos x h4
  rw [h5] at h6
  omega

/-! The list of boxes. -/
theorem up_len (x : Int) (n : Nat) : (upN x n).length = n := by
  induction n with
  | zero => rfl
  | succ n ih => simp [upN, ih]
theorem up_get (x : Int) (n i : Nat) (h : i < n) : (upN x n).getD i 0 = x / 64 ^ (n - 1 - i) := by
  induction n generalizing i with
  | zero => omega
  | succ n ih =>
    cases i with
    | zero => simp [upN]
    | succ i =>
      simp only [upN, List.getD_cons_succ]
      rw [ih i (by omega)]
      congr 2
      omega
theorem up_mem (x b : Int) (n : Nat) : b ∈ upN x n ↔ ∃ k, k < n ∧ b = x / 64 ^ k := by
  induction n with
  | zero => simp [upN]
  | succ n ih =>
    simp only [upN, List.mem_cons, ih]
    constructor
    · rintro (h | ⟨k, hk, h⟩)
      · exact ⟨n, by omega, h⟩
      · exact ⟨k, by omega, h⟩
    · rintro ⟨k, hk, h⟩
      by_cases hn : k = n
      · subst hn; exact .inl h
      · exact .inr ⟨k, by omega, h⟩
theorem up_all (xs : List Int) (x : Int) (n : Nat) (hl : xs.length = n) (h : ∀ j, j < n → xs.getD j 0 = x / 64 ^ (n - 1 - j)) : xs = upN x n := by
  refine List.ext_getElem (by rw [hl, up_len]) fun i h1 h2 => ?_
  have h3 := h i (by omega)
  have h4 := up_get x n i (by omega)
  rw [List.getD_eq_getElem?_getD, List.getElem?_eq_getElem h1] at h3
  rw [List.getD_eq_getElem?_getD, List.getElem?_eq_getElem h2] at h4
  simp at h3 h4
  rw [h3, h4]
theorem pth_yes {x : Int} (h : isN x = true) : pth x = upN x (dN x + 1) := if_pos h
theorem pth_no {x : Int} (h : isN x = false) : pth x = [] := if_neg (by simp [h])
theorem pth_mem (x b : Int) : b ∈ pth x ↔ isN x = true ∧ ∃ k, k ≤ dN x ∧ b = x / 64 ^ k := by
  by_cases h : isN x = true
  · rw [pth_yes h, up_mem]
    constructor
    · rintro ⟨k, hk, e⟩; exact ⟨h, k, by omega, e⟩
    · rintro ⟨_, k, hk, e⟩; exact ⟨k, by omega, e⟩
  · rw [pth_no (by simpa using h)]
    simp [h]
theorem pth_len (x : Int) : (pth x).length = if isN x = true then dN x + 1 else 0 := by
  unfold pth
  split <;> simp [up_len]
theorem pth_bd (x : Int) (hx : 0 ≤ x ∧ x < 18446744073709551616) : ∀ y ∈ pth x, 0 ≤ y ∧ y < 18446744073709551616 := by
  intro y hy
  obtain ⟨_, k, _, rfl⟩ := (pth_mem x y).1 hy
  refine ⟨Int.ediv_nonneg hx.1 (Int.le_of_lt (pow_pos64 k)), ?_⟩
  exact Int.lt_of_le_of_lt (Int.ediv_le_self _ hx.1) hx.2
/-- A box on a path is a name, so many numbers upN. -/
theorem nm_up {x : Int} {d : Nat} (h : Nm x d) (k : Nat) (hk : k ≤ d) : Nm (x / 64 ^ k) (d - k) := by
  refine ⟨by rw [div_div64, show k + (d - k) = d by omega]; exact h.1, fun j hj => ?_⟩
  rw [div_div64]
  exact h.2 (k + j) (by omega)
theorem wi_name {x b : Int} (h : b ∈ pth x) : isN x = true ∧ isN b = true ∧ dN b ≤ dN x ∧ b = x / 64 ^ (dN x - dN b) := by
  obtain ⟨hx, k, hk, rfl⟩ := (pth_mem x b).1 h
  obtain ⟨h6, hn⟩ := nm_of hx
  have h1 := (nm_up hn k hk).is (by omega)
  refine ⟨hx, h1.1, by omega, ?_⟩
  rw [h1.2, show dN x - (dN x - k) = k by omega]
theorem wi_iff (x b : Int) : b ∈ pth x ↔ isN x = true ∧ dN b ≤ dN x ∧ x / 64 ^ (dN x - dN b) = b := by
  constructor
  · intro h
    obtain ⟨h1, _, h3, h4⟩ := wi_name h
    exact ⟨h1, h3, h4.symm⟩
  · rintro ⟨h1, h2, h3⟩
    exact (pth_mem x b).2 ⟨h1, _, by omega, h3.symm⟩
theorem wi_self (x : Int) : wi x x = isN x := by
  rw [Bool.eq_iff_iff]
  unfold wi
  rw [decide_eq_true_iff, wi_iff]
  simp
theorem wi_trans {a b c : Int} (h : wi a b = true) (k : wi b c = true) : wi a c = true := by
  unfold wi at *
  rw [decide_eq_true_iff] at *
  obtain ⟨h1, h2, h3, h4⟩ := wi_name h
  obtain ⟨_, h6, h7, h8⟩ := wi_name k
  refine (pth_mem a c).2 ⟨h1, (dN a - dN b) + (dN b - dN c), by omega, ?_⟩
  rw [← div_div64, ← h4, ← h8]
theorem wi_anti {a b : Int} (h : wi a b = true) (k : wi b a = true) : a = b := by
  unfold wi at *
  rw [decide_eq_true_iff] at *
  obtain ⟨h1, h2, h3, h4⟩ := wi_name h
  obtain ⟨_, h6, h7, h8⟩ := wi_name k
  rw [show dN a - dN b = 0 by omega] at h4
  simpa using h4.symm
/-- One number more. -/
theorem nm_next {x n : Int} (h : isN x = true) (h6 : dN x < 6) (hn : 1 ≤ n ∧ n ≤ 63) :
    isN (x * 64 + n) = true ∧ dN (x * 64 + n) = dN x + 1 ∧ par (x * 64 + n) = x ∧ nmb (x * 64 + n) = n ∧ wi (x * 64 + n) x = true ∧ wi x (x * 64 + n) = false := by
  obtain ⟨_, hm⟩ := nm_of h
  have hb := isN_bd h
  have hd : (x * 64 + n) / 64 = x := by omega
  have hq : (x * 64 + n) % 64 = n := by omega
  have h1 : Nm (x * 64 + n) (dN x + 1) := Nm.suc (by rw [hd]; exact hm) (by omega)
  obtain ⟨h2, h3⟩ := h1.is (by omega)
  have h4 : wi (x * 64 + n) x = true := by
    unfold wi
    rw [decide_eq_true_iff, pth_mem]
    exact ⟨h2, 1, by omega, by simp [hd]⟩
  refine ⟨h2, h3, by unfold par; rw [if_pos h2, hd], by unfold nmb; rw [if_neg (by omega), if_pos h2, hq], h4, ?_⟩
  cases hc : wi x (x * 64 + n) with
  | false => rfl
  | true => have := wi_anti h4 hc; omega
theorem pth_first {x : Int} (h : isN x = true) : (pth x).getD 0 0 = 1 := by
  rw [pth_yes h, up_get _ _ _ (by omega)]
  simpa using (nm_of h).2.1
theorem pth_last {x : Int} (h : isN x = true) : (pth x).getD (dN x) 0 = x := by
  rw [pth_yes h, up_get _ _ _ (by omega)]
  simp
end Go.Proofs.Ytkmpmljohjelhaa

namespace Go.Proofs.Ytkmpmljohjelhaa
open Go.RowKit
set_option maxRecDepth 100000

/-- A number of 64 bits. -/
def U (x : Int) : Prop := 0 ≤ x ∧ x < 18446744073709551616
theorem U.div {x : Int} (h : U x) (k : Nat) : U (x / 64 ^ k) := by
  have := Int.ediv_le_self (64 ^ k) h.1
  exact ⟨Int.ediv_nonneg h.1 (Int.le_of_lt (pow_pos64 k)), by have := h.2; omega⟩
theorem and63 (x : Int) (h : U x) : bits .and .u64 x 63 = x % 64 := by
  have := bits_mask .u64 64 (by decide) wraps_u64 6 (by decide) x h.1 h.2
  simpa using this
theorem pow_six (k : Nat) : (2 : Int) ^ (k * 6) = 64 ^ k := by
  rw [Nat.mul_comm, Int.pow_mul]; rfl

theorem last_any (x : Int) (h : U x) (w : World) : Calls Try.prog 60 #[.int .u64 x] w fun e w' => e = .returned (.int .i64 (x % 64)) ∧ w' = w := by
  have h1 := and63 x h
  have h2 : IntKind.i64.wrap (x % 64) = x % 64 := Go.IntWalk.i64_in _ (by omega)
  go_enter Try.func60, Try.ntmps60
  go_wp2
  first | go_ret | go_ret2
  exact ⟨rfl, rfl⟩
theorem above_any (x : Int) (k : Nat) (hk : k ≤ 6) (w : World) : Calls Try.prog 61 #[.int .u64 x, .int .i64 k] w fun e w' => e = .returned (.int .u64 (x / 64 ^ k)) ∧ w' = w := by
  go_enter Try.func61, Try.ntmps61
  go_wp2
  first | go_ret | go_ret2
  exact ⟨by rw [← pow_six]; rfl, rfl⟩
theorem above_one (x : Int) (w : World) : Calls Try.prog 61 #[.int .u64 x, .int .i64 1] w fun e w' => e = .returned (.int .u64 (x / 64)) ∧ w' = w := by
  have := above_any x 1 (by omega) w
  simpa using this

theorem dp_one (f : Nat) : dp f 1 = some 0 := by cases f <;> rfl
theorem dp_cut {x : Int} (h : x ≠ 1) : dp 0 x = none := if_neg h
theorem dp_bad {f : Nat} {x : Int} (h : x ≠ 1) (h0 : x % 64 = 0) : dp f x = none := by
  cases f with
  | zero => exact if_neg h
  | succ f => unfold dp; rw [if_neg h, if_pos h0]
theorem dp_step {f : Nat} {x : Int} (h : x ≠ 1) (h0 : x % 64 ≠ 0) : dp (f + 1) x = (dp f (x / 64)).map (· + 1) := by
  rw [dp, if_neg h, if_neg h0]

set_option maxHeartbeats 400000 in
theorem depth_any (x : Int) (hx : U x) (w : World) : Calls Try.prog 46 #[.int .u64 x] w fun e w' => e = .returned (.tuple #[.int .i64 (dN x), .bool (isN x)]) ∧ w' = w := by
  suffices H : ∀ o : Option Nat, dp 6 x = o → Calls Try.prog 46 #[.int .u64 x] w fun e w' => e = .returned (.tuple #[.int .i64 ((o.getD 0 : Nat) : Int), .bool o.isSome]) ∧ w' = w from H _ rfl
  intro o ho
  go_enter Try.func46, Try.ntmps46
  go_wp2_with fail
  go_loopw [0, 4] (fun v i wr => ∃ (d : Nat) (y : Int), d ≤ 6 ∧ v = .int .u64 y ∧ i = .int .i64 d ∧ wr = w ∧ Hid (U y) ∧ Hid ((dp (6 - d) y).map (· + d) = o)) (fun _ i _ => 6 - (intOf i).toNat)
  case atStart => exact ⟨0, x, by omega, rfl, rfl, rfl, hx, by rw [← ho]; cases dp 6 x <;> rfl⟩
  case round =>
    obtain ⟨d, y, hd, rfl, rfl, rfl, hy, hdp⟩ := hrel
    by_cases h1 : y = 1
    · have q1 : (y != 1) = false := by simp [h1]
      go_wp2
      first | go_ret | go_ret2
      obtain rfl : some d = o := by rw [← hdp.out, h1, dp_one]; simp
      exact ⟨rfl, rfl⟩
    · have q1 : (y != 1) = true := by simp [h1]
      by_cases h6 : d = 6
      · subst h6
        go_wp2
        first | go_ret | go_ret2
        obtain rfl : none = o := by rw [← hdp.out, dp_cut h1]; rfl
        exact ⟨rfl, rfl⟩
      · have q6 : ((d : Int) == 6) = false := by simp; omega
        by_cases h0 : y % 64 = 0
        · go_wp2_with fail
          refine (last_any y hy.out _).mono ?_
          rintro e w1 ⟨rfl, rfl⟩
          rw [h0]
          go_wp2_with fail
          first | go_ret | go_ret2
          obtain rfl : none = o := by rw [← hdp.out, dp_bad h1 h0]; rfl
          exact ⟨rfl, rfl⟩
        · have q0 : (y % 64 == 0) = false := by simp [h0]
          go_wp2_with fail
          refine (last_any y hy.out _).mono ?_
          rintro e w1 ⟨rfl, rfl⟩
          go_wp2_with fail
          refine (above_one y _).mono ?_
          rintro e w1 ⟨rfl, rfl⟩
          go_wp2_with fail
          go_roundw
          case rel =>
            refine ⟨d + 1, y / 64, by omega, rfl, by go_num, by trivial, by have := hy.out.div 1; rwa [Int.pow_one] at this, ?_⟩
            show Option.map _ _ = _
            rw [← hdp.out, show 6 - d = (6 - (d + 1)) + 1 by omega, dp_step h1 h0]
            cases dp (6 - (d + 1)) (y / 64) <;> simp [Nat.add_comm, Nat.add_left_comm]
          case measure => simp [intOf]; omega
theorem nmMay_any (x : Int) (hx : U x) (w : World) : Calls Try.prog 24 #[.int .u64 x] w fun e w' => e = .returned (.bool (isN x)) ∧ w' = w := by
  go_enter Try.func24, Try.ntmps24
  go_wp2_with fail
  refine (depth_any x hx _).mono ?_
  rintro e w1 ⟨rfl, rfl⟩
  go_wp2_with fail
  go_ret
  exact ⟨rfl, rfl⟩
/-- What Of answers. -/
def ofV (b n : Int) : Int := if isN b = false ∨ n < 1 ∨ 63 < n then 0 else if dN b = 6 then 0 else b * 64 + n
def ofE (b n : Int) : Int := if isN b = false ∨ n < 1 ∨ 63 < n then 1 else if dN b = 6 then 13 else 0
theorem of_arg {b n : Int} (h : isN b = false ∨ n < 1 ∨ 63 < n) : ofV b n = 0 ∧ ofE b n = 1 := ⟨if_pos h, if_pos h⟩
theorem of_deep {b n : Int} (h : isN b = true) (h1 : 1 ≤ n ∧ n ≤ 63) (h6 : dN b = 6) : ofV b n = 0 ∧ ofE b n = 13 := by
  have : ¬ (isN b = false ∨ n < 1 ∨ 63 < n) := by simp [h]; omega
  exact ⟨by unfold ofV; rw [if_neg this, if_pos h6], by unfold ofE; rw [if_neg this, if_pos h6]⟩
theorem of_ok {b n : Int} (h : isN b = true) (h1 : 1 ≤ n ∧ n ≤ 63) (h6 : dN b ≠ 6) : ofV b n = b * 64 + n ∧ ofE b n = 0 := by
  have : ¬ (isN b = false ∨ n < 1 ∨ 63 < n) := by simp [h]; omega
  exact ⟨by unfold ofV; rw [if_neg this, if_neg h6], by unfold ofE; rw [if_neg this, if_neg h6]⟩
theorem or63 (b n : Int) (hb : 0 ≤ b ∧ b < 137438953472) (hn : 1 ≤ n ∧ n ≤ 63) : bits .or .u64 (b * 64) n = b * 64 + n :=
  bits_join .u64 64 (by decide) wraps_u64 6 (b * 64) n (by omega) (by omega) (by omega) (by omega) (by omega) (by omega)
theorem wi_no {x b : Int} (h : ¬ (isN x = true ∧ dN b ≤ dN x ∧ x / 64 ^ (dN x - dN b) = b)) : wi x b = false := by
  unfold wi
  rw [decide_eq_false_iff_not, wi_iff]
  exact h
theorem wi_yes {x b : Int} (h : isN x = true ∧ dN b ≤ dN x ∧ x / 64 ^ (dN x - dN b) = b) : wi x b = true := by
  unfold wi
  rw [decide_eq_true_iff, wi_iff]
  exact h
end Go.Proofs.Ytkmpmljohjelhaa

namespace Go.Proofs.Ytkmpmljohjelhaa
open Go.RowKit
set_option maxRecDepth 100000

theorem infoQ : (Try.prog.info? 22).map (fun i => (i.zero, i.size, i.bytes)) = some (some (.int .u64 0), 1, 8) := by kernel_rfl
theorem made_own (w : World) (m : Nat) (h : m ≤ 1000) : OwnQ 22 (w.alloc (.cells (madeCells #[.int .u64 0] m) 22)) w.heap.size (some ⟨w.heap.size, 0, none⟩) m m (List.replicate m 0) := by
  have hy : madeCells #[Value.int .u64 0] m = (List.replicate m (Value.int .u64 0)).toArray := by
    have := toList_madeCells_one (Value.int .u64 0) m
    rw [← this]
  refine OwnQ.of_cells (Nat.le_refl _) (heap_alloc_new w _) (Nat.le_refl _) (by unfold maxLen; omega) (by rw [hy]; simp) (by simp) (fun y hy => by rw [List.eq_of_mem_replicate hy]; omega) ?_
  rw [hy]
  simp

/-- Not a name: somewhere on the way down a number is missing, or it never comes to Root. -/
theorem no_name {x : Int} {n : Nat} (hgt : ∀ k, k < n → 1 < x / 64 ^ k) (h : x / 64 ^ n ≤ 0 ∨ (1 < x / 64 ^ n ∧ x / 64 ^ n % 64 = 0) ∨ (6 < n ∧ Nm x n)) : isN x = false := by
  cases hc : isN x with
  | false => rfl
  | true =>
    exfalso
    obtain ⟨h6, hm⟩ := nm_of hc
    generalize dN x = d at *
    have hd : n ≤ d := by
      by_cases hl : d < n
      · have := hgt d hl; have := hm.1; omega
      · omega
    rcases h with h | ⟨h, h0⟩ | ⟨h, hn⟩
    · have h1 := hm.1
      rw [show d = n + (d - n) by omega, ← div_div64] at h1
      have h2 : x / 64 ^ n / 64 ^ (d - n) ≤ 0 := Int.ediv_le_iff_le_mul (pow_pos64 _) |>.2 (by have := pow_pos64 (d - n); omega)
      omega
    · by_cases he : n = d
      · subst he; have := hm.1; omega
      · exact hm.2 n (by omega) h0
    · have := hn.uniq hm; omega
theorem few {x : Int} {n : Nat} (hx : U x) (hgt : ∀ k, k < n → 1 < x / 64 ^ k) : n ≤ 11 := by
  by_cases h : n ≤ 11
  · exact h
  · have h1 := hgt 11 (by omega)
    have h2 := hx.2
    have h3 := hx.1
    rw [show (64 : Int) ^ 11 = 73786976294838206464 by decide] at h1
    omega

set_option maxHeartbeats 400000 in
theorem refPath_any (x : Int) (hx : U x) (w : World) : Calls Try.prog 53 #[.int .u64 x] w fun e w' => ∃ so n co, e = .returned (.slice so n co) ∧ RowQ w' so n co (pth x) ∧ Below w.heap.size w w' := by
  go_enter Try.func53, Try.ntmps53
  go_wp2_with fail
  go_loopw [0, 3, 4] (fun v l iv wr => ∃ (n : Nat) (y : Int) (so : Option Addr) (co : Nat), v = .int .u64 y ∧ l = .slice so n co ∧ iv = .int .i64 n ∧ OwnQ 22 wr w.heap.size so n co (upN x n) ∧ Below w.heap.size w wr
      ∧ Hid (y = x / 64 ^ n) ∧ Hid (∀ k, k < n → 1 < x / 64 ^ k) ∧ Hid (∀ k, k < n → x / 64 ^ k % 64 ≠ 0)) (fun _ _ iv _ => 20 - (intOf iv).toNat)
  case atStart => exact ⟨0, x, none, 0, rfl, rfl, rfl, OwnQ.of_nil _ _ _, Below.refl _ _, by show x = _; simp, fun k hk => by omega, fun k hk => by omega⟩
  case round =>
    obtain ⟨n, y, so, co, rfl, rfl, rfl, ol, b1, hy, hgt, hne⟩ := hrel
    have hn11 := few hx hgt.out
    have hsz := b1.size
    by_cases h1 : 1 < y
    · have p1 : decide ((n : Int) < 20) = true := by simp; omega
      have hyu : U y := by rw [hy.out]; exact hx.div n
      by_cases h0 : y % 64 = 0
      · go_wp2_with fail
        go_ret
        refine ⟨none, 0, 0, rfl, ?_, b1⟩
        rw [pth_no (no_name hgt.out (.inr (.inl (by rw [← hy.out]; exact ⟨h1, h0⟩))))]
        exact RowQ.nil _
      · have p0 : (y % 64 == 0) = false := by simp [h0]
        have e0 : y.tdiv 64 = y / 64 := Int.tdiv_eq_ediv_of_nonneg hyu.1
        have e1 : IntKind.u64.wrap (y / 64) = y / 64 := by have := hyu.1; have := hyu.2; exact wraps_u64 _ (by omega) (by omega)
        have ow := (ownq_lit wr 22 [y] 1 rfl (by omega) (Qwd.one hyu)).mono hsz
        have hn1 : 1 + n ≤ 8796093022208 := by omega
        go_wp2_with (at_builtin; refine wp_append_quads _ rfl (.tmp 17) (.tmp 18) 73 rfl 22 Try.underlying73 infoQ w.heap.size 1 1 _ [y] rfl ow so n co _ rfl (ol.row.below (below_alloc _ _)) hn1 (by simp; omega) w (b1.trans ((below_alloc _ _).mono hsz)) ?_; intro s1 c1 w1 o1 b2)
        go_roundw
        case rel =>
          refine ⟨n + 1, y / 64, s1, c1, by go_num, by rw [Nat.add_comm], by go_num, ?_, b2, ?_, fun k hk => ?_, fun k hk => ?_⟩
          · rw [Nat.add_comm n 1, Nat.add_comm 1 n]
            show OwnQ _ _ _ _ _ _ (x / 64 ^ n :: upN x n)
            rw [← hy.out, Nat.add_comm n 1]; exact o1
          · show _ = _
            rw [hy.out, div_one64]
          · by_cases hkn : k = n
            · subst hkn; rw [← hy.out]; exact h1
            · exact hgt.out k (by omega)
          · by_cases hkn : k = n
            · subst hkn; rw [← hy.out]; exact h0
            · exact hne.out k (by omega)
        case measure => simp [intOf]; omega
    · have p1 : decide (1 < y) = false := by simpa using h1
      by_cases hy1 : y = 1
      · have p2 : (y != 1) = false := by simp [hy1]
        have hnm : Nm x n := ⟨by rw [← hy.out]; exact hy1, hne.out⟩
        by_cases h6 : 6 < n
        · have p3 : decide ((6 : Int) < (n : Int)) = true := by simp; omega
          go_wp2_with fail
          go_ret
          refine ⟨none, 0, 0, rfl, ?_, b1⟩
          rw [pth_no (no_name hgt.out (.inr (.inr ⟨h6, hnm⟩)))]
          exact RowQ.nil _
        · have p3 : decide ((6 : Int) < (n : Int)) = false := by simp; omega
          have ow := (ownq_lit wr 22 [1] 1 rfl (by omega) (Qwd.one (by omega))).mono hsz
          have hn1 : 1 + n ≤ 8796093022208 := by omega
          go_wp2_with (at_builtin; refine wp_append_quads _ rfl (.tmp 29) (.tmp 30) 73 rfl 22 Try.underlying73 infoQ w.heap.size 1 1 _ [1] rfl ow so n co _ rfl (ol.row.below (below_alloc _ _)) hn1 (by simp; omega) w (b1.trans ((below_alloc _ _).mono hsz)) ?_; intro s1 c1 w1 o1 b2)
          go_ret
          refine ⟨s1, _, c1, rfl, ?_, b2⟩
          obtain ⟨hN, hD⟩ := hnm.is (by omega)
          rw [pth_yes hN, hD, show upN x (n + 1) = [1] ++ upN x n by simp [upN, hnm.1]]
          exact o1.row
      · have p2 : (y != 1) = true := by simp [hy1]
        go_wp2_with fail
        go_ret
        refine ⟨none, 0, 0, rfl, ?_, b1⟩
        rw [pth_no (no_name hgt.out (.inl (by rw [← hy.out]; omega)))]
        exact RowQ.nil _

end Go.Proofs.Ytkmpmljohjelhaa

namespace Go.Proofs.Ytkmpmljohjelhaa
open Go.RowKit
set_option maxRecDepth 100000

theorem len_yes {w : World} {so : Option Addr} {n co : Nat} {x : Int} (h : RowQ w so n co (pth x)) (hN : isN x = true) : n = dN x + 1 := by
  have := h.len; rw [pth_len, if_pos hN] at this; exact this.symm
theorem len_no {w : World} {so : Option Addr} {n co : Nat} {x : Int} (h : RowQ w so n co (pth x)) (hN : isN x = false) : n = 0 := by
  have := h.len; rw [pth_len, if_neg (by simp [hN])] at this; exact this.symm

theorem nmRefMay_any (x : Int) (hx : U x) (w : World) : Calls Try.prog 37 #[.int .u64 x] w fun e w' => e = .returned (.bool (isN x)) ∧ Below w.heap.size w w' := by
  go_enter Try.func37, Try.ntmps37
  go_wp2_with fail
  refine (refPath_any x hx _).mono ?_
  rintro e w1 ⟨so, n, co, rfl, hr, hb⟩
  have hq : decide (0 < n) = isN x := by
    cases h : isN x with
    | true => have := len_yes hr h; simp; omega
    | false => have := len_no hr h; simp; omega
  go_wp2_with fail
  go_ret
  exact ⟨by rw [← hq]; rfl, hb⟩
end Go.Proofs.Ytkmpmljohjelhaa
