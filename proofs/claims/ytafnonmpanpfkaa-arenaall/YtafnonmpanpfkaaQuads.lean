/- Lists of 64-bit numbers in memory: what a slice of them reads as ('RowQ'), one that a call itself made, nil or not ('OwnQ'), and the laws for append over them. No program of the seat is named here. -/
import Derived.Test.YtafnonmpanpfkaaBytes
namespace Go.Proofs.Ytafnonmpanpfkaa
open Go.RowKit
set_option maxRecDepth 100000

/-- All are 64-bit numbers. -/
def Qwd (xs : List Int) : Prop := ∀ x ∈ xs, 0 ≤ x ∧ x < 18446744073709551616
theorem Qwd.nil : Qwd [] := fun _ h => by simp at h
theorem qwd_of (xs : List Int) (h : xs.all (fun x => decide (0 ≤ x) && decide (x < 18446744073709551616)) = true) : Qwd xs := by
  intro x hx
  have := List.all_eq_true.1 h x hx
  simpa using this
theorem Qwd.append {xs ys : List Int} (h : Qwd xs) (k : Qwd ys) : Qwd (xs ++ ys) := fun x hx => (List.mem_append.1 hx).elim (h x) (k x)
theorem Qwd.one {x : Int} (h : 0 ≤ x ∧ x < 18446744073709551616) : Qwd [x] := fun y hy => by simp at hy; subst hy; exact h
theorem Qwd.take {xs : List Int} (h : Qwd xs) (k : Nat) : Qwd (xs.take k) := fun x hx => h x (List.mem_of_mem_take hx)
theorem Qwd.drop {xs : List Int} (h : Qwd xs) (k : Nat) : Qwd (xs.drop k) := fun x hx => h x (List.mem_of_mem_drop hx)
theorem Qwd.get {xs : List Int} (h : Qwd xs) (i : Nat) : 0 ≤ xs.getD i 0 ∧ xs.getD i 0 < 18446744073709551616 := by
  by_cases hi : i < xs.length
  · rw [List.getD_eq_getElem?_getD, List.getElem?_eq_getElem hi]; exact h _ (List.getElem_mem hi)
  · rw [List.getD_eq_getElem?_getD, List.getElem?_eq_none (by omega)]; simp
theorem Qwd.set {xs : List Int} (h : Qwd xs) (i : Nat) (v : Int) (hv : 0 ≤ v ∧ v < 18446744073709551616) : Qwd (xs.set i v) := fun x hx => (List.mem_or_eq_of_mem_set hx).elim (h x) (fun e => e ▸ hv)

/-- The slice at a, of n elements, reads as the numbers xs. -/
def RowQ (w : World) (a : Option Addr) (n cap : Nat) (xs : List Int) : Prop :=
  xs.length = n ∧ n ≤ cap ∧ cap ≤ maxLen ∧ Qwd xs ∧ (a = none → n = 0 ∧ cap = 0) ∧ (0 < n → ∃ b off, a = some ⟨b, off, none⟩) ∧ ∀ x, a = some x → ∀ i, i < n → w.cell? (x.add i) = some (.int .u64 (xs.getD i 0))

/-- A slice that is nil, or at the head of a row of the call's own (blocks from B on), whose elements are the numbers xs. -/
def OwnQ (e : TypeId) (w : World) (B : Nat) (a : Option Addr) (n cap : Nat) (xs : List Int) : Prop :=
  xs.length = n ∧ Qwd xs ∧ w.ownsRow B e 1 (.slice a n cap) n (xs.map (Value.int .u64))

theorem RowQ.len {w : World} {a : Option Addr} {n cap : Nat} {xs : List Int} (h : RowQ w a n cap xs) : xs.length = n := h.1
theorem RowQ.qwd {w : World} {a : Option Addr} {n cap : Nat} {xs : List Int} (h : RowQ w a n cap xs) : Qwd xs := h.2.2.2.1
theorem RowQ.cap_le {w : World} {a : Option Addr} {n cap : Nat} {xs : List Int} (h : RowQ w a n cap xs) : n ≤ cap ∧ cap ≤ 9223372036854775807 := ⟨h.2.1, h.2.2.1⟩
theorem RowQ.nil (w : World) : RowQ w none 0 0 [] := ⟨rfl, Nat.le_refl _, Nat.zero_le _, Qwd.nil, fun _ => ⟨rfl, rfl⟩, fun h => absurd h (by omega), fun _ h => by simp at h⟩
theorem RowQ.none_of (w : World) (x : Addr) (cap : Nat) (hc : cap ≤ 9223372036854775807) : RowQ w (some x) 0 cap [] :=
  ⟨rfl, Nat.zero_le _, hc, Qwd.nil, fun h => by simp at h, fun h => absurd h (by omega), fun _ _ i hi => absurd hi (by omega)⟩
theorem RowQ.empty {w : World} {a : Option Addr} {n cap : Nat} {xs : List Int} (h : RowQ w a n cap xs) (h0 : n = 0) : xs = [] := List.eq_nil_of_length_eq_zero (h.1.trans h0)

theorem RowQ.at {w : World} {a : Option Addr} {n cap : Nat} {xs : List Int} (h : RowQ w a n cap xs) (hn : 0 < n) :
    ∃ b off, a = some ⟨b, off, none⟩ ∧ ∀ i, i < n → w.cell? ⟨b, off + i, none⟩ = some (.int .u64 (xs.getD i 0)) := by
  obtain ⟨_, _, _, _, _, h1, h2⟩ := h
  obtain ⟨b, off, rfl⟩ := h1 hn
  refine ⟨b, off, rfl, fun i hi => ?_⟩
  have := h2 _ rfl i hi
  by_cases h0 : i = 0
  · subst h0; simpa [Addr.add] using this
  · simpa [Addr.add, h0] using this
theorem RowQ.cells {w : World} {b off n cap : Nat} {xs : List Int} (h : RowQ w (some ⟨b, off, none⟩) n cap xs) (i : Nat) (hi : i < n) : w.cell? ⟨b, off + i, none⟩ = some (.int .u64 (xs.getD i 0)) := by
  obtain ⟨b', off', ha, hc⟩ := h.at (by omega)
  simp only [Option.some.injEq, Addr.mk.injEq, and_true] at ha
  obtain ⟨rfl, rfl⟩ := ha
  exact hc i hi

theorem RowQ.below {w w' : World} {a : Option Addr} {n cap : Nat} {xs : List Int} (h : RowQ w a n cap xs) (hb : Below w.heap.size w w') : RowQ w' a n cap xs := by
  obtain ⟨h1, h2, h3, h4, h5, h6, h7⟩ := h
  refine ⟨h1, h2, h3, h4, h5, h6, fun x hx i hi => ?_⟩
  have hc := h7 x hx i hi
  rw [hb.cell (lt_of_cell hc)]
  exact hc

theorem OwnQ.cases {e : TypeId} {w : World} {B n cap : Nat} {a : Option Addr} {xs : List Int} (h : OwnQ e w B a n cap xs) :
    (a = none ∧ n = 0 ∧ cap = 0 ∧ xs = []) ∨ ∃ (g : Nat) (cur : Array Value), a = some ⟨g, 0, none⟩ ∧ B ≤ g ∧ w.heap[g]? = some (.cells cur e (0, 0)) ∧ n ≤ cap ∧ cap ≤ maxLen ∧ cur.size = cap ∧ cur.toList.take n = xs.map (Value.int .u64) := by
  obtain ⟨h1, h2, h3⟩ := h
  rcases h3.2 with ⟨h, h0⟩ | ⟨g, cap', cur, hv, hB, hg, hn, hm, hs, ht⟩
  · simp only [Value.slice.injEq] at h
    obtain ⟨rfl, _, rfl⟩ := h
    exact .inl ⟨rfl, h0, rfl, List.eq_nil_of_length_eq_zero (by omega)⟩
  · simp only [Value.slice.injEq] at hv
    obtain ⟨rfl, _, rfl⟩ := hv
    exact .inr ⟨g, cur, rfl, hB, hg, hn, hm, by simpa using hs, by simpa using ht⟩
theorem OwnQ.of_nil (e : TypeId) (w : World) (B : Nat) : OwnQ e w B none 0 0 [] := ⟨rfl, Qwd.nil, by simp, .inl ⟨rfl, rfl⟩⟩
theorem OwnQ.of_cells {e : TypeId} {w : World} {B g n cap : Nat} {xs : List Int} {cur : Array Value} (hB : B ≤ g) (hg : w.heap[g]? = some (.cells cur e (0, 0))) (hn : n ≤ cap) (hm : cap ≤ maxLen) (hc : cur.size = cap)
    (hx : xs.length = n) (hb : Qwd xs) (ht : cur.toList.take n = xs.map (Value.int .u64)) : OwnQ e w B (some ⟨g, 0, none⟩) n cap xs :=
  ⟨hx, hb, by simp [hx], .inr ⟨g, cap, cur, rfl, hB, hg, hn, hm, by simp [hc], by simpa using ht⟩⟩

theorem OwnQ.row {e : TypeId} {w : World} {B n cap : Nat} {a : Option Addr} {xs : List Int} (h : OwnQ e w B a n cap xs) : RowQ w a n cap xs := by
  have hc := h.cases
  obtain ⟨h1, h2, h3⟩ := h
  rcases hc with ⟨rfl, rfl, rfl, rfl⟩ | ⟨g, cur, rfl, hB, hg, hn, hm, hs, ht⟩
  · exact RowQ.nil w
  · refine ⟨h1, hn, hm, h2, fun h => by simp at h, fun _ => ⟨_, _, rfl⟩, fun x hx i hi => ?_⟩
    obtain rfl := Option.some.inj hx
    exact h3.cells (g := g) rfl i (.int .u64 (xs.getD i 0)) (by simp [List.getElem?_map, List.getElem?_eq_getElem (show i < xs.length by omega)])
theorem OwnQ.lt {e : TypeId} {w : World} {B g off n cap : Nat} {xs : List Int} (h : OwnQ e w B (some ⟨g, off, none⟩) n cap xs) : B ≤ g ∧ g < w.heap.size := by
  rcases h.cases with ⟨h, _⟩ | ⟨g', cur, hv, hB, hg, _⟩
  · simp at h
  · simp only [Option.some.injEq, Addr.mk.injEq, and_true] at hv
    obtain ⟨rfl, _⟩ := hv
    exact ⟨hB, (Array.getElem?_eq_some_iff.1 hg).1⟩

theorem OwnQ.below {e : TypeId} {w w' : World} {B n cap : Nat} {a : Option Addr} {xs : List Int} (h : OwnQ e w B a n cap xs) (hb : Below w.heap.size w w') : OwnQ e w' B a n cap xs := by
  rcases h.cases with ⟨rfl, rfl, rfl, rfl⟩ | ⟨g, cur, rfl, hB, hg, hn, hm, hs, ht⟩
  · exact OwnQ.of_nil _ _ _
  · exact OwnQ.of_cells hB ((hb.block g (Array.getElem?_eq_some_iff.1 hg).1).trans hg) hn hm hs h.1 h.2.1 ht
theorem OwnQ.mono {e : TypeId} {w : World} {B B' n cap : Nat} {a : Option Addr} {xs : List Int} (h : OwnQ e w B a n cap xs) (hB' : B' ≤ B) : OwnQ e w B' a n cap xs := by
  rcases h.cases with ⟨rfl, rfl, rfl, rfl⟩ | ⟨g, cur, rfl, hB, hg, hn, hm, hs, ht⟩
  · exact OwnQ.of_nil _ _ _
  · exact OwnQ.of_cells (Nat.le_trans hB' hB) hg hn hm hs h.1 h.2.1 ht
/-- The first m of a row of the call's own: one such. -/
theorem OwnQ.pre {e : TypeId} {w : World} {B n cap : Nat} {a : Option Addr} {xs : List Int} (h : OwnQ e w B a n cap xs) (m : Nat) (hm' : m ≤ n) : OwnQ e w B a m cap (xs.take m) := by
  have hlen := h.1
  rcases h.cases with ⟨rfl, rfl, rfl, rfl⟩ | ⟨g, cur, rfl, hB, hg, hn, hm, hs, ht⟩
  · obtain rfl : m = 0 := by omega
    exact OwnQ.of_nil _ _ _
  · refine OwnQ.of_cells hB hg (by omega) hm hs (by simp; omega) (h.2.1.take m) ?_
    rw [List.map_take, ← ht, List.take_take, Nat.min_eq_left hm']

theorem quads_one (xs : List Int) : ∀ u ∈ xs.map (Value.int .u64), u.oneCell' = true := ints_oneCell .u64 xs

theorem RowQ.news {w : World} {x : Addr} {n cap : Nat} {xs : List Int} (h : RowQ w (some x) n cap xs) : ∀ j u, (xs.map (Value.int .u64))[j]? = some u → w.cell? (x.add j) = some u := by
  intro j u hj
  obtain ⟨h1, _, _, _, _, _, h7⟩ := h
  have hjl : j < xs.length := by
    by_cases hl : j < xs.length
    · exact hl
    · simp [List.getElem?_eq_none (Nat.le_of_not_lt hl)] at hj
  rw [h7 x rfl j (by omega)]
  simp [List.getElem?_eq_getElem hjl] at hj
  simp [List.getElem?_eq_getElem hjl, hj]

theorem RowQ.pre {w : World} {a : Option Addr} {n cap : Nat} {xs : List Int} (h : RowQ w a n cap xs) (m : Nat) (hm : m ≤ n) : RowQ w a m cap (xs.take m) := by
  obtain ⟨h1, h2, h3, h4, h5, h6, h7⟩ := h
  refine ⟨by simp; omega, by omega, h3, h4.take m, fun ha => ⟨by have := h5 ha; omega, (h5 ha).2⟩, fun hp => h6 (by omega), fun x hx i hi => ?_⟩
  rw [h7 x hx i (by omega)]
  simp [List.getD, hi]
theorem RowQ.sub {w : World} {b off n cap : Nat} {xs : List Int} (h : RowQ w (some ⟨b, off, none⟩) n cap xs) (k m : Nat) (hm : k + m ≤ n) : RowQ w (some ⟨b, off + k, none⟩) m (cap - k) ((xs.drop k).take m) := by
  have h7 := fun i (hi : i < n) => h.cells i hi
  obtain ⟨h1, h2, h3, h4, _, _, _⟩ := h
  refine ⟨by simp; omega, by omega, by omega, (h4.drop k).take m, fun ha => by simp at ha, fun _ => ⟨_, _, rfl⟩, fun x hx i hi => ?_⟩
  obtain rfl := Option.some.inj hx
  have hk : ((⟨b, off + k, none⟩ : Addr).add i) = ⟨b, off + (k + i), none⟩ := by
    by_cases h0 : i = 0
    · subst h0; simp [Addr.add]
    · simp [Addr.add, h0, Nat.add_assoc]
  rw [hk, h7 (k + i) (by omega)]
  simp [List.getD, hi]
theorem RowQ.tail {w : World} {b off n cap : Nat} {xs : List Int} (h : RowQ w (some ⟨b, off, none⟩) n cap xs) (k : Nat) (hk : k ≤ n) : RowQ w (some ⟨b, off + k, none⟩) (n - k) (cap - k) (xs.drop k) := by
  have h1 := h.sub k (n - k) (by omega)
  rwa [List.take_of_length_le (by simp [h.len])] at h1

/-- A new block of numbers that are known. -/
theorem ownq_lit (w : World) (e : TypeId) (xs : List Int) (n : Nat) (hn : xs.length = n) (hm : n ≤ 9223372036854775807) (hb : Qwd xs) : OwnQ e (w.alloc (.cells (xs.map (Value.int .u64)).toArray e)) w.heap.size (some ⟨w.heap.size, 0, none⟩) n n xs :=
  OwnQ.of_cells (Nat.le_refl _) (heap_alloc_new w _) (Nat.le_refl _) hm (by simp [hn]) hn hb (List.take_of_length_le (by simp [hn]))
theorem rowq_lit (w : World) (e : TypeId) (xs : List Int) (n : Nat) (hn : xs.length = n) (hm : n ≤ 9223372036854775807) (hb : Qwd xs) : RowQ (w.alloc (.cells (xs.map (Value.int .u64)).toArray e)) (some ⟨w.heap.size, 0, none⟩) n n xs :=
  (ownq_lit w e xs n hn hm hb).row

theorem OwnQ.block {e : TypeId} {w : World} {B g n cap : Nat} {xs : List Int} (h : OwnQ e w B (some ⟨g, 0, none⟩) n cap xs) :
    ∃ cur : Array Value, B ≤ g ∧ w.heap[g]? = some (.cells cur e (0, 0)) ∧ n ≤ cap ∧ cap ≤ maxLen ∧ cur.size = cap ∧ cur.toList.take n = xs.map (Value.int .u64) := by
  rcases h.cases with ⟨h, _⟩ | ⟨g', cur, hv, r⟩
  · simp at h
  · simp only [Option.some.injEq, Addr.mk.injEq, and_true] at hv
    subst hv
    exact ⟨cur, r⟩
theorem OwnQ.set {e : TypeId} {w : World} {B g n cap : Nat} {xs : List Int} (h : OwnQ e w B (some ⟨g, 0, none⟩) n cap xs) (i : Nat) (v : Int) (hv : 0 ≤ v ∧ v < 18446744073709551616) :
    OwnQ e (w.setCell ⟨g, i, none⟩ (.int .u64 v)) B (some ⟨g, 0, none⟩) n cap (xs.set i v) := by
  obtain ⟨cur, hB, hg, hn, hm, hs, ht⟩ := h.block
  refine OwnQ.of_cells hB (heap_setCell_same w g i cur e _ hg) hn hm (by simp [hs]) (by simp [h.1]) (h.2.1.set i v hv) ?_
  rw [Array.toList_setIfInBounds, List.map_set, ← ht, List.take_set]
theorem OwnQ.cell {e : TypeId} {w : World} {B g n cap : Nat} {xs : List Int} (h : OwnQ e w B (some ⟨g, 0, none⟩) n cap xs) (i : Nat) (hi : i < n) : w.cell? ⟨g, i, none⟩ = some (.int .u64 (xs.getD i 0)) := by
  have := h.row.cells i hi
  rwa [Nat.zero_add] at this
theorem OwnQ.melt {e : TypeId} {w : World} {B g n cap : Nat} {xs : List Int} (h : OwnQ e w B (some ⟨g, 0, none⟩) n cap xs) (i : Nat) : w.frozen? ⟨g, i, none⟩ = false := by
  obtain ⟨cur, hB, hg, hn, hm, hs, ht⟩ := h.block
  simp [World.frozen?, hg]

section
variable {P : Program} {ops : Array Oper} {rest : List Oper} {o : Oper} {a : Act} {Q : Exit → Act → World → Prop}

/-- 'append(s, x...)', s nil or a row of the call's own, x whatever numbers: it may grow. -/
theorem op_append_quads_g {K : Act → World → Prop} (w : World) (s x : Operand) (t : TypeId) (ho : o.op = .call { callee := .builtin .append, args := #[s, x], argTypes := #[t, t] })
    (e : TypeId) (ht : P.underlying t = some (.slice e)) (hinfo : (P.info? e).map (fun i => (i.zero, i.size, i.bytes)) = some (some (.int .u64 0), 1, 8))
    (B n cap : Nat) (so : Option Addr) (ys : List Int) (hs : a.eval s = .slice so n cap) (hown : OwnQ e w B so n cap ys)
    (ao : Option Addr) (m c : Nat) (xs : List Int) (hx : a.eval x = .slice ao m c) (hrow : RowQ w ao m c xs) (hbd : n + m ≤ 8796093022208) (hB : B ≤ w.heap.size)
    (w0 : World) (hbel : Below B w0 w)
    (h : ∀ so' cap' w', OwnQ e w' B so' (n + m) cap' (ys ++ xs) → Below B w0 w' → w.grownBy w' (Value.slice so n cap).ownBlock → K (a.put o.dst (.slice so' (n + m) cap')) w') : Oper.wp P o a w K Q := by
  obtain ⟨i, hi, hz0, hz1, hz2⟩ := info_parts hinfo
  have hbn : ∀ k, (Value.slice so n cap).ownBlock = some k → B ≤ k := by
    intro k hk
    rcases hown.cases with ⟨rfl, _⟩ | ⟨g, cur, rfl, hBg, _⟩
    · simp [Value.ownBlock] at hk
    · obtain rfl : g = k := by simpa [Value.ownBlock] using hk
      exact hBg
  have fin : ∀ v' w', w'.ownsRow B e 1 v' (n + m) (ys.map (Value.int .u64) ++ xs.map (Value.int .u64)) → w.grownBy w' (Value.slice so n cap).ownBlock → (v' = .slice none 0 0 ↔ Value.slice so n cap = .slice none 0 0 ∧ m = 0) → K (a.put o.dst v') w' := by
    intro v' w' h1 h2 _
    have hl : (ys ++ xs).length = n + m := by simp [hown.1, hrow.1]
    have h1' : w'.ownsRow B e 1 v' (n + m) ((ys ++ xs).map (Value.int .u64)) := by simpa using h1
    rcases h1'.2 with ⟨hv, h0⟩ | ⟨g', cap', cur, hv, r⟩
    · subst hv
      have hn0 : n + m = 0 := h0
      have := h none 0 w' ⟨hl, hown.2.1.append hrow.qwd, by rw [hn0] at h1' ⊢; exact h1'⟩ (hbel.grown h2 hB hbn) h2
      rw [hn0] at this
      exact this
    · subst hv
      exact h _ cap' w' ⟨hl, hown.2.1.append hrow.qwd, h1'⟩ (hbel.grown h2 hB hbn) h2
  cases ao with
  | some ad =>
    exact wp_append_own w s x t ho B e i (.int .u64 0) 1 8 ht hi hz0 hz1 hz2 rfl (by decide) _ n _ hs hown.2.2 ad m c (xs.map (Value.int .u64)) hx (by simp [hrow.1]) hrow.news (quads_one xs) (by unfold maxLen; omega) (by omega) hB fin
  | none =>
    obtain ⟨rfl, rfl⟩ := hrow.2.2.2.2.1 rfl
    have hnil : xs = [] := List.eq_nil_of_length_eq_zero hrow.1
    subst hnil
    have hrun := run_append_owned_none (P := P) w B t o.type e i 1 ht hi (.slice so n cap) n (ys.map (Value.int .u64)) hown.2.2
    unfold Oper.wp
    simp [execOp, ho, resolve, invoke, builtin, hs, hx, hrun, Result.andThen]
    exact (show K (a.put o.dst (.slice so n cap)) w by simpa using h so cap w (by simpa using hown) hbel ⟨rfl, rfl, rfl, Nat.le_refl _, fun _ _ _ => rfl⟩)
theorem op_append_quads {K : Act → World → Prop} (w : World) (s x : Operand) (t : TypeId) (ho : o.op = .call { callee := .builtin .append, args := #[s, x], argTypes := #[t, t] })
    (e : TypeId) (ht : P.underlying t = some (.slice e)) (hinfo : (P.info? e).map (fun i => (i.zero, i.size, i.bytes)) = some (some (.int .u64 0), 1, 8))
    (B n cap : Nat) (so : Option Addr) (ys : List Int) (hs : a.eval s = .slice so n cap) (hown : OwnQ e w B so n cap ys)
    (ao : Option Addr) (m c : Nat) (xs : List Int) (hx : a.eval x = .slice ao m c) (hrow : RowQ w ao m c xs) (hbd : n + m ≤ 8796093022208) (hB : B ≤ w.heap.size)
    (w0 : World) (hbel : Below B w0 w)
    (h : ∀ so' cap' w', OwnQ e w' B so' (n + m) cap' (ys ++ xs) → Below B w0 w' → K (a.put o.dst (.slice so' (n + m) cap')) w') : Oper.wp P o a w K Q :=
  op_append_quads_g w s x t ho e ht hinfo B n cap so ys hs hown ao m c xs hx hrow hbd hB w0 hbel fun so' cap' w' h1 h2 _ => h so' cap' w' h1 h2
theorem RowQ.grown {w w' : World} {a : Option Addr} {n cap : Nat} {xs : List Int} {r : Option Nat} (h : RowQ w a n cap xs) (hg : w.grownBy w' r) (hne : ∀ x, a = some x → r ≠ some x.block) : RowQ w' a n cap xs := by
  obtain ⟨h1, h2, h3, h4, h5, h6, h7⟩ := h
  refine ⟨h1, h2, h3, h4, h5, h6, fun x hx i hi => ?_⟩
  have hc := h7 x hx i hi
  have hb : (x.add i).block = x.block := by simp [Addr.add]; split <;> rfl
  have hlt := lt_of_cell hc
  have he : w'.heap[(x.add i).block]? = w.heap[(x.add i).block]? := hg.block _ hlt (by rw [hb]; exact fun e => hne x hx e.symm)
  rw [← hc]
  unfold World.cell?
  rw [he]
theorem wp_append_quads (w : World) (hgd : o.guard = none) (s x : Operand) (t : TypeId) (ho : o.op = .call { callee := .builtin .append, args := #[s, x], argTypes := #[t, t] })
    (e : TypeId) (ht : P.underlying t = some (.slice e)) (hinfo : (P.info? e).map (fun i => (i.zero, i.size, i.bytes)) = some (some (.int .u64 0), 1, 8))
    (B n cap : Nat) (so : Option Addr) (ys : List Int) (hs : a.eval s = .slice so n cap) (hown : OwnQ e w B so n cap ys)
    (ao : Option Addr) (m c : Nat) (xs : List Int) (hx : a.eval x = .slice ao m c) (hrow : RowQ w ao m c xs) (hbd : n + m ≤ 8796093022208) (hB : B ≤ w.heap.size)
    (w0 : World) (hbel : Below B w0 w)
    (h : ∀ so' cap' w', OwnQ e w' B so' (n + m) cap' (ys ++ xs) → Below B w0 w' → wpList P ops Q rest (a.put o.dst (.slice so' (n + m) cap')) w') : wpList P ops Q (o :: rest) a w :=
  wpList_plain hgd fun _ hK => op_append_quads w s x t ho e ht hinfo B n cap so ys hs hown ao m c xs hx hrow hbd hB w0 hbel fun so' cap' w' h1 h2 => hK _ _ (h so' cap' w' h1 h2)
/-- 'x[k:]' of a slice of numbers, whatever its address. -/
theorem RowQ.from {w : World} {a : Option Addr} {n cap : Nat} {xs : List Int} (h : RowQ w a n cap xs) (k : Nat) (hk : k ≤ n) : RowQ w (if cap = k then a else a.map (fun x => x.add k)) (n - k) (cap - k) (xs.drop k) := by
  have hc := h.cap_le
  have hl := h.len
  by_cases h0 : n = k
  · subst h0
    have hnil : xs.drop n = [] := by rw [List.drop_eq_nil_iff]; omega
    rw [hnil, Nat.sub_self]
    cases a with
    | none =>
      have := h.2.2.2.2.1 rfl
      obtain ⟨rfl, rfl⟩ := this
      simpa using RowQ.nil w
    | some x =>
      by_cases hcn : cap = n
      · rw [if_pos hcn]; exact RowQ.none_of _ _ _ (by omega)
      · rw [if_neg hcn]; exact RowQ.none_of _ _ _ (by omega)
  · obtain ⟨b, off, rfl, _⟩ := h.at (by omega)
    rw [if_neg (by omega)]
    have := h.tail k hk
    by_cases hk0 : k = 0
    · subst hk0; simpa [Addr.add] using h
    · simpa [Addr.add, hk0] using this
end
end Go.Proofs.Ytafnonmpanpfkaa
