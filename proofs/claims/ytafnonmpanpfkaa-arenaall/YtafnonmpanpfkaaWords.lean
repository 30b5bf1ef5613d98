/- Lists of 16-bit numbers in memory: what a slice of them reads as ('RowW'), one that a call itself made, nil or not ('OwnW'), and the laws for append over them. No program of the seat is named here. -/
import Derived.Test.YtafnonmpanpfkaaPlain
namespace Go.Proofs.Ytafnonmpanpfkaa
open Go.RowKit
set_option maxRecDepth 100000

/-- All are 16-bit numbers. -/
def Wrd (xs : List Int) : Prop := ∀ x ∈ xs, 0 ≤ x ∧ x < 65536
theorem Wrd.nil : Wrd [] := fun _ h => by simp at h
theorem wrd_of (xs : List Int) (h : xs.all (fun x => decide (0 ≤ x) && decide (x < 65536)) = true) : Wrd xs := by
  intro x hx
  have := List.all_eq_true.1 h x hx
  simpa using this
theorem Wrd.append {xs ys : List Int} (h : Wrd xs) (k : Wrd ys) : Wrd (xs ++ ys) := fun x hx => (List.mem_append.1 hx).elim (h x) (k x)
theorem Wrd.one {x : Int} (h : 0 ≤ x ∧ x < 65536) : Wrd [x] := fun y hy => by simp at hy; subst hy; exact h
theorem Wrd.take {xs : List Int} (h : Wrd xs) (k : Nat) : Wrd (xs.take k) := fun x hx => h x (List.mem_of_mem_take hx)
theorem Wrd.drop {xs : List Int} (h : Wrd xs) (k : Nat) : Wrd (xs.drop k) := fun x hx => h x (List.mem_of_mem_drop hx)
theorem Wrd.get {xs : List Int} (h : Wrd xs) (i : Nat) : 0 ≤ xs.getD i 0 ∧ xs.getD i 0 < 65536 := by
  by_cases hi : i < xs.length
  · rw [List.getD_eq_getElem?_getD, List.getElem?_eq_getElem hi]; exact h _ (List.getElem_mem hi)
  · rw [List.getD_eq_getElem?_getD, List.getElem?_eq_none (by omega)]; simp
theorem Wrd.set {xs : List Int} (h : Wrd xs) (i : Nat) (v : Int) (hv : 0 ≤ v ∧ v < 65536) : Wrd (xs.set i v) := fun x hx => (List.mem_or_eq_of_mem_set hx).elim (h x) (fun e => e ▸ hv)

/-- The slice at a, of n elements, reads as the numbers xs. -/
def RowW (w : World) (a : Option Addr) (n cap : Nat) (xs : List Int) : Prop :=
  xs.length = n ∧ n ≤ cap ∧ cap ≤ maxLen ∧ Wrd xs ∧ (a = none → n = 0 ∧ cap = 0) ∧ (0 < n → ∃ b off, a = some ⟨b, off, none⟩) ∧ ∀ x, a = some x → ∀ i, i < n → w.cell? (x.add i) = some (.int .u16 (xs.getD i 0))

/-- A slice that is nil, or at the head of a row of the call's own (blocks from B on), whose elements are the numbers xs. -/
def OwnW (e : TypeId) (w : World) (B : Nat) (a : Option Addr) (n cap : Nat) (xs : List Int) : Prop :=
  xs.length = n ∧ Wrd xs ∧ w.ownsRow B e 1 (.slice a n cap) n (xs.map (Value.int .u16))

theorem RowW.len {w : World} {a : Option Addr} {n cap : Nat} {xs : List Int} (h : RowW w a n cap xs) : xs.length = n := h.1
theorem RowW.wrd {w : World} {a : Option Addr} {n cap : Nat} {xs : List Int} (h : RowW w a n cap xs) : Wrd xs := h.2.2.2.1
theorem RowW.cap_le {w : World} {a : Option Addr} {n cap : Nat} {xs : List Int} (h : RowW w a n cap xs) : n ≤ cap ∧ cap ≤ 9223372036854775807 := ⟨h.2.1, h.2.2.1⟩
theorem RowW.nil (w : World) : RowW w none 0 0 [] := ⟨rfl, Nat.le_refl _, Nat.zero_le _, Wrd.nil, fun _ => ⟨rfl, rfl⟩, fun h => absurd h (by omega), fun _ h => by simp at h⟩
theorem RowW.none_of (w : World) (x : Addr) (cap : Nat) (hc : cap ≤ 9223372036854775807) : RowW w (some x) 0 cap [] :=
  ⟨rfl, Nat.zero_le _, hc, Wrd.nil, fun h => by simp at h, fun h => absurd h (by omega), fun _ _ i hi => absurd hi (by omega)⟩
theorem RowW.empty {w : World} {a : Option Addr} {n cap : Nat} {xs : List Int} (h : RowW w a n cap xs) (h0 : n = 0) : xs = [] := List.eq_nil_of_length_eq_zero (h.1.trans h0)

theorem RowW.at {w : World} {a : Option Addr} {n cap : Nat} {xs : List Int} (h : RowW w a n cap xs) (hn : 0 < n) :
    ∃ b off, a = some ⟨b, off, none⟩ ∧ ∀ i, i < n → w.cell? ⟨b, off + i, none⟩ = some (.int .u16 (xs.getD i 0)) := by
  obtain ⟨_, _, _, _, _, h1, h2⟩ := h
  obtain ⟨b, off, rfl⟩ := h1 hn
  refine ⟨b, off, rfl, fun i hi => ?_⟩
  have := h2 _ rfl i hi
  by_cases h0 : i = 0
  · subst h0; simpa [Addr.add] using this
  · simpa [Addr.add, h0] using this
theorem RowW.cells {w : World} {b off n cap : Nat} {xs : List Int} (h : RowW w (some ⟨b, off, none⟩) n cap xs) (i : Nat) (hi : i < n) : w.cell? ⟨b, off + i, none⟩ = some (.int .u16 (xs.getD i 0)) := by
  obtain ⟨b', off', ha, hc⟩ := h.at (by omega)
  simp only [Option.some.injEq, Addr.mk.injEq, and_true] at ha
  obtain ⟨rfl, rfl⟩ := ha
  exact hc i hi

theorem RowW.below {w w' : World} {a : Option Addr} {n cap : Nat} {xs : List Int} (h : RowW w a n cap xs) (hb : Below w.heap.size w w') : RowW w' a n cap xs := by
  obtain ⟨h1, h2, h3, h4, h5, h6, h7⟩ := h
  refine ⟨h1, h2, h3, h4, h5, h6, fun x hx i hi => ?_⟩
  have hc := h7 x hx i hi
  rw [hb.cell (lt_of_cell hc)]
  exact hc

theorem OwnW.cases {e : TypeId} {w : World} {B n cap : Nat} {a : Option Addr} {xs : List Int} (h : OwnW e w B a n cap xs) :
    (a = none ∧ n = 0 ∧ cap = 0 ∧ xs = []) ∨ ∃ (g : Nat) (cur : Array Value), a = some ⟨g, 0, none⟩ ∧ B ≤ g ∧ w.heap[g]? = some (.cells cur e (0, 0)) ∧ n ≤ cap ∧ cap ≤ maxLen ∧ cur.size = cap ∧ cur.toList.take n = xs.map (Value.int .u16) := by
  obtain ⟨h1, h2, h3⟩ := h
  rcases h3.2 with ⟨h, h0⟩ | ⟨g, cap', cur, hv, hB, hg, hn, hm, hs, ht⟩
  · simp only [Value.slice.injEq] at h
    obtain ⟨rfl, _, rfl⟩ := h
    exact .inl ⟨rfl, h0, rfl, List.eq_nil_of_length_eq_zero (by omega)⟩
  · simp only [Value.slice.injEq] at hv
    obtain ⟨rfl, _, rfl⟩ := hv
    exact .inr ⟨g, cur, rfl, hB, hg, hn, hm, by simpa using hs, by simpa using ht⟩
theorem OwnW.of_nil (e : TypeId) (w : World) (B : Nat) : OwnW e w B none 0 0 [] := ⟨rfl, Wrd.nil, by simp, .inl ⟨rfl, rfl⟩⟩
theorem OwnW.of_cells {e : TypeId} {w : World} {B g n cap : Nat} {xs : List Int} {cur : Array Value} (hB : B ≤ g) (hg : w.heap[g]? = some (.cells cur e (0, 0))) (hn : n ≤ cap) (hm : cap ≤ maxLen) (hc : cur.size = cap)
    (hx : xs.length = n) (hb : Wrd xs) (ht : cur.toList.take n = xs.map (Value.int .u16)) : OwnW e w B (some ⟨g, 0, none⟩) n cap xs :=
  ⟨hx, hb, by simp [hx], .inr ⟨g, cap, cur, rfl, hB, hg, hn, hm, by simp [hc], by simpa using ht⟩⟩

theorem OwnW.row {e : TypeId} {w : World} {B n cap : Nat} {a : Option Addr} {xs : List Int} (h : OwnW e w B a n cap xs) : RowW w a n cap xs := by
  have hc := h.cases
  obtain ⟨h1, h2, h3⟩ := h
  rcases hc with ⟨rfl, rfl, rfl, rfl⟩ | ⟨g, cur, rfl, hB, hg, hn, hm, hs, ht⟩
  · exact RowW.nil w
  · refine ⟨h1, hn, hm, h2, fun h => by simp at h, fun _ => ⟨_, _, rfl⟩, fun x hx i hi => ?_⟩
    obtain rfl := Option.some.inj hx
    exact h3.cells (g := g) rfl i (.int .u16 (xs.getD i 0)) (by simp [List.getElem?_map, List.getElem?_eq_getElem (show i < xs.length by omega)])
theorem OwnW.lt {e : TypeId} {w : World} {B g off n cap : Nat} {xs : List Int} (h : OwnW e w B (some ⟨g, off, none⟩) n cap xs) : B ≤ g ∧ g < w.heap.size := by
  rcases h.cases with ⟨h, _⟩ | ⟨g', cur, hv, hB, hg, _⟩
  · simp at h
  · simp only [Option.some.injEq, Addr.mk.injEq, and_true] at hv
    obtain ⟨rfl, _⟩ := hv
    exact ⟨hB, (Array.getElem?_eq_some_iff.1 hg).1⟩

theorem OwnW.below {e : TypeId} {w w' : World} {B n cap : Nat} {a : Option Addr} {xs : List Int} (h : OwnW e w B a n cap xs) (hb : Below w.heap.size w w') : OwnW e w' B a n cap xs := by
  rcases h.cases with ⟨rfl, rfl, rfl, rfl⟩ | ⟨g, cur, rfl, hB, hg, hn, hm, hs, ht⟩
  · exact OwnW.of_nil _ _ _
  · exact OwnW.of_cells hB ((hb.block g (Array.getElem?_eq_some_iff.1 hg).1).trans hg) hn hm hs h.1 h.2.1 ht
theorem OwnW.mono {e : TypeId} {w : World} {B B' n cap : Nat} {a : Option Addr} {xs : List Int} (h : OwnW e w B a n cap xs) (hB' : B' ≤ B) : OwnW e w B' a n cap xs := by
  rcases h.cases with ⟨rfl, rfl, rfl, rfl⟩ | ⟨g, cur, rfl, hB, hg, hn, hm, hs, ht⟩
  · exact OwnW.of_nil _ _ _
  · exact OwnW.of_cells (Nat.le_trans hB' hB) hg hn hm hs h.1 h.2.1 ht
/-- The first m of a row of the call's own: one such. -/
theorem OwnW.pre {e : TypeId} {w : World} {B n cap : Nat} {a : Option Addr} {xs : List Int} (h : OwnW e w B a n cap xs) (m : Nat) (hm' : m ≤ n) : OwnW e w B a m cap (xs.take m) := by
  have hlen := h.1
  rcases h.cases with ⟨rfl, rfl, rfl, rfl⟩ | ⟨g, cur, rfl, hB, hg, hn, hm, hs, ht⟩
  · obtain rfl : m = 0 := by omega
    exact OwnW.of_nil _ _ _
  · refine OwnW.of_cells hB hg (by omega) hm hs (by simp; omega) (h.2.1.take m) ?_
    rw [List.map_take, ← ht, List.take_take, Nat.min_eq_left hm']

theorem words_one (xs : List Int) : ∀ u ∈ xs.map (Value.int .u16), u.oneCell' = true := ints_oneCell .u16 xs

theorem RowW.news {w : World} {x : Addr} {n cap : Nat} {xs : List Int} (h : RowW w (some x) n cap xs) : ∀ j u, (xs.map (Value.int .u16))[j]? = some u → w.cell? (x.add j) = some u := by
  intro j u hj
  obtain ⟨h1, _, _, _, _, _, h7⟩ := h
  have hjl : j < xs.length := by
    by_cases hl : j < xs.length
    · exact hl
    · simp [List.getElem?_eq_none (Nat.le_of_not_lt hl)] at hj
  rw [h7 x rfl j (by omega)]
  simp [List.getElem?_eq_getElem hjl] at hj
  simp [List.getElem?_eq_getElem hjl, hj]

theorem RowW.pre {w : World} {a : Option Addr} {n cap : Nat} {xs : List Int} (h : RowW w a n cap xs) (m : Nat) (hm : m ≤ n) : RowW w a m cap (xs.take m) := by
  obtain ⟨h1, h2, h3, h4, h5, h6, h7⟩ := h
  refine ⟨by simp; omega, by omega, h3, h4.take m, fun ha => ⟨by have := h5 ha; omega, (h5 ha).2⟩, fun hp => h6 (by omega), fun x hx i hi => ?_⟩
  rw [h7 x hx i (by omega)]
  simp [List.getD, hi]
theorem RowW.sub {w : World} {b off n cap : Nat} {xs : List Int} (h : RowW w (some ⟨b, off, none⟩) n cap xs) (k m : Nat) (hm : k + m ≤ n) : RowW w (some ⟨b, off + k, none⟩) m (cap - k) ((xs.drop k).take m) := by
  have h7 := fun i (hi : i < n) => h.cells i hi
  obtain ⟨h1, h2, h3, h4, _, _, _⟩ := h
  refine ⟨by simp; omega, by omega, by omega, (h4.drop k).take m, fun ha => by simp at ha, fun _ => ⟨_, _, rfl⟩, fun x hx i hi => ?_⟩
  obtain rfl := Option.some.inj hx
  have hk : ((⟨b, off + k, none⟩ : Addr).add i) = ⟨b, off + (k + i), none⟩ := by
    by_cases h0 : i = 0
    · subst h0; simp [Addr.add]
    · simp [Addr.add, h0, Nat.add_assoc]
  rw [hk, h7 (k + i) (by omega)]
  simp [List.getD, hi]
theorem RowW.tail {w : World} {b off n cap : Nat} {xs : List Int} (h : RowW w (some ⟨b, off, none⟩) n cap xs) (k : Nat) (hk : k ≤ n) : RowW w (some ⟨b, off + k, none⟩) (n - k) (cap - k) (xs.drop k) := by
  have h1 := h.sub k (n - k) (by omega)
  rwa [List.take_of_length_le (by simp [h.len])] at h1

/-- A new block of numbers that are known. -/
theorem ownw_lit (w : World) (e : TypeId) (xs : List Int) (n : Nat) (hn : xs.length = n) (hm : n ≤ 9223372036854775807) (hb : Wrd xs) : OwnW e (w.alloc (.cells (xs.map (Value.int .u16)).toArray e)) w.heap.size (some ⟨w.heap.size, 0, none⟩) n n xs :=
  OwnW.of_cells (Nat.le_refl _) (heap_alloc_new w _) (Nat.le_refl _) hm (by simp [hn]) hn hb (List.take_of_length_le (by simp [hn]))
theorem roww_lit (w : World) (e : TypeId) (xs : List Int) (n : Nat) (hn : xs.length = n) (hm : n ≤ 9223372036854775807) (hb : Wrd xs) : RowW (w.alloc (.cells (xs.map (Value.int .u16)).toArray e)) (some ⟨w.heap.size, 0, none⟩) n n xs :=
  (ownw_lit w e xs n hn hm hb).row

section
variable {P : Program} {ops : Array Oper} {rest : List Oper} {o : Oper} {a : Act} {Q : Exit → Act → World → Prop}

/-- 'append(s, x...)', s nil or a row of the call's own, x whatever numbers: it may grow. -/
theorem op_append_words_g {K : Act → World → Prop} (w : World) (s x : Operand) (t : TypeId) (ho : o.op = .call { callee := .builtin .append, args := #[s, x], argTypes := #[t, t] })
    (e : TypeId) (ht : P.underlying t = some (.slice e)) (hinfo : (P.info? e).map (fun i => (i.zero, i.size, i.bytes)) = some (some (.int .u16 0), 1, 2))
    (B n cap : Nat) (so : Option Addr) (ys : List Int) (hs : a.eval s = .slice so n cap) (hown : OwnW e w B so n cap ys)
    (ao : Option Addr) (m c : Nat) (xs : List Int) (hx : a.eval x = .slice ao m c) (hrow : RowW w ao m c xs) (hbd : n + m ≤ 70368744177664) (hB : B ≤ w.heap.size)
    (w0 : World) (hbel : Below B w0 w)
    (h : ∀ so' cap' w', OwnW e w' B so' (n + m) cap' (ys ++ xs) → Below B w0 w' → w.grownBy w' (Value.slice so n cap).ownBlock → K (a.put o.dst (.slice so' (n + m) cap')) w') : Oper.wp P o a w K Q := by
  obtain ⟨i, hi, hz0, hz1, hz2⟩ := info_parts hinfo
  have hbn : ∀ k, (Value.slice so n cap).ownBlock = some k → B ≤ k := by
    intro k hk
    rcases hown.cases with ⟨rfl, _⟩ | ⟨g, cur, rfl, hBg, _⟩
    · simp [Value.ownBlock] at hk
    · obtain rfl : g = k := by simpa [Value.ownBlock] using hk
      exact hBg
  have fin : ∀ v' w', w'.ownsRow B e 1 v' (n + m) (ys.map (Value.int .u16) ++ xs.map (Value.int .u16)) → w.grownBy w' (Value.slice so n cap).ownBlock → (v' = .slice none 0 0 ↔ Value.slice so n cap = .slice none 0 0 ∧ m = 0) → K (a.put o.dst v') w' := by
    intro v' w' h1 h2 _
    have hl : (ys ++ xs).length = n + m := by simp [hown.1, hrow.1]
    have h1' : w'.ownsRow B e 1 v' (n + m) ((ys ++ xs).map (Value.int .u16)) := by simpa using h1
    rcases h1'.2 with ⟨hv, h0⟩ | ⟨g', cap', cur, hv, r⟩
    · subst hv
      have hn0 : n + m = 0 := h0
      have := h none 0 w' ⟨hl, hown.2.1.append hrow.wrd, by rw [hn0] at h1' ⊢; exact h1'⟩ (hbel.grown h2 hB hbn) h2
      rw [hn0] at this
      exact this
    · subst hv
      exact h _ cap' w' ⟨hl, hown.2.1.append hrow.wrd, h1'⟩ (hbel.grown h2 hB hbn) h2
  cases ao with
  | some ad =>
    exact wp_append_own w s x t ho B e i (.int .u16 0) 1 2 ht hi hz0 hz1 hz2 rfl (by decide) _ n _ hs hown.2.2 ad m c (xs.map (Value.int .u16)) hx (by simp [hrow.1]) hrow.news (words_one xs) (by unfold maxLen; omega) (by omega) hB fin
  | none =>
    obtain ⟨rfl, rfl⟩ := hrow.2.2.2.2.1 rfl
    have hnil : xs = [] := List.eq_nil_of_length_eq_zero hrow.1
    subst hnil
    have hrun := run_append_owned_none (P := P) w B t o.type e i 1 ht hi (.slice so n cap) n (ys.map (Value.int .u16)) hown.2.2
    unfold Oper.wp
    simp [execOp, ho, resolve, invoke, builtin, hs, hx, hrun, Result.andThen]
    exact (show K (a.put o.dst (.slice so n cap)) w by simpa using h so cap w (by simpa using hown) hbel ⟨rfl, rfl, rfl, Nat.le_refl _, fun _ _ _ => rfl⟩)
theorem op_append_words {K : Act → World → Prop} (w : World) (s x : Operand) (t : TypeId) (ho : o.op = .call { callee := .builtin .append, args := #[s, x], argTypes := #[t, t] })
    (e : TypeId) (ht : P.underlying t = some (.slice e)) (hinfo : (P.info? e).map (fun i => (i.zero, i.size, i.bytes)) = some (some (.int .u16 0), 1, 2))
    (B n cap : Nat) (so : Option Addr) (ys : List Int) (hs : a.eval s = .slice so n cap) (hown : OwnW e w B so n cap ys)
    (ao : Option Addr) (m c : Nat) (xs : List Int) (hx : a.eval x = .slice ao m c) (hrow : RowW w ao m c xs) (hbd : n + m ≤ 70368744177664) (hB : B ≤ w.heap.size)
    (w0 : World) (hbel : Below B w0 w)
    (h : ∀ so' cap' w', OwnW e w' B so' (n + m) cap' (ys ++ xs) → Below B w0 w' → K (a.put o.dst (.slice so' (n + m) cap')) w') : Oper.wp P o a w K Q :=
  op_append_words_g w s x t ho e ht hinfo B n cap so ys hs hown ao m c xs hx hrow hbd hB w0 hbel fun so' cap' w' h1 h2 _ => h so' cap' w' h1 h2
theorem RowW.grown {w w' : World} {a : Option Addr} {n cap : Nat} {xs : List Int} {r : Option Nat} (h : RowW w a n cap xs) (hg : w.grownBy w' r) (hne : ∀ x, a = some x → r ≠ some x.block) : RowW w' a n cap xs := by
  obtain ⟨h1, h2, h3, h4, h5, h6, h7⟩ := h
  refine ⟨h1, h2, h3, h4, h5, h6, fun x hx i hi => ?_⟩
  have hc := h7 x hx i hi
  have hb : (x.add i).block = x.block := by simp [Addr.add]; split <;> rfl
  have hlt := lt_of_cell hc
  have he : w'.heap[(x.add i).block]? = w.heap[(x.add i).block]? := hg.block _ hlt (by rw [hb]; exact fun e => hne x hx e.symm)
  rw [← hc]
  unfold World.cell?
  rw [he]
theorem wp_append_words (w : World) (hgd : o.guard = none) (s x : Operand) (t : TypeId) (ho : o.op = .call { callee := .builtin .append, args := #[s, x], argTypes := #[t, t] })
    (e : TypeId) (ht : P.underlying t = some (.slice e)) (hinfo : (P.info? e).map (fun i => (i.zero, i.size, i.bytes)) = some (some (.int .u16 0), 1, 2))
    (B n cap : Nat) (so : Option Addr) (ys : List Int) (hs : a.eval s = .slice so n cap) (hown : OwnW e w B so n cap ys)
    (ao : Option Addr) (m c : Nat) (xs : List Int) (hx : a.eval x = .slice ao m c) (hrow : RowW w ao m c xs) (hbd : n + m ≤ 70368744177664) (hB : B ≤ w.heap.size)
    (w0 : World) (hbel : Below B w0 w)
    (h : ∀ so' cap' w', OwnW e w' B so' (n + m) cap' (ys ++ xs) → Below B w0 w' → wpList P ops Q rest (a.put o.dst (.slice so' (n + m) cap')) w') : wpList P ops Q (o :: rest) a w :=
  wpList_plain hgd fun _ hK => op_append_words w s x t ho e ht hinfo B n cap so ys hs hown ao m c xs hx hrow hbd hB w0 hbel fun so' cap' w' h1 h2 => hK _ _ (h so' cap' w' h1 h2)
/-- 'x[k:]' of a slice of numbers, whatever its address. -/
theorem RowW.from {w : World} {a : Option Addr} {n cap : Nat} {xs : List Int} (h : RowW w a n cap xs) (k : Nat) (hk : k ≤ n) : RowW w (if cap = k then a else a.map (fun x => x.add k)) (n - k) (cap - k) (xs.drop k) := by
  have hc := h.cap_le
  have hl := h.len
  by_cases h0 : n = k
  · subst h0
    have hnil : xs.drop n = [] := by rw [List.drop_eq_nil_iff]; omega
    rw [hnil, Nat.sub_self]
    cases a with
    | none =>
      have := h.2.2.2.2.1 rfl
      obtain ⟨rfl, rfl⟩ := this
      simpa using RowW.nil w
    | some x =>
      by_cases hcn : cap = n
      · rw [if_pos hcn]; exact RowW.none_of _ _ _ (by omega)
      · rw [if_neg hcn]; exact RowW.none_of _ _ _ (by omega)
  · obtain ⟨b, off, rfl, _⟩ := h.at (by omega)
    rw [if_neg (by omega)]
    have := h.tail k hk
    by_cases hk0 : k = 0
    · subst hk0; simpa [Addr.add] using h
    · simpa [Addr.add, hk0] using this
end
end Go.Proofs.Ytafnonmpanpfkaa
