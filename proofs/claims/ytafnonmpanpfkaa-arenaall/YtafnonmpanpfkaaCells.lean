/- Slices whose elements take several cells: how an element lies ('Enc'), what a slice of them reads as ('RowG'), one that a call itself made, nil or not ('OwnG'), and the laws for append over them. No program of the seat is named here. -/
import Derived.Test.YtafnonmpanpfkaaWords
namespace Go.Proofs.Ytafnonmpanpfkaa
open Go.RowKit
set_option maxRecDepth 100000

/-- How an element lies in memory: k cells. -/
structure Enc (α : Type) where
  k : Nat
  pos : 0 < k
  cells : α → List Value
  len : ∀ x, (cells x).length = k
  one : ∀ x, ∀ u ∈ cells x, u.oneCell' = true
  ok : α → Prop

theorem add_pl (b off n : Nat) : (⟨b, off, none⟩ : Addr).add n = ⟨b, off + n, none⟩ := by
  by_cases h : n = 0
  · subst h; simp [Addr.add]
  · simp [Addr.add, h]

section
variable {α : Type} (E : Enc α)
def Enc.flat (xs : List α) : List Value := xs.flatMap E.cells
theorem Enc.flat_nil : E.flat [] = [] := rfl
theorem Enc.flat_append (xs ys : List α) : E.flat (xs ++ ys) = E.flat xs ++ E.flat ys := by simp [Enc.flat]
theorem Enc.flat_len (xs : List α) : (E.flat xs).length = xs.length * E.k := by
  induction xs with
  | nil => simp [Enc.flat]
  | cons x xs ih =>
    have : E.flat (x :: xs) = E.cells x ++ E.flat xs := by simp [Enc.flat]
    rw [this, List.length_append, ih, E.len, List.length_cons, Nat.succ_mul, Nat.add_comm]
theorem Enc.flat_get (xs : List α) (i j : Nat) (hj : j < E.k) : (E.flat xs)[i * E.k + j]? = xs[i]?.bind fun x => (E.cells x)[j]? := by
  induction xs generalizing i with
  | nil => simp [Enc.flat]
  | cons x xs ih =>
    have hc : E.flat (x :: xs) = E.cells x ++ E.flat xs := by simp [Enc.flat]
    rw [hc]
    cases i with
    | zero => rw [Nat.zero_mul, Nat.zero_add, List.getElem?_append_left (by rw [E.len]; exact hj)]; simp
    | succ i =>
      have e : (i + 1) * E.k + j = (E.cells x).length + (i * E.k + j) := by rw [E.len, Nat.succ_mul]; omega
      rw [e, List.getElem?_append_right (by omega), Nat.add_sub_cancel_left, ih]
      simp
theorem Enc.flat_one (xs : List α) : ∀ u ∈ E.flat xs, u.oneCell' = true := by
  intro u hu
  obtain ⟨x, _, hx⟩ := List.mem_flatMap.1 hu
  exact E.one x u hx
theorem Enc.flat_take (xs : List α) (m : Nat) : (E.flat xs).take (m * E.k) = E.flat (xs.take m) := by
  induction xs generalizing m with
  | nil => simp [Enc.flat]
  | cons x xs ih =>
    have hc : E.flat (x :: xs) = E.cells x ++ E.flat xs := by simp [Enc.flat]
    cases m with
    | zero => simp [Enc.flat]
    | succ m =>
      rw [hc, List.take_succ_cons, show (m + 1) * E.k = (E.cells x).length + m * E.k by rw [E.len, Nat.succ_mul]; omega, List.take_length_add_append, ih]
      simp [Enc.flat]
def Enc.Ok (xs : List α) : Prop := ∀ x ∈ xs, E.ok x

/-- The slice at a, of n elements, reads as xs. -/
def RowG (w : World) (a : Option Addr) (n cap : Nat) (xs : List α) : Prop :=
  xs.length = n ∧ n ≤ cap ∧ cap ≤ maxLen ∧ E.Ok xs ∧ (a = none → n = 0 ∧ cap = 0) ∧ (0 < n → ∃ b off, a = some ⟨b, off, none⟩) ∧ ∀ ad, a = some ad → ∀ i x, xs[i]? = some x → ∀ j v, (E.cells x)[j]? = some v → w.cell? (ad.add (i * E.k + j)) = some v

/-- A slice that is nil, or at the head of a row of the call's own (blocks from B on), whose elements are xs. -/
def OwnG (e : TypeId) (w : World) (B : Nat) (a : Option Addr) (n cap : Nat) (xs : List α) : Prop :=
  xs.length = n ∧ E.Ok xs ∧ w.ownsRow B e E.k (.slice a n cap) n (E.flat xs)
end

section
variable {α : Type} {E : Enc α}
theorem Enc.Ok.nil : E.Ok [] := fun _ h => by simp at h
theorem Enc.Ok.append {xs ys : List α} (h : E.Ok xs) (k : E.Ok ys) : E.Ok (xs ++ ys) := fun x hx => (List.mem_append.1 hx).elim (h x) (k x)
theorem Enc.Ok.one {x : α} (h : E.ok x) : E.Ok [x] := fun y hy => by simp at hy; subst hy; exact h
theorem Enc.Ok.take {xs : List α} (h : E.Ok xs) (k : Nat) : E.Ok (xs.take k) := fun x hx => h x (List.mem_of_mem_take hx)
theorem Enc.Ok.drop {xs : List α} (h : E.Ok xs) (k : Nat) : E.Ok (xs.drop k) := fun x hx => h x (List.mem_of_mem_drop hx)
theorem Enc.Ok.get {xs : List α} (h : E.Ok xs) {i : Nat} {x : α} (hx : xs[i]? = some x) : E.ok x := h x (List.mem_of_getElem? hx)

theorem RowG.len {w : World} {a : Option Addr} {n cap : Nat} {xs : List α} (h : RowG E w a n cap xs) : xs.length = n := h.1
theorem RowG.ok {w : World} {a : Option Addr} {n cap : Nat} {xs : List α} (h : RowG E w a n cap xs) : E.Ok xs := h.2.2.2.1
theorem RowG.cap_le {w : World} {a : Option Addr} {n cap : Nat} {xs : List α} (h : RowG E w a n cap xs) : n ≤ cap ∧ cap ≤ 9223372036854775807 := ⟨h.2.1, h.2.2.1⟩
theorem RowG.nil (E : Enc α) (w : World) : RowG E w none 0 0 [] := ⟨rfl, Nat.le_refl _, Nat.zero_le _, Enc.Ok.nil, fun _ => ⟨rfl, rfl⟩, fun h => absurd h (by omega), fun _ h => by simp at h⟩
theorem RowG.none_of (E : Enc α) (w : World) (x : Addr) (cap : Nat) (hc : cap ≤ 9223372036854775807) : RowG E w (some x) 0 cap [] :=
  ⟨rfl, Nat.zero_le _, hc, Enc.Ok.nil, fun h => by simp at h, fun h => absurd h (by omega), fun _ _ i x hi => by simp at hi⟩
theorem RowG.empty {w : World} {a : Option Addr} {n cap : Nat} {xs : List α} (h : RowG E w a n cap xs) (h0 : n = 0) : xs = [] := List.eq_nil_of_length_eq_zero (h.1.trans h0)
theorem RowG.get {w : World} {a : Option Addr} {n cap : Nat} {xs : List α} (h : RowG E w a n cap xs) (i : Nat) (hi : i < n) : ∃ x, xs[i]? = some x := ⟨xs[i]'(by have := h.1; omega), List.getElem?_eq_getElem _⟩

theorem RowG.at {w : World} {a : Option Addr} {n cap : Nat} {xs : List α} (h : RowG E w a n cap xs) (hn : 0 < n) :
    ∃ b off, a = some ⟨b, off, none⟩ ∧ ∀ i x, xs[i]? = some x → ∀ j v, (E.cells x)[j]? = some v → w.cell? ⟨b, off + i * E.k + j, none⟩ = some v := by
  obtain ⟨_, _, _, _, _, h1, h2⟩ := h
  obtain ⟨b, off, rfl⟩ := h1 hn
  refine ⟨b, off, rfl, fun i x hi j v hv => ?_⟩
  have := h2 _ rfl i x hi j v hv
  rwa [add_pl, ← Nat.add_assoc] at this
theorem RowG.cells {w : World} {b off n cap : Nat} {xs : List α} (h : RowG E w (some ⟨b, off, none⟩) n cap xs) : ∀ i x, xs[i]? = some x → ∀ j v, (E.cells x)[j]? = some v → w.cell? ⟨b, off + i * E.k + j, none⟩ = some v := by
  intro i x hi j v hv
  have := h.2.2.2.2.2.2 _ rfl i x hi j v hv
  rwa [add_pl, ← Nat.add_assoc] at this

theorem RowG.below {w w' : World} {a : Option Addr} {n cap : Nat} {xs : List α} (h : RowG E w a n cap xs) (hb : Below w.heap.size w w') : RowG E w' a n cap xs := by
  obtain ⟨h1, h2, h3, h4, h5, h6, h7⟩ := h
  refine ⟨h1, h2, h3, h4, h5, h6, fun x hx i y hi j v hv => ?_⟩
  have hc := h7 x hx i y hi j v hv
  rw [hb.cell (lt_of_cell hc)]
  exact hc
theorem RowG.grown {w w' : World} {a : Option Addr} {n cap : Nat} {xs : List α} {r : Option Nat} (h : RowG E w a n cap xs) (hg : w.grownBy w' r) (hne : ∀ x, a = some x → r ≠ some x.block) : RowG E w' a n cap xs := by
  obtain ⟨h1, h2, h3, h4, h5, h6, h7⟩ := h
  refine ⟨h1, h2, h3, h4, h5, h6, fun x hx i y hi j v hv => ?_⟩
  have hc := h7 x hx i y hi j v hv
  have hb : (x.add (i * E.k + j)).block = x.block := by simp [Addr.add]; split <;> rfl
  have hlt := lt_of_cell hc
  have he : w'.heap[(x.add (i * E.k + j)).block]? = w.heap[(x.add (i * E.k + j)).block]? := hg.block _ hlt (by rw [hb]; exact fun e => hne x hx e.symm)
  rw [← hc]
  unfold World.cell?
  rw [he]

theorem OwnG.cases {e : TypeId} {w : World} {B n cap : Nat} {a : Option Addr} {xs : List α} (h : OwnG E e w B a n cap xs) :
    (a = none ∧ n = 0 ∧ cap = 0 ∧ xs = []) ∨ ∃ (g : Nat) (cur : Array Value), a = some ⟨g, 0, none⟩ ∧ B ≤ g ∧ w.heap[g]? = some (.cells cur e (0, 0)) ∧ n ≤ cap ∧ cap ≤ maxLen ∧ cur.size = cap * E.k ∧ cur.toList.take (n * E.k) = E.flat xs := by
  obtain ⟨h1, h2, h3⟩ := h
  rcases h3.2 with ⟨h, h0⟩ | ⟨g, cap', cur, hv, hB, hg, hn, hm, hs, ht⟩
  · simp only [Value.slice.injEq] at h
    obtain ⟨rfl, _, rfl⟩ := h
    exact .inl ⟨rfl, h0, rfl, List.eq_nil_of_length_eq_zero (by omega)⟩
  · simp only [Value.slice.injEq] at hv
    obtain ⟨rfl, _, rfl⟩ := hv
    exact .inr ⟨g, cur, rfl, hB, hg, hn, hm, hs, ht⟩
theorem OwnG.of_nil (E : Enc α) (e : TypeId) (w : World) (B : Nat) : OwnG E e w B none 0 0 [] := ⟨rfl, Enc.Ok.nil, by simp [Enc.flat], .inl ⟨rfl, rfl⟩⟩
theorem OwnG.of_cells {e : TypeId} {w : World} {B g n cap : Nat} {xs : List α} {cur : Array Value} (hB : B ≤ g) (hg : w.heap[g]? = some (.cells cur e (0, 0))) (hn : n ≤ cap) (hm : cap ≤ maxLen) (hc : cur.size = cap * E.k)
    (hx : xs.length = n) (hb : E.Ok xs) (ht : cur.toList.take (n * E.k) = E.flat xs) : OwnG E e w B (some ⟨g, 0, none⟩) n cap xs :=
  ⟨hx, hb, by rw [E.flat_len, hx], .inr ⟨g, cap, cur, rfl, hB, hg, hn, hm, hc, ht⟩⟩

theorem OwnG.row {e : TypeId} {w : World} {B n cap : Nat} {a : Option Addr} {xs : List α} (h : OwnG E e w B a n cap xs) : RowG E w a n cap xs := by
  have hc := h.cases
  obtain ⟨h1, h2, h3⟩ := h
  rcases hc with ⟨rfl, rfl, rfl, rfl⟩ | ⟨g, cur, rfl, hB, hg, hn, hm, hs, ht⟩
  · exact RowG.nil E w
  · refine ⟨h1, hn, hm, h2, fun h => by simp at h, fun _ => ⟨_, _, rfl⟩, fun x hx i y hi j v hv => ?_⟩
    obtain rfl := Option.some.inj hx
    have hj : j < E.k := by
      have := E.len y
      by_cases hl : j < (E.cells y).length
      · omega
      · rw [List.getElem?_eq_none (by omega)] at hv; simp at hv
    exact h3.cells (g := g) rfl (i * E.k + j) v (by rw [E.flat_get _ _ _ hj, hi]; exact hv)
theorem OwnG.lt {e : TypeId} {w : World} {B g off n cap : Nat} {xs : List α} (h : OwnG E e w B (some ⟨g, off, none⟩) n cap xs) : B ≤ g ∧ g < w.heap.size := by
  rcases h.cases with ⟨h, _⟩ | ⟨g', cur, hv, hB, hg, _⟩
  · simp at h
  · simp only [Option.some.injEq, Addr.mk.injEq, and_true] at hv
    obtain ⟨rfl, _⟩ := hv
    exact ⟨hB, (Array.getElem?_eq_some_iff.1 hg).1⟩
theorem OwnG.below {e : TypeId} {w w' : World} {B n cap : Nat} {a : Option Addr} {xs : List α} (h : OwnG E e w B a n cap xs) (hb : Below w.heap.size w w') : OwnG E e w' B a n cap xs := by
  rcases h.cases with ⟨rfl, rfl, rfl, rfl⟩ | ⟨g, cur, rfl, hB, hg, hn, hm, hs, ht⟩
  · exact OwnG.of_nil _ _ _ _
  · exact OwnG.of_cells hB ((hb.block g (Array.getElem?_eq_some_iff.1 hg).1).trans hg) hn hm hs h.1 h.2.1 ht
/-- What is made elsewhere leaves a row of one's own. -/
theorem OwnG.grown {e : TypeId} {w w' : World} {B n cap : Nat} {a : Option Addr} {xs : List α} {r : Option Nat} (h : OwnG E e w B a n cap xs) (hg' : w.grownBy w' r) (hne : ∀ x, a = some x → r ≠ some x.block) : OwnG E e w' B a n cap xs := by
  rcases h.cases with ⟨rfl, rfl, rfl, rfl⟩ | ⟨g, cur, rfl, hB, hg, hn, hm, hs, ht⟩
  · exact OwnG.of_nil _ _ _ _
  · exact OwnG.of_cells hB ((hg'.block g (Array.getElem?_eq_some_iff.1 hg).1 (fun e => hne _ rfl e.symm)).trans hg) hn hm hs h.1 h.2.1 ht
theorem OwnG.mono {e : TypeId} {w : World} {B B' n cap : Nat} {a : Option Addr} {xs : List α} (h : OwnG E e w B a n cap xs) (hB' : B' ≤ B) : OwnG E e w B' a n cap xs := by
  rcases h.cases with ⟨rfl, rfl, rfl, rfl⟩ | ⟨g, cur, rfl, hB, hg, hn, hm, hs, ht⟩
  · exact OwnG.of_nil _ _ _ _
  · exact OwnG.of_cells (Nat.le_trans hB' hB) hg hn hm hs h.1 h.2.1 ht
theorem OwnG.pre {e : TypeId} {w : World} {B n cap : Nat} {a : Option Addr} {xs : List α} (h : OwnG E e w B a n cap xs) (m : Nat) (hm' : m ≤ n) : OwnG E e w B a m cap (xs.take m) := by
  have hlen := h.1
  rcases h.cases with ⟨rfl, rfl, rfl, rfl⟩ | ⟨g, cur, rfl, hB, hg, hn, hm, hs, ht⟩
  · obtain rfl : m = 0 := by omega
    exact OwnG.of_nil _ _ _ _
  · refine OwnG.of_cells hB hg (by omega) hm hs (by simp; omega) (h.2.1.take m) ?_
    rw [← E.flat_take, ← ht, List.take_take, Nat.min_eq_left (Nat.mul_le_mul_right _ hm')]

theorem RowG.news {w : World} {x : Addr} {n cap : Nat} {xs : List α} (h : RowG E w (some x) n cap xs) : ∀ j u, (E.flat xs)[j]? = some u → w.cell? (x.add j) = some u := by
  intro t u ht
  have hk := E.pos
  have e : t / E.k * E.k + t % E.k = t := by rw [Nat.mul_comm]; exact Nat.div_add_mod t E.k
  have hlt := Nat.mod_lt t hk
  rw [← e, E.flat_get _ _ _ hlt] at ht
  cases hx : xs[t / E.k]? with
  | none => rw [hx] at ht; simp at ht
  | some y =>
    rw [hx] at ht
    have := h.2.2.2.2.2.2 x rfl _ y hx _ u ht
    rwa [e] at this

theorem RowG.pre {w : World} {a : Option Addr} {n cap : Nat} {xs : List α} (h : RowG E w a n cap xs) (m : Nat) (hm : m ≤ n) : RowG E w a m cap (xs.take m) := by
  obtain ⟨h1, h2, h3, h4, h5, h6, h7⟩ := h
  refine ⟨by simp; omega, by omega, h3, h4.take m, fun ha => ⟨by have := h5 ha; omega, (h5 ha).2⟩, fun hp => h6 (by omega), fun x hx i y hi j v hv => ?_⟩
  refine h7 x hx i y ?_ j v hv
  rw [List.getElem?_take] at hi
  split at hi
  · exact hi
  · simp at hi
theorem RowG.sub {w : World} {b off n cap : Nat} {xs : List α} (h : RowG E w (some ⟨b, off, none⟩) n cap xs) (k m : Nat) (hm : k + m ≤ n) : RowG E w (some ⟨b, off + k * E.k, none⟩) m (cap - k) ((xs.drop k).take m) := by
  have h7 := h.cells
  obtain ⟨h1, h2, h3, h4, _, _, _⟩ := h
  have hd : cap - k ≤ maxLen := Nat.le_trans (Nat.sub_le _ _) h3
  refine ⟨by simp; omega, by omega, hd, (h4.drop k).take m, fun ha => by simp at ha, fun _ => ⟨_, _, rfl⟩, fun x hx i y hi j v hv => ?_⟩
  obtain rfl := Option.some.inj hx
  rw [List.getElem?_take] at hi
  split at hi
  · rw [List.getElem?_drop] at hi
    have := h7 (k + i) y hi j v hv
    rw [add_pl, show off + k * E.k + (i * E.k + j) = off + (k + i) * E.k + j by rw [Nat.add_mul]; omega]
    exact this
  · simp at hi
theorem RowG.tail {w : World} {b off n cap : Nat} {xs : List α} (h : RowG E w (some ⟨b, off, none⟩) n cap xs) (k : Nat) (hk : k ≤ n) : RowG E w (some ⟨b, off + k * E.k, none⟩) (n - k) (cap - k) (xs.drop k) := by
  have h1 := h.sub k (n - k) (by omega)
  rwa [List.take_of_length_le (by simp [h.len])] at h1
theorem RowG.tail0 {w : World} {b off n cap : Nat} {xs : List α} (h : RowG E w (some ⟨b, off, none⟩) n cap xs) (k : Nat) (hk : k ≤ n) (hc : cap = k) : RowG E w (some ⟨b, off, none⟩) (n - k) 0 (xs.drop k) := by
  subst hc
  have h1 := h.cap_le
  have h2 := h.len
  rw [List.drop_of_length_le (by omega), show n - cap = 0 by omega]
  exact RowG.none_of _ _ _ _ (by omega)

/-- A new block of elements that are known. -/
theorem owng_lit (E : Enc α) (w : World) (e : TypeId) (xs : List α) (cs : Array Value) (hcs : cs.toList = E.flat xs) (n : Nat) (hn : xs.length = n) (hm : n ≤ 9223372036854775807) (hb : E.Ok xs) (g B : Nat) (hg : w.heap.size = g) (hB : B ≤ g) : OwnG E e (w.alloc (.cells cs e)) B (some ⟨g, 0, none⟩) n n xs := by
  subst hg
  have hsz : cs.size = n * E.k := by rw [← Array.length_toList, hcs, E.flat_len, hn]
  exact OwnG.of_cells hB (heap_alloc_new w _) (Nat.le_refl _) hm hsz hn hb (by rw [List.take_of_length_le (by rw [Array.length_toList, hsz]; exact Nat.le_refl _), hcs])
end

section
variable {P : Program} {ops : Array Oper} {rest : List Oper} {o : Oper} {a : Act} {Q : Exit → Act → World → Prop} {α : Type} {E : Enc α}

/-- 'append(s, x...)', s nil or a row of the call's own, x whatever elements: it may grow. -/
theorem op_append_g {K : Act → World → Prop} (w : World) (s x : Operand) (t : TypeId) (ho : o.op = .call { callee := .builtin .append, args := #[s, x], argTypes := #[t, t] })
    (e : TypeId) (ht : P.underlying t = some (.slice e)) (z : Value) (by' : Nat) (hinfo : (P.info? e).map (fun i => (i.zero, i.size, i.bytes)) = some (some z, E.k, by')) (hz : z.cells.size = E.k) (_hby : by' ≤ 1024)
    (B n cap : Nat) (so : Option Addr) (ys : List α) (hs : a.eval s = .slice so n cap) (hown : OwnG E e w B so n cap ys)
    (ao : Option Addr) (m c : Nat) (xs : List α) (hx : a.eval x = .slice ao m c) (hrow : RowG E w ao m c xs) (hbd : n + m ≤ 140737488355328 ∧ (n + m) * by' ≤ 140737488355328) (hB : B ≤ w.heap.size)
    (w0 : World) (hbel : Below B w0 w)
    (h : ∀ so' cap' w', OwnG E e w' B so' (n + m) cap' (ys ++ xs) → Below B w0 w' → w.grownBy w' (Value.slice so n cap).ownBlock → K (a.put o.dst (.slice so' (n + m) cap')) w') : Oper.wp P o a w K Q := by
  obtain ⟨i, hi, hz0, hz1, hz2⟩ := info_parts hinfo
  have hbn : ∀ k, (Value.slice so n cap).ownBlock = some k → B ≤ k := by
    intro k hk
    rcases hown.cases with ⟨rfl, _⟩ | ⟨g, cur, rfl, hBg, _⟩
    · simp [Value.ownBlock] at hk
    · obtain rfl : g = k := by simpa [Value.ownBlock] using hk
      exact hBg
  have fin : ∀ v' w', w'.ownsRow B e E.k v' (n + m) (E.flat ys ++ E.flat xs) → w.grownBy w' (Value.slice so n cap).ownBlock → (v' = .slice none 0 0 ↔ Value.slice so n cap = .slice none 0 0 ∧ m = 0) → K (a.put o.dst v') w' := by
    intro v' w' h1 h2 _
    have hl : (ys ++ xs).length = n + m := by simp [hown.1, hrow.1]
    have h1' : w'.ownsRow B e E.k v' (n + m) (E.flat (ys ++ xs)) := by rw [E.flat_append]; exact h1
    rcases h1'.2 with ⟨hv, h0⟩ | ⟨g', cap', cur, hv, r⟩
    · subst hv
      have hn0 : n + m = 0 := h0
      have := h none 0 w' ⟨hl, hown.2.1.append hrow.ok, by rw [hn0] at h1' ⊢; exact h1'⟩ (hbel.grown h2 hB hbn) h2
      rw [hn0] at this
      exact this
    · subst hv
      exact h _ cap' w' ⟨hl, hown.2.1.append hrow.ok, h1'⟩ (hbel.grown h2 hB hbn) h2
  have hbytes : (n + m) * by' ≤ 140737488355328 := hbd.2
  have hroom : n + m ≤ 140737488355328 := hbd.1
  cases ao with
  | some ad =>
    exact wp_append_own w s x t ho B e i z E.k by' ht hi hz0 hz1 hz2 hz E.pos _ n _ hs hown.2.2 ad m c (E.flat xs) hx (by rw [E.flat_len, hrow.1]) hrow.news (E.flat_one xs) (by unfold maxLen; omega) hbytes hB fin
  | none =>
    obtain ⟨rfl, rfl⟩ := hrow.2.2.2.2.1 rfl
    have hnil : xs = [] := List.eq_nil_of_length_eq_zero hrow.1
    subst hnil
    have hrun := run_append_owned_none (P := P) w B t o.type e i E.k ht hi (.slice so n cap) n (E.flat ys) hown.2.2
    unfold Oper.wp
    simp [execOp, ho, resolve, invoke, builtin, hs, hx, hrun, Result.andThen]
    exact (show K (a.put o.dst (.slice so n cap)) w by simpa using h so cap w (by simpa using hown) hbel ⟨rfl, rfl, rfl, Nat.le_refl _, fun _ _ _ => rfl⟩)
theorem wp_append_g (w : World) (hgd : o.guard = none) (s x : Operand) (t : TypeId) (ho : o.op = .call { callee := .builtin .append, args := #[s, x], argTypes := #[t, t] })
    (e : TypeId) (ht : P.underlying t = some (.slice e)) (z : Value) (by' : Nat) (hinfo : (P.info? e).map (fun i => (i.zero, i.size, i.bytes)) = some (some z, E.k, by')) (hz : z.cells.size = E.k) (_hby : by' ≤ 1024)
    (B n cap : Nat) (so : Option Addr) (ys : List α) (hs : a.eval s = .slice so n cap) (hown : OwnG E e w B so n cap ys)
    (ao : Option Addr) (m c : Nat) (xs : List α) (hx : a.eval x = .slice ao m c) (hrow : RowG E w ao m c xs) (hbd : n + m ≤ 140737488355328 ∧ (n + m) * by' ≤ 140737488355328) (hB : B ≤ w.heap.size)
    (w0 : World) (hbel : Below B w0 w)
    (h : ∀ so' cap' w', OwnG E e w' B so' (n + m) cap' (ys ++ xs) → Below B w0 w' → w.grownBy w' (Value.slice so n cap).ownBlock → wpList P ops Q rest (a.put o.dst (.slice so' (n + m) cap')) w') : wpList P ops Q (o :: rest) a w :=
  wpList_plain hgd fun _ hK => op_append_g w s x t ho e ht z by' hinfo hz _hby B n cap so ys hs hown ao m c xs hx hrow hbd hB w0 hbel fun so' cap' w' h1 h2 h3 => hK _ _ (h so' cap' w' h1 h2 h3)
end
end Go.Proofs.Ytafnonmpanpfkaa
