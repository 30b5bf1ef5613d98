/- Lists of bytes in memory: what a slice of bytes reads as ('Row'), one that a call itself made ('Own'), and the laws for make, copy, append and string(b) over them. No program of the seat is named here; nothing is assumed beyond what each theorem states. -/
import Derived.WalkKit
import Derived.WalkSpells
import Derived.WalkLawsBesides
import Derived.WalkMore
import Derived.ScopeJumps
import Derived.Laws.CopyOwn
import Derived.Laws.AppendOwnNone
import Derived.Laws.BytesArg
import Derived.Lib.Bytes
namespace Go.Proofs.Ytafnonmpanpfkaa
open Go.RowKit
set_option maxRecDepth 100000

/-- All are bytes. -/
def Byt (xs : List Int) : Prop := ∀ x ∈ xs, 0 ≤ x ∧ x < 256
theorem Byt.nil : Byt [] := fun _ h => by simp at h
theorem byt_of (xs : List Int) (h : xs.all (fun x => decide (0 ≤ x) && decide (x < 256)) = true) : Byt xs := by
  intro x hx
  have := List.all_eq_true.1 h x hx
  simpa using this
theorem Byt.append {xs ys : List Int} (h : Byt xs) (k : Byt ys) : Byt (xs ++ ys) := fun x hx => (List.mem_append.1 hx).elim (h x) (k x)
theorem Byt.one {x : Int} (h : 0 ≤ x ∧ x < 256) : Byt [x] := fun y hy => by simp at hy; subst hy; exact h
theorem Byt.take {xs : List Int} (h : Byt xs) (k : Nat) : Byt (xs.take k) := fun x hx => h x (List.mem_of_mem_take hx)
theorem Byt.drop {xs : List Int} (h : Byt xs) (k : Nat) : Byt (xs.drop k) := fun x hx => h x (List.mem_of_mem_drop hx)

/-- The slice at a, of n elements, reads as the bytes xs. -/
def Row (w : World) (a : Option Addr) (n cap : Nat) (xs : List Int) : Prop :=
  xs.length = n ∧ n ≤ cap ∧ cap ≤ maxLen ∧ Byt xs ∧ (a = none → n = 0 ∧ cap = 0) ∧ (0 < n → ∃ b off, a = some ⟨b, off, none⟩) ∧ ∀ x, a = some x → ∀ i, i < n → w.cell? (x.add i) = some (.int .u8 (xs.getD i 0))

/-- A slice at the head of a row of the call's own (blocks from B on), whose elements are the bytes xs. -/
def Own (e : TypeId) (w : World) (B g n cap : Nat) (xs : List Int) : Prop :=
  xs.length = n ∧ Byt xs ∧ w.ownsRow B e 1 (.slice (some ⟨g, 0, none⟩) n cap) n (xs.map (Value.int .u8))

theorem Row.len {w : World} {a : Option Addr} {n cap : Nat} {xs : List Int} (h : Row w a n cap xs) : xs.length = n := h.1
theorem Row.byt {w : World} {a : Option Addr} {n cap : Nat} {xs : List Int} (h : Row w a n cap xs) : Byt xs := h.2.2.2.1
theorem Row.cap_le {w : World} {a : Option Addr} {n cap : Nat} {xs : List Int} (h : Row w a n cap xs) : n ≤ cap ∧ cap ≤ 9223372036854775807 := ⟨h.2.1, h.2.2.1⟩
theorem Row.nil (w : World) : Row w none 0 0 [] := ⟨rfl, Nat.le_refl _, Nat.zero_le _, Byt.nil, fun _ => ⟨rfl, rfl⟩, fun h => absurd h (by omega), fun _ h => by simp at h⟩

theorem Row.at {w : World} {a : Option Addr} {n cap : Nat} {xs : List Int} (h : Row w a n cap xs) (hn : 0 < n) :
    ∃ b off, a = some ⟨b, off, none⟩ ∧ ∀ i, i < n → w.cell? ⟨b, off + i, none⟩ = some (.int .u8 (xs.getD i 0)) := by
  obtain ⟨_, _, _, _, _, h1, h2⟩ := h
  obtain ⟨b, off, rfl⟩ := h1 hn
  refine ⟨b, off, rfl, fun i hi => ?_⟩
  have := h2 _ rfl i hi
  by_cases h0 : i = 0
  · subst h0; simpa [Addr.add] using this
  · simpa [Addr.add, h0] using this

theorem lt_of_cell {w : World} {x : Addr} {v : Value} (h : w.cell? x = some v) : x.block < w.heap.size := by
  by_cases hl : x.block < w.heap.size
  · exact hl
  · simp [World.cell?, Array.getElem?_eq_none (Nat.le_of_not_lt hl)] at h

theorem Row.below {w w' : World} {a : Option Addr} {n cap : Nat} {xs : List Int} (h : Row w a n cap xs) (hb : Below w.heap.size w w') : Row w' a n cap xs := by
  obtain ⟨h1, h2, h3, h4, h5, h6, h7⟩ := h
  refine ⟨h1, h2, h3, h4, h5, h6, fun x hx i hi => ?_⟩
  have hc := h7 x hx i hi
  rw [hb.cell (lt_of_cell hc)]
  exact hc

theorem Own.row {e : TypeId} {w : World} {B g n cap : Nat} {xs : List Int} (h : Own e w B g n cap xs) : Row w (some ⟨g, 0, none⟩) n cap xs := by
  obtain ⟨h1, h2, h3⟩ := h
  rcases h3.2 with ⟨h, _⟩ | ⟨g', cap', cur, hv, hB, hg, hn, hm, hs, ht⟩
  · simp at h
  · simp only [Value.slice.injEq, Option.some.injEq, Addr.mk.injEq, and_true, true_and] at hv
    obtain ⟨rfl, rfl⟩ := hv
    refine ⟨h1, hn, hm, h2, fun h => by simp at h, fun _ => ⟨_, _, rfl⟩, fun x hx i hi => ?_⟩
    obtain rfl := Option.some.inj hx
    have := h3.cells (g := g) rfl i (.int .u8 (xs.getD i 0)) (by simp [List.getElem?_map, List.getElem?_eq_getElem (show i < xs.length by omega)])
    exact this

theorem Own.cell {e : TypeId} {w : World} {B g n cap : Nat} {xs : List Int} (h : Own e w B g n cap xs) (i : Nat) (hi : i < n) : w.cell? ⟨g, i, none⟩ = some (.int .u8 (xs.getD i 0)) := by
  obtain ⟨b, off, h1, h2⟩ := h.row.at (by omega)
  simp only [Option.some.injEq, Addr.mk.injEq, and_true] at h1
  obtain ⟨rfl, rfl⟩ := h1
  simpa using h2 i hi
theorem Own.lt {e : TypeId} {w : World} {B g n cap : Nat} {xs : List Int} (h : Own e w B g n cap xs) : B ≤ g ∧ g < w.heap.size := h.2.2.lt g rfl

theorem Own.below {e : TypeId} {w w' : World} {B g n cap : Nat} {xs : List Int} (h : Own e w B g n cap xs) (hb : Below w.heap.size w w') : Own e w' B g n cap xs := by
  have hl := h.lt
  obtain ⟨h1, h2, h3, h4⟩ := h
  refine ⟨h1, h2, h3, ?_⟩
  rcases h4 with ⟨h, _⟩ | ⟨g', cap', cur, hv, hB, hg, hn, hm, hs, ht⟩
  · simp at h
  · simp only [Value.slice.injEq, Option.some.injEq, Addr.mk.injEq, and_true, true_and] at hv
    obtain ⟨rfl, rfl⟩ := hv
    exact .inr ⟨g, cap, cur, rfl, hB, (hb.block g hl.2).trans hg, hn, hm, hs, ht⟩

theorem Own.mono {e : TypeId} {w : World} {B B' g n cap : Nat} {xs : List Int} (h : Own e w B g n cap xs) (hB' : B' ≤ B) : Own e w B' g n cap xs := by
  obtain ⟨h1, h2, h3, h4⟩ := h
  refine ⟨h1, h2, h3, ?_⟩
  rcases h4 with ⟨h, _⟩ | ⟨g', cap', cur, hv, hB, r⟩
  · simp at h
  · exact .inr ⟨g', cap', cur, hv, Nat.le_trans hB' hB, r⟩

/-- Out of a row that is known whole. -/
theorem Own.of_block {e : TypeId} {w : World} {B g n cap : Nat} {xs : List Int} {cur : List Value} (hB : B ≤ g) (hg : w.heap[g]? = some (.cells cur.toArray e (0, 0))) (hn : n ≤ cap) (hm : cap ≤ maxLen) (hc : cur.length = cap)
    (hx : xs.length = n) (hb : Byt xs) (ht : cur.take n = xs.map (Value.int .u8)) : Own e w B g n cap xs :=
  ⟨hx, hb, by simp [hx], .inr ⟨g, cap, cur.toArray, rfl, hB, hg, hn, hm, by simp [hc], by simpa using ht⟩⟩

theorem ints_one (xs : List Int) : ∀ u ∈ xs.map (Value.int .u8), u.oneCell' = true := ints_oneCell .u8 xs

theorem Row.news {w : World} {x : Addr} {n cap : Nat} {xs : List Int} (h : Row w (some x) n cap xs) : ∀ j u, (xs.map (Value.int .u8))[j]? = some u → w.cell? (x.add j) = some u := by
  intro j u hj
  obtain ⟨h1, _, _, _, _, _, h7⟩ := h
  have hjl : j < xs.length := by
    by_cases hl : j < xs.length
    · exact hl
    · simp [List.getElem?_eq_none (Nat.le_of_not_lt hl)] at hj
  rw [h7 x rfl j (by omega)]
  simp [List.getElem?_eq_getElem hjl] at hj
  simp [List.getElem?_eq_getElem hjl, hj]

theorem Row.pre {w : World} {a : Option Addr} {n cap : Nat} {xs : List Int} (h : Row w a n cap xs) (m : Nat) (hm : m ≤ n) : Row w a m cap (xs.take m) := by
  obtain ⟨h1, h2, h3, h4, h5, h6, h7⟩ := h
  refine ⟨by simp; omega, by omega, h3, h4.take m, fun ha => ⟨by have := h5 ha; omega, (h5 ha).2⟩, fun hp => h6 (by omega), fun x hx i hi => ?_⟩
  rw [h7 x hx i (by omega)]
  simp [List.getD, hi]
theorem Row.sub {w : World} {b off n cap : Nat} {xs : List Int} (h : Row w (some ⟨b, off, none⟩) n cap xs) (k m : Nat) (hm : k + m ≤ n) : Row w (some ⟨b, off + k, none⟩) m (cap - k) ((xs.drop k).take m) := by
  have h7 := fun i (hi : i < n) => (h.at (by omega)).elim fun b' hb => hb.elim fun off' ho => by
    obtain ⟨ha, hc⟩ := ho
    simp only [Option.some.injEq, Addr.mk.injEq, and_true] at ha
    obtain ⟨rfl, rfl⟩ := ha
    exact hc i hi
  obtain ⟨h1, h2, h3, h4, _, _, _⟩ := h
  refine ⟨by simp; omega, by omega, by omega, (h4.drop k).take m, fun ha => by simp at ha, fun _ => ⟨_, _, rfl⟩, fun x hx i hi => ?_⟩
  obtain rfl := Option.some.inj hx
  have hk : ((⟨b, off + k, none⟩ : Addr).add i) = ⟨b, off + (k + i), none⟩ := by
    by_cases h0 : i = 0
    · subst h0; simp [Addr.add]
    · simp [Addr.add, h0, Nat.add_assoc]
  rw [hk, h7 (k + i) (by omega)]
  simp [List.getD, hi]
theorem Row.none_of (w : World) (x : Addr) (cap : Nat) (hc : cap ≤ 9223372036854775807) : Row w (some x) 0 cap [] :=
  ⟨rfl, Nat.zero_le _, hc, Byt.nil, fun h => by simp at h, fun h => absurd h (by omega), fun _ _ i hi => absurd hi (by omega)⟩

/-- A new block of bytes that are known. -/
theorem own_lit (w : World) (e : TypeId) (xs : List Int) (n : Nat) (hn : xs.length = n) (hm : n ≤ 9223372036854775807) (hb : Byt xs) : Own e (w.alloc (.cells (xs.map (Value.int .u8)).toArray e)) w.heap.size w.heap.size n n xs :=
  Own.of_block (Nat.le_refl _) (heap_alloc_new w _) (Nat.le_refl _) hm (by simp [hn]) hn hb (List.take_of_length_le (by simp [hn]))
theorem row_lit (w : World) (e : TypeId) (xs : List Int) (n : Nat) (hn : xs.length = n) (hm : n ≤ 9223372036854775807) (hb : Byt xs) : Row (w.alloc (.cells (xs.map (Value.int .u8)).toArray e)) (some ⟨w.heap.size, 0, none⟩) n n xs := by
  exact (own_lit w e xs n hn hm hb).row
theorem ext_trans {a b c : World} (h : Below a.heap.size a b) (k : Below b.heap.size b c) : Below a.heap.size a c := h.trans (k.mono h.size)
theorem row_lit_at (w : World) (g : Nat) (hg : w.heap.size = g) (e : TypeId) (xs : List Int) (n : Nat) (hn : xs.length = n) (hm : n ≤ 9223372036854775807) (hb : Byt xs) : Row (w.alloc (.cells (xs.map (Value.int .u8)).toArray e)) (some ⟨g, 0, none⟩) n n xs := by
  subst hg; exact row_lit w e xs n hn hm hb
theorem below_alloc (w : World) (o : Obj) : Below w.heap.size w (w.alloc o) := (Below.refl _ _).alloc (Nat.le_refl _) _

section
variable {P : Program} {ops : Array Oper} {rest : List Oper} {o : Oper} {a : Act} {Q : Exit → Act → World → Prop}

/-- 'append(s, x...)', s a row of the call's own, x whatever bytes: it may grow. -/
theorem wp_append_bytes (w : World) (hgd : o.guard = none) (s x : Operand) (t : TypeId) (ho : o.op = .call { callee := .builtin .append, args := #[s, x], argTypes := #[t, t] })
    (e : TypeId) (ht : P.underlying t = some (.slice e)) (hinfo : (P.info? e).map (fun i => (i.zero, i.size, i.bytes)) = some (some (.int .u8 0), 1, 1))
    (B g n cap : Nat) (ys : List Int) (hs : a.eval s = .slice (some ⟨g, 0, none⟩) n cap) (hown : Own e w B g n cap ys)
    (ao : Option Addr) (m c : Nat) (xs : List Int) (hx : a.eval x = .slice ao m c) (hrow : Row w ao m c xs) (hbd : n + m ≤ 140737488355328) (hB : B ≤ w.heap.size)
    (w0 : World) (hbel : Below B w0 w)
    (h : ∀ g' cap' w', Own e w' B g' (n + m) cap' (ys ++ xs) → Below B w0 w' → wpList P ops Q rest (a.put o.dst (.slice (some ⟨g', 0, none⟩) (n + m) cap')) w') : wpList P ops Q (o :: rest) a w := by
  obtain ⟨i, hi, hz0, hz1, hz2⟩ := info_parts hinfo
  have hbn : ∀ k, (Value.slice (some ⟨g, 0, none⟩) n cap).ownBlock = some k → B ≤ k := by
    intro k hk; obtain rfl : g = k := by simpa [Value.ownBlock] using hk
    exact hown.lt.1
  have fin : ∀ v' w', w'.ownsRow B e 1 v' (n + m) (ys.map (Value.int .u8) ++ xs.map (Value.int .u8)) → w.grownBy w' (Value.slice (some ⟨g, 0, none⟩) n cap).ownBlock → (v' = .slice none 0 0 ↔ Value.slice (some ⟨g, 0, none⟩) n cap = .slice none 0 0 ∧ m = 0) → wpList P ops Q rest (a.put o.dst v') w' := by
    intro v' w' h1 h2 h3
    have hne : v' ≠ .slice none 0 0 := fun hv => by have := h3.1 hv; simp at this
    rcases h1.2 with ⟨hv, _⟩ | ⟨g', cap', cur, hv, r⟩
    · exact absurd hv hne
    · subst hv
      exact h g' cap' w' ⟨by simp [hown.1, hrow.1], hown.2.1.append hrow.byt, by simpa using h1⟩ (hbel.grown h2 hB hbn)
  cases ao with
  | some ad =>
    exact wpList_append_own w hgd s x t ho B e i (.int .u8 0) 1 1 ht hi hz0 hz1 hz2 rfl (by decide) _ n _ hs hown.2.2 ad m c (xs.map (Value.int .u8)) hx (by simp [hrow.1]) hrow.news (ints_one xs) (by unfold maxLen; omega) (by omega) hB fin
  | none =>
    obtain ⟨rfl, rfl⟩ := hrow.2.2.2.2.1 rfl
    have hnil : xs = [] := List.eq_nil_of_length_eq_zero hrow.1
    subst hnil
    exact wpList_plain hgd fun K hK => by
      have hrun := run_append_owned_none (P := P) w B t o.type e i 1 ht hi (.slice (some ⟨g, 0, none⟩) n cap) n (ys.map (Value.int .u8)) hown.2.2
      unfold Oper.wp
      simp [execOp, ho, resolve, invoke, builtin, hs, hx, hrun, Result.andThen]
      exact hK _ _ (by simpa using h g cap w (by simpa using hown) hbel)

/-- 'append(s, x...)' WITHIN THE CAPACITY. -/
theorem wp_append_room_bytes (w : World) (hgd : o.guard = none) (s x : Operand) (t : TypeId) (ho : o.op = .call { callee := .builtin .append, args := #[s, x], argTypes := #[t, t] })
    (e : TypeId) (ht : P.underlying t = some (.slice e)) (hinfo : (P.info? e).map (fun i => (i.zero, i.size, i.bytes)) = some (some (.int .u8 0), 1, 1))
    (B g n cap : Nat) (ys : List Int) (hs : a.eval s = .slice (some ⟨g, 0, none⟩) n cap) (hown : Own e w B g n cap ys)
    (ao : Option Addr) (m c : Nat) (xs : List Int) (hx : a.eval x = .slice ao m c) (hrow : Row w ao m c xs) (hroom : n + m ≤ cap) (hB : B ≤ w.heap.size)
    (w0 : World) (hbel : Below B w0 w)
    (h : ∀ w', Own e w' B g (n + m) cap (ys ++ xs) → Below B w0 w' → wpList P ops Q rest (a.put o.dst (.slice (some ⟨g, 0, none⟩) (n + m) cap)) w') : wpList P ops Q (o :: rest) a w := by
  obtain ⟨i, hi, hz0, hz1, hz2⟩ := info_parts hinfo
  refine wpList_append_fits_any w hgd s x t ho B e i 1 ht hi hz1 g n cap (ys.map (Value.int .u8)) hs hown.2.2 ao m c (xs.map (Value.int .u8)) hx (by simp [hrow.1]) hrow.2.2.2.2.1 (fun ad had => by subst had; exact hrow.news) (ints_one xs) hroom ?_
  intro w' h1 h2
  exact h w' ⟨by simp [hown.1, hrow.1], hown.2.1.append hrow.byt, by simpa using h1⟩ (hbel.grown h2 hB (fun k hk => by have hgk : g = k := Option.some.inj hk; rw [← hgk]; exact hown.lt.1))

/-- 'make([]byte, l, c)': noughts. -/
theorem wp_make_bytes (w : World) (hgd : o.guard = none) (l c : Operand) (t : TypeId) (ho : o.op = Op.makeSlice t l c)
    (e : TypeId) (ht : P.underlying t = some (.slice e)) (hinfo : (P.info? e).map (fun i => (i.zero, i.size, i.bytes)) = some (some (.int .u8 0), 1, 1))
    (L C : Int) (ln cn : Nat) (hl : a.eval l = .int .i64 L) (hc : a.eval c = .int .i64 C) (hL : L = (ln : Int)) (hC : C = (cn : Int)) (hle : ln ≤ cn) (hbd : cn ≤ 281474976710656)
    (B : Nat) (hB : B ≤ w.heap.size) (w0 : World) (hbel : Below B w0 w)
    (h : ∀ w', Hid (w'.heap[w.heap.size]? = some (.cells (List.replicate cn (Value.int .u8 0)).toArray e (0, 0))) → Below B w0 w' → w'.heap.size = w.heap.size + 1 → wpList P ops Q rest (a.put o.dst (.slice (some ⟨w.heap.size, 0, none⟩) ln cn)) w') : wpList P ops Q (o :: rest) a w := by
  obtain ⟨i, hi, hz0, hz1, hz2⟩ := info_parts hinfo
  subst hL hC
  refine wpList_plain hgd fun K hK => ?_
  have hrun := run_make (P := P) w t e i (.int .u8 0) ht hi hz0 .i64 .i64 ln cn (by omega) (by omega) (by rw [hz2]; omega) (by omega)
  unfold Oper.wp
  simp [execOp, ho, hl, hc, hrun, Result.andThen]
  refine hK _ _ (h _ ?_ (hbel.alloc hB _) (by simp))
  show _ = _
  have hx := heap_alloc_new w (.cells (madeCells #[Value.int .u8 0] cn) e)
  have hy : (madeCells #[Value.int .u8 0] cn) = (List.replicate cn (Value.int .u8 0)).toArray := by
    have := toList_madeCells_one (Value.int .u8 0) cn
    rw [← this]
  have hz : (Value.int .u8 0).cells = #[Value.int .u8 0] := rfl
  rw [hz1, Nat.mul_one, hz, hy]
  rw [hy] at hx
  simpa using hx

/-- 'copy(d, s)': d a row that is known whole, at its head, at least as long as s. -/
theorem wp_copy_bytes (w : World) (hgd : o.guard = none) (d s : Operand) (t : TypeId) (ho : o.op = .call { callee := .builtin .copy, args := #[d, s], argTypes := #[t, t] })
    (e : TypeId) (ht : P.underlying t = some (.slice e)) (hinfo : (P.info? e).map (fun i => (i.zero, i.size, i.bytes)) = some (some (.int .u8 0), 1, 1))
    (g ln cn : Nat) (hd : a.eval d = .slice (some ⟨g, 0, none⟩) ln cn) (ao : Option Addr) (m c : Nat) (xs : List Int) (hs : a.eval s = .slice ao m c) (hrow : Row w ao m c xs) (hm : m ≤ ln) (hlc : ln ≤ cn)
    (cur : List Value) (hcur : cur.length = cn) (hg : w.heap[g]? = some (.cells cur.toArray e (0, 0)))
    (B : Nat) (hBg : B ≤ g) (w0 : World) (hbel : Below B w0 w)
    (h : ∀ w', Hid (w'.heap[g]? = some (.cells (xs.map (Value.int .u8) ++ cur.drop m).toArray e (0, 0))) → Below B w0 w' → wpList P ops Q rest (a.put o.dst (goInt m)) w') : wpList P ops Q (o :: rest) a w := by
  obtain ⟨i, hi, hz0, hz1, hz2⟩ := info_parts hinfo
  have hlen : (xs.map (Value.int .u8)).length = m := by simp [hrow.1]
  refine wpList_copy_splice hgd d s t t ho e ht (by rw [hi]; simp [hz1]) _ _ ln cn m c hd hs g 0 cur e hg (xs.map (Value.int .u8)) (by rw [hlen]; exact (Nat.min_eq_left hm).symm) (fun hp => ⟨rfl, ?_⟩) (by rw [hlen, hcur]; omega) (ints_one xs) B w0 hbel hBg ?_
  · obtain ⟨b, off, rfl, _⟩ := hrow.at (by omega)
    exact ⟨_, rfl, hrow.news⟩
  · intro w' h1 h2
    rw [hlen]
    refine h w' ?_ h2
    have h1' := h1.out
    show _ = _
    rw [h1']
    simp [splice, hrow.1]

/-- 'string(b)'. -/
theorem run_str (w : World) (src dst e : TypeId) (hs : P.underlying src = some (.slice e)) (he : P.underlying e = some (.int .u8)) (hd : P.underlying dst = some .string) (ao : Option Addr) (n cap : Nat) (xs : List Int) (hrow : Row w ao n cap xs) :
    (convert src dst (.slice ao n cap)).run P w = .ok (.string (strOfNums xs)) w := by
  by_cases hn : 0 < n
  · obtain ⟨b, off, rfl, hc⟩ := hrow.at hn
    exact run_convert_bytes_arg w src e hs he b off n cap xs hrow.1 hc dst hd
  · obtain rfl : n = 0 := by omega
    have hnil : xs = [] := List.eq_nil_of_length_eq_zero hrow.1
    subst hnil
    rw [run_convert_bytes_string w src dst e ao 0 cap hs he hd]
    have hz : strOfNums [] = ByteArray.empty := rfl
    rw [hz]
    cases ao <;> simp [Conv.bytesToString, loadCells, loadCellsFrom]
end
end Go.Proofs.Ytafnonmpanpfkaa
