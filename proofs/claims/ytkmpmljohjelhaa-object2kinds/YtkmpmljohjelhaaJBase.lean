/- Lists of bytes in memory: what a slice of bytes reads as ('Row'), one that a call itself made ('Own'), and the laws for make, copy, append and string(b) over them. No program of the seat is named here; nothing is assumed beyond what each theorem states. Numbers as bytes, plainly: what the bytes of a number are, and which number bytes are; no Go in sight. Lists of 16-bit numbers in memory: what a slice of them reads as ('RowW'), one that a call itself made, nil or not ('OwnW'), and the laws for append over them. No program of the seat is named here. Slices whose elements take several cells: how an element lies ('Enc'), what a slice of them reads as ('RowG'), one that a call itself made, nil or not ('OwnG'), and the laws for append over them. No program of the seat is named here. 'append' of bytes as one operation of a region that draws its order: the block alone that it may write is named. -/
import Derived.WalkKit
import Derived.WalkSpells
import Derived.WalkLawsBesides
import Derived.WalkMore
import Derived.ScopeJumps
import Derived.Laws.CopyOwn
import Derived.Laws.AppendOwnNone
import Derived.Laws.BytesArg
import Derived.Lib.Bytes
namespace Go.Proofs.Ytkmpmljohjelhaa
open Go.RowKit
set_option maxRecDepth 100000

/-- All are bytes. -/
def Byt (xs : List Int) : Prop := ∀ x ∈ xs, 0 ≤ x ∧ x < 256
theorem Byt.nil : Byt [] := fun _ h => by simp at h
theorem byt_of (xs : List Int) (h : xs.all (fun x => decide (0 ≤ x) && decide (x < 256)) = true) : Byt xs := by
  intro x hx
  have := List.all_eq_true.1 h x hx
  simpa using this
theorem Byt.append {xs ys : List Int} (h : Byt xs) (k : Byt ys) : Byt (xs ++ ys) := fun x hx => (List.mem_append.1 hx).elim (h x) (k x)
theorem Byt.one {x : Int} (h : 0 ≤ x ∧ x < 256) : Byt [x] := fun y hy => by simp at hy; subst hy; exact h
theorem Byt.take {xs : List Int} (h : Byt xs) (k : Nat) : Byt (xs.take k) := fun x hx => h x (List.mem_of_mem_take hx)
theorem Byt.drop {xs : List Int} (h : Byt xs) (k : Nat) : Byt (xs.drop k) := fun x hx => h x (List.mem_of_mem_drop hx)

/-- The slice at a, of n elements, reads as the bytes xs. -/
def Row (w : World) (a : Option Addr) (n cap : Nat) (xs : List Int) : Prop :=
  xs.length = n ∧ n ≤ cap ∧ cap ≤ maxLen ∧ Byt xs ∧ (a = none → n = 0 ∧ cap = 0) ∧ (0 < n → ∃ b off, a = some ⟨b, off, none⟩) ∧ ∀ x, a = some x → ∀ i, i < n → w.cell? (x.add i) = some (.int .u8 (xs.getD i 0))

/-- A slice at the head of a row of the call's own (blocks from B on), whose elements are the bytes xs. -/
def Own (e : TypeId) (w : World) (B g n cap : Nat) (xs : List Int) : Prop :=
  xs.length = n ∧ Byt xs ∧ w.ownsRow B e 1 (.slice (some ⟨g, 0, none⟩) n cap) n (xs.map (Value.int .u8))

theorem Row.len {w : World} {a : Option Addr} {n cap : Nat} {xs : List Int} (h : Row w a n cap xs) : xs.length = n := h.1
theorem Row.byt {w : World} {a : Option Addr} {n cap : Nat} {xs : List Int} (h : Row w a n cap xs) : Byt xs := h.2.2.2.1
theorem Row.cap_le {w : World} {a : Option Addr} {n cap : Nat} {xs : List Int} (h : Row w a n cap xs) : n ≤ cap ∧ cap ≤ 9223372036854775807 := ⟨h.2.1, h.2.2.1⟩
theorem Row.nil (w : World) : Row w none 0 0 [] := ⟨rfl, Nat.le_refl _, Nat.zero_le _, Byt.nil, fun _ => ⟨rfl, rfl⟩, fun h => absurd h (by omega), fun _ h => by simp at h⟩

theorem Row.at {w : World} {a : Option Addr} {n cap : Nat} {xs : List Int} (h : Row w a n cap xs) (hn : 0 < n) :
    ∃ b off, a = some ⟨b, off, none⟩ ∧ ∀ i, i < n → w.cell? ⟨b, off + i, none⟩ = some (.int .u8 (xs.getD i 0)) := by
  obtain ⟨_, _, _, _, _, h1, h2⟩ := h
  obtain ⟨b, off, rfl⟩ := h1 hn
  refine ⟨b, off, rfl, fun i hi => ?_⟩
  have := h2 _ rfl i hi
  by_cases h0 : i = 0
  · subst h0; simpa [Addr.add] using this
  · simpa [Addr.add, h0] using this

theorem lt_of_cell {w : World} {x : Addr} {v : Value} (h : w.cell? x = some v) : x.block < w.heap.size := by
  by_cases hl : x.block < w.heap.size
  · exact hl
  · simp [World.cell?, Array.getElem?_eq_none (Nat.le_of_not_lt hl)] at h

theorem Row.below {w w' : World} {a : Option Addr} {n cap : Nat} {xs : List Int} (h : Row w a n cap xs) (hb : Below w.heap.size w w') : Row w' a n cap xs := by
  obtain ⟨h1, h2, h3, h4, h5, h6, h7⟩ := h
  refine ⟨h1, h2, h3, h4, h5, h6, fun x hx i hi => ?_⟩
  have hc := h7 x hx i hi
  rw [hb.cell (lt_of_cell hc)]
  exact hc

theorem Own.row {e : TypeId} {w : World} {B g n cap : Nat} {xs : List Int} (h : Own e w B g n cap xs) : Row w (some ⟨g, 0, none⟩) n cap xs := by
  obtain ⟨h1, h2, h3⟩ := h
  rcases h3.2 with ⟨h, _⟩ | ⟨g', cap', cur, hv, hB, hg, hn, hm, hs, ht⟩
  · simp at h
  · simp only [Value.slice.injEq, Option.some.injEq, Addr.mk.injEq, and_true, true_and] at hv
    obtain ⟨rfl, rfl⟩ := hv
    refine ⟨h1, hn, hm, h2, fun h => by simp at h, fun _ => ⟨_, _, rfl⟩, fun x hx i hi => ?_⟩
    obtain rfl := Option.some.inj hx
    have := h3.cells (g := g) rfl i (.int .u8 (xs.getD i 0)) (by simp [List.getElem?_map, List.getElem?_eq_getElem (show i < xs.length by omega)])
    exact this

theorem Own.cell {e : TypeId} {w : World} {B g n cap : Nat} {xs : List Int} (h : Own e w B g n cap xs) (i : Nat) (hi : i < n) : w.cell? ⟨g, i, none⟩ = some (.int .u8 (xs.getD i 0)) := by
  obtain ⟨b, off, h1, h2⟩ := h.row.at (by omega)
  simp only [Option.some.injEq, Addr.mk.injEq, and_true] at h1
  obtain ⟨rfl, rfl⟩ := h1
  simpa using h2 i hi
theorem Own.lt {e : TypeId} {w : World} {B g n cap : Nat} {xs : List Int} (h : Own e w B g n cap xs) : B ≤ g ∧ g < w.heap.size := h.2.2.lt g rfl

theorem Own.below {e : TypeId} {w w' : World} {B g n cap : Nat} {xs : List Int} (h : Own e w B g n cap xs) (hb : Below w.heap.size w w') : Own e w' B g n cap xs := by
  have hl := h.lt
  obtain ⟨h1, h2, h3, h4⟩ := h
  refine ⟨h1, h2, h3, ?_⟩
  rcases h4 with ⟨h, _⟩ | ⟨g', cap', cur, hv, hB, hg, hn, hm, hs, ht⟩
  · simp at h
  · simp only [Value.slice.injEq, Option.some.injEq, Addr.mk.injEq, and_true, true_and] at hv
    obtain ⟨rfl, rfl⟩ := hv
    exact .inr ⟨g, cap, cur, rfl, hB, (hb.block g hl.2).trans hg, hn, hm, hs, ht⟩

theorem Own.mono {e : TypeId} {w : World} {B B' g n cap : Nat} {xs : List Int} (h : Own e w B g n cap xs) (hB' : B' ≤ B) : Own e w B' g n cap xs := by
  obtain ⟨h1, h2, h3, h4⟩ := h
  refine ⟨h1, h2, h3, ?_⟩
  rcases h4 with ⟨h, _⟩ | ⟨g', cap', cur, hv, hB, r⟩
  · simp at h
  · exact .inr ⟨g', cap', cur, hv, Nat.le_trans hB' hB, r⟩

/-- Out of a row that is known whole. -/
theorem Own.of_block {e : TypeId} {w : World} {B g n cap : Nat} {xs : List Int} {cur : List Value} (hB : B ≤ g) (hg : w.heap[g]? = some (.cells cur.toArray e (0, 0))) (hn : n ≤ cap) (hm : cap ≤ maxLen) (hc : cur.length = cap)
    (hx : xs.length = n) (hb : Byt xs) (ht : cur.take n = xs.map (Value.int .u8)) : Own e w B g n cap xs :=
  ⟨hx, hb, by simp [hx], .inr ⟨g, cap, cur.toArray, rfl, hB, hg, hn, hm, by simp [hc], by simpa using ht⟩⟩

theorem ints_one (xs : List Int) : ∀ u ∈ xs.map (Value.int .u8), u.oneCell' = true := ints_oneCell .u8 xs

theorem Row.news {w : World} {x : Addr} {n cap : Nat} {xs : List Int} (h : Row w (some x) n cap xs) : ∀ j u, (xs.map (Value.int .u8))[j]? = some u → w.cell? (x.add j) = some u := by
  intro j u hj
  obtain ⟨h1, _, _, _, _, _, h7⟩ := h
  have hjl : j < xs.length := by
    by_cases hl : j < xs.length
    · exact hl
    · simp [List.getElem?_eq_none (Nat.le_of_not_lt hl)] at hj
  rw [h7 x rfl j (by omega)]
  simp [List.getElem?_eq_getElem hjl] at hj
  simp [List.getElem?_eq_getElem hjl, hj]

theorem Row.pre {w : World} {a : Option Addr} {n cap : Nat} {xs : List Int} (h : Row w a n cap xs) (m : Nat) (hm : m ≤ n) : Row w a m cap (xs.take m) := by
  obtain ⟨h1, h2, h3, h4, h5, h6, h7⟩ := h
  refine ⟨by simp; omega, by omega, h3, h4.take m, fun ha => ⟨by have := h5 ha; omega, (h5 ha).2⟩, fun hp => h6 (by omega), fun x hx i hi => ?_⟩
  rw [h7 x hx i (by omega)]
  simp [List.getD, hi]
theorem Row.sub {w : World} {b off n cap : Nat} {xs : List Int} (h : Row w (some ⟨b, off, none⟩) n cap xs) (k m : Nat) (hm : k + m ≤ n) : Row w (some ⟨b, off + k, none⟩) m (cap - k) ((xs.drop k).take m) := by
  have h7 := fun i (hi : i < n) => (h.at (by omega)).elim fun b' hb => hb.elim fun off' ho => by
    obtain ⟨ha, hc⟩ := ho
    simp only [Option.some.injEq, Addr.mk.injEq, and_true] at ha
    obtain ⟨rfl, rfl⟩ := ha
    exact hc i hi
  obtain ⟨h1, h2, h3, h4, _, _, _⟩ := h
  refine ⟨by simp; omega, by omega, by omega, (h4.drop k).take m, fun ha => by simp at ha, fun _ => ⟨_, _, rfl⟩, fun x hx i hi => ?_⟩
  obtain rfl := Option.some.inj hx
  have hk : ((⟨b, off + k, none⟩ : Addr).add i) = ⟨b, off + (k + i), none⟩ := by
    by_cases h0 : i = 0
    · subst h0; simp [Addr.add]
    · simp [Addr.add, h0, Nat.add_assoc]
  rw [hk, h7 (k + i) (by omega)]
  simp [List.getD, hi]
theorem Row.none_of (w : World) (x : Addr) (cap : Nat) (hc : cap ≤ 9223372036854775807) : Row w (some x) 0 cap [] :=
  ⟨rfl, Nat.zero_le _, hc, Byt.nil, fun h => by simp at h, fun h => absurd h (by omega), fun _ _ i hi => absurd hi (by omega)⟩

/-- A new block of bytes that are known. -/
theorem own_lit (w : World) (e : TypeId) (xs : List Int) (n : Nat) (hn : xs.length = n) (hm : n ≤ 9223372036854775807) (hb : Byt xs) : Own e (w.alloc (.cells (xs.map (Value.int .u8)).toArray e)) w.heap.size w.heap.size n n xs :=
  Own.of_block (Nat.le_refl _) (heap_alloc_new w _) (Nat.le_refl _) hm (by simp [hn]) hn hb (List.take_of_length_le (by simp [hn]))
theorem row_lit (w : World) (e : TypeId) (xs : List Int) (n : Nat) (hn : xs.length = n) (hm : n ≤ 9223372036854775807) (hb : Byt xs) : Row (w.alloc (.cells (xs.map (Value.int .u8)).toArray e)) (some ⟨w.heap.size, 0, none⟩) n n xs := by
  exact (own_lit w e xs n hn hm hb).row
theorem ext_trans {a b c : World} (h : Below a.heap.size a b) (k : Below b.heap.size b c) : Below a.heap.size a c := h.trans (k.mono h.size)
theorem row_lit_at (w : World) (g : Nat) (hg : w.heap.size = g) (e : TypeId) (xs : List Int) (n : Nat) (hn : xs.length = n) (hm : n ≤ 9223372036854775807) (hb : Byt xs) : Row (w.alloc (.cells (xs.map (Value.int .u8)).toArray e)) (some ⟨g, 0, none⟩) n n xs := by
  subst hg; exact row_lit w e xs n hn hm hb
theorem below_alloc (w : World) (o : Obj) : Below w.heap.size w (w.alloc o) := (Below.refl _ _).alloc (Nat.le_refl _) _

section
variable {P : Program} {ops : Array Oper} {rest : List Oper} {o : Oper} {a : Act} {Q : Exit → Act → World → Prop}

/-- 'append(s, x...)', s a row of the call's own, x whatever bytes: it may grow. -/
theorem wp_append_bytes (w : World) (hgd : o.guard = none) (s x : Operand) (t : TypeId) (ho : o.op = .call { callee := .builtin .append, args := #[s, x], argTypes := #[t, t] })
    (e : TypeId) (ht : P.underlying t = some (.slice e)) (hinfo : (P.info? e).map (fun i => (i.zero, i.size, i.bytes)) = some (some (.int .u8 0), 1, 1))
    (B g n cap : Nat) (ys : List Int) (hs : a.eval s = .slice (some ⟨g, 0, none⟩) n cap) (hown : Own e w B g n cap ys)
    (ao : Option Addr) (m c : Nat) (xs : List Int) (hx : a.eval x = .slice ao m c) (hrow : Row w ao m c xs) (hbd : n + m ≤ 140737488355328) (hB : B ≤ w.heap.size)
    (w0 : World) (hbel : Below B w0 w)
    (h : ∀ g' cap' w', Own e w' B g' (n + m) cap' (ys ++ xs) → Below B w0 w' → wpList P ops Q rest (a.put o.dst (.slice (some ⟨g', 0, none⟩) (n + m) cap')) w') : wpList P ops Q (o :: rest) a w := by
  obtain ⟨i, hi, hz0, hz1, hz2⟩ := info_parts hinfo
  have hbn : ∀ k, (Value.slice (some ⟨g, 0, none⟩) n cap).ownBlock = some k → B ≤ k := by
    intro k hk; obtain rfl : g = k := by simpa [Value.ownBlock] using hk
    exact hown.lt.1
  have fin : ∀ v' w', w'.ownsRow B e 1 v' (n + m) (ys.map (Value.int .u8) ++ xs.map (Value.int .u8)) → w.grownBy w' (Value.slice (some ⟨g, 0, none⟩) n cap).ownBlock → (v' = .slice none 0 0 ↔ Value.slice (some ⟨g, 0, none⟩) n cap = .slice none 0 0 ∧ m = 0) → wpList P ops Q rest (a.put o.dst v') w' := by
    intro v' w' h1 h2 h3
    have hne : v' ≠ .slice none 0 0 := fun hv => by have := h3.1 hv; simp at this
    rcases h1.2 with ⟨hv, _⟩ | ⟨g', cap', cur, hv, r⟩
    · exact absurd hv hne
    · subst hv
      exact h g' cap' w' ⟨by simp [hown.1, hrow.1], hown.2.1.append hrow.byt, by simpa using h1⟩ (hbel.grown h2 hB hbn)
  cases ao with
  | some ad =>
    exact wpList_append_own w hgd s x t ho B e i (.int .u8 0) 1 1 ht hi hz0 hz1 hz2 rfl (by decide) _ n _ hs hown.2.2 ad m c (xs.map (Value.int .u8)) hx (by simp [hrow.1]) hrow.news (ints_one xs) (by unfold maxLen; omega) (by omega) hB fin
  | none =>
    obtain ⟨rfl, rfl⟩ := hrow.2.2.2.2.1 rfl
    have hnil : xs = [] := List.eq_nil_of_length_eq_zero hrow.1
    subst hnil
    exact wpList_plain hgd fun K hK => by
      have hrun := run_append_owned_none (P := P) w B t o.type e i 1 ht hi (.slice (some ⟨g, 0, none⟩) n cap) n (ys.map (Value.int .u8)) hown.2.2
      unfold Oper.wp
      simp [execOp, ho, resolve, invoke, builtin, hs, hx, hrun, Result.andThen]
      exact hK _ _ (by simpa using h g cap w (by simpa using hown) hbel)

/-- 'append(s, x...)' WITHIN THE CAPACITY. -/
theorem wp_append_room_bytes (w : World) (hgd : o.guard = none) (s x : Operand) (t : TypeId) (ho : o.op = .call { callee := .builtin .append, args := #[s, x], argTypes := #[t, t] })
    (e : TypeId) (ht : P.underlying t = some (.slice e)) (hinfo : (P.info? e).map (fun i => (i.zero, i.size, i.bytes)) = some (some (.int .u8 0), 1, 1))
    (B g n cap : Nat) (ys : List Int) (hs : a.eval s = .slice (some ⟨g, 0, none⟩) n cap) (hown : Own e w B g n cap ys)
    (ao : Option Addr) (m c : Nat) (xs : List Int) (hx : a.eval x = .slice ao m c) (hrow : Row w ao m c xs) (hroom : n + m ≤ cap) (hB : B ≤ w.heap.size)
    (w0 : World) (hbel : Below B w0 w)
    (h : ∀ w', Own e w' B g (n + m) cap (ys ++ xs) → Below B w0 w' → wpList P ops Q rest (a.put o.dst (.slice (some ⟨g, 0, none⟩) (n + m) cap)) w') : wpList P ops Q (o :: rest) a w := by
  obtain ⟨i, hi, hz0, hz1, hz2⟩ := info_parts hinfo
  refine wpList_append_fits_any w hgd s x t ho B e i 1 ht hi hz1 g n cap (ys.map (Value.int .u8)) hs hown.2.2 ao m c (xs.map (Value.int .u8)) hx (by simp [hrow.1]) hrow.2.2.2.2.1 (fun ad had => by subst had; exact hrow.news) (ints_one xs) hroom ?_
  intro w' h1 h2
  exact h w' ⟨by simp [hown.1, hrow.1], hown.2.1.append hrow.byt, by simpa using h1⟩ (hbel.grown h2 hB (fun k hk => by have hgk : g = k := Option.some.inj hk; rw [← hgk]; exact hown.lt.1))

/-- 'make([]byte, l, c)': noughts. -/
theorem wp_make_bytes (w : World) (hgd : o.guard = none) (l c : Operand) (t : TypeId) (ho : o.op = Op.makeSlice t l c)
    (e : TypeId) (ht : P.underlying t = some (.slice e)) (hinfo : (P.info? e).map (fun i => (i.zero, i.size, i.bytes)) = some (some (.int .u8 0), 1, 1))
    (L C : Int) (ln cn : Nat) (hl : a.eval l = .int .i64 L) (hc : a.eval c = .int .i64 C) (hL : L = (ln : Int)) (hC : C = (cn : Int)) (hle : ln ≤ cn) (hbd : cn ≤ 281474976710656)
    (B : Nat) (hB : B ≤ w.heap.size) (w0 : World) (hbel : Below B w0 w)
    (h : ∀ w', Hid (w'.heap[w.heap.size]? = some (.cells (List.replicate cn (Value.int .u8 0)).toArray e (0, 0))) → Below B w0 w' → w'.heap.size = w.heap.size + 1 → wpList P ops Q rest (a.put o.dst (.slice (some ⟨w.heap.size, 0, none⟩) ln cn)) w') : wpList P ops Q (o :: rest) a w := by
  obtain ⟨i, hi, hz0, hz1, hz2⟩ := info_parts hinfo
  subst hL hC
  refine wpList_plain hgd fun K hK => ?_
  have hrun := run_make (P := P) w t e i (.int .u8 0) ht hi hz0 .i64 .i64 ln cn (by omega) (by omega) (by rw [hz2]; omega) (by omega)
  unfold Oper.wp
  simp [execOp, ho, hl, hc, hrun, Result.andThen]
  refine hK _ _ (h _ ?_ (hbel.alloc hB _) (by simp))
  show _ = _
  have hx := heap_alloc_new w (.cells (madeCells #[Value.int .u8 0] cn) e)
  have hy : (madeCells #[Value.int .u8 0] cn) = (List.replicate cn (Value.int .u8 0)).toArray := by
    have := toList_madeCells_one (Value.int .u8 0) cn
    rw [← this]
  have hz : (Value.int .u8 0).cells = #[Value.int .u8 0] := rfl
  rw [hz1, Nat.mul_one, hz, hy]
  rw [hy] at hx
  simpa using hx

/-- 'copy(d, s)': d a row that is known whole, at its head, at least as long as s. -/
theorem wp_copy_bytes (w : World) (hgd : o.guard = none) (d s : Operand) (t : TypeId) (ho : o.op = .call { callee := .builtin .copy, args := #[d, s], argTypes := #[t, t] })
    (e : TypeId) (ht : P.underlying t = some (.slice e)) (hinfo : (P.info? e).map (fun i => (i.zero, i.size, i.bytes)) = some (some (.int .u8 0), 1, 1))
    (g ln cn : Nat) (hd : a.eval d = .slice (some ⟨g, 0, none⟩) ln cn) (ao : Option Addr) (m c : Nat) (xs : List Int) (hs : a.eval s = .slice ao m c) (hrow : Row w ao m c xs) (hm : m ≤ ln) (hlc : ln ≤ cn)
    (cur : List Value) (hcur : cur.length = cn) (hg : w.heap[g]? = some (.cells cur.toArray e (0, 0)))
    (B : Nat) (hBg : B ≤ g) (w0 : World) (hbel : Below B w0 w)
    (h : ∀ w', Hid (w'.heap[g]? = some (.cells (xs.map (Value.int .u8) ++ cur.drop m).toArray e (0, 0))) → Below B w0 w' → wpList P ops Q rest (a.put o.dst (goInt m)) w') : wpList P ops Q (o :: rest) a w := by
  obtain ⟨i, hi, hz0, hz1, hz2⟩ := info_parts hinfo
  have hlen : (xs.map (Value.int .u8)).length = m := by simp [hrow.1]
  refine wpList_copy_splice hgd d s t t ho e ht (by rw [hi]; simp [hz1]) _ _ ln cn m c hd hs g 0 cur e hg (xs.map (Value.int .u8)) (by rw [hlen]; exact (Nat.min_eq_left hm).symm) (fun hp => ⟨rfl, ?_⟩) (by rw [hlen, hcur]; omega) (ints_one xs) B w0 hbel hBg ?_
  · obtain ⟨b, off, rfl, _⟩ := hrow.at (by omega)
    exact ⟨_, rfl, hrow.news⟩
  · intro w' h1 h2
    rw [hlen]
    refine h w' ?_ h2
    have h1' := h1.out
    show _ = _
    rw [h1']
    simp [splice, hrow.1]

/-- 'string(b)'. -/
theorem run_str (w : World) (src dst e : TypeId) (hs : P.underlying src = some (.slice e)) (he : P.underlying e = some (.int .u8)) (hd : P.underlying dst = some .string) (ao : Option Addr) (n cap : Nat) (xs : List Int) (hrow : Row w ao n cap xs) :
    (convert src dst (.slice ao n cap)).run P w = .ok (.string (strOfNums xs)) w := by
  by_cases hn : 0 < n
  · obtain ⟨b, off, rfl, hc⟩ := hrow.at hn
    exact run_convert_bytes_arg w src e hs he b off n cap xs hrow.1 hc dst hd
  · obtain rfl : n = 0 := by omega
    have hnil : xs = [] := List.eq_nil_of_length_eq_zero hrow.1
    subst hnil
    rw [run_convert_bytes_string w src dst e ao 0 cap hs he hd]
    have hz : strOfNums [] = ByteArray.empty := rfl
    rw [hz]
    cases ao <;> simp [Conv.bytesToString, loadCells, loadCellsFrom]
end
end Go.Proofs.Ytkmpmljohjelhaa

namespace Go.Proofs.Ytkmpmljohjelhaa
open Go.RowKit
set_option maxRecDepth 100000

/-- The number that bytes say, the highest first. -/
def num (xs : List Int) : Int := xs.foldl (fun v b => v * 256 + b) 0
/-- The m lowest bytes of v, the highest first. -/
def putB (v : Int) : Nat → List Int
  | 0 => []
  | m + 1 => v / 256 ^ m % 256 :: putB v m
def takeE (xs : List Int) (n : Int) : Int := if n < 0 ∨ 8 < n then 1 else if (xs.length : Int) < n then 3 else 0
def takeV (xs : List Int) (n : Int) : Int := if n < 0 ∨ 8 < n ∨ (xs.length : Int) < n then 0 else num (xs.take n.toNat)
/-- How many bytes Put puts. -/
def wid (n : Int) : Nat := if n < 0 ∨ 8 < n then 0 else n.toNat

theorem putB_len (v : Int) (m : Nat) : (putB v m).length = m := by
  induction m with
  | zero => rfl
  | succ m ih => simp [putB, ih]
theorem putB_byt (v : Int) (m : Nat) : Byt (putB v m) := by
  induction m with
  | zero => exact Byt.nil
  | succ m ih =>
    intro x hx
    simp only [putB, List.mem_cons] at hx
    rcases hx with rfl | hx
    · omega
    · exact ih x hx
theorem byte_shr (v : Int) (k : Nat) : v / 2 ^ (8 * (k + 1) - 8) % 256 = v / 256 ^ k % 256 := by
  rw [show 8 * (k + 1) - 8 = 8 * k by omega, Int.pow_mul]; rfl
theorem wid_le (n : Int) : wid n ≤ 8 := by unfold wid; split <;> omega

theorem pow_le (k : Nat) (h : k ≤ 7) : (256 : Int) ^ k ≤ 72057594037927936 := by
  match k, h with
  | 0, _ => decide
  | 1, _ => decide
  | 2, _ => decide
  | 3, _ => decide
  | 4, _ => decide
  | 5, _ => decide
  | 6, _ => decide
  | 7, _ => decide
theorem step_or (v b : Int) (hv : 0 ≤ v) (hv' : v < 72057594037927936) (hb : 0 ≤ b ∧ b < 256) : bits .or .u64 (IntKind.u64.wrap (v * 256)) (IntKind.u64.wrap b) = v * 256 + b := by
  obtain ⟨x, rfl⟩ := Int.eq_ofNat_of_zero_le hv
  obtain ⟨y, rfl⟩ := Int.eq_ofNat_of_zero_le hb.1
  rw [IntKind.wrap_u64, IntKind.wrap_u64]
  rw [Int.emod_eq_of_lt (by omega) (by omega), Int.emod_eq_of_lt (by omega) (by omega)]
  have := u64_or_nat (x * 256) y (by omega) (by omega)
  rw [Int.natCast_mul] at this
  rw [show ((256 : Nat) : Int) = 256 from rfl] at this
  rw [this, nat_join 8 (x * 256) y (by omega) (by omega)]
  omega
theorem num_snoc (xs : List Int) (b : Int) : num (xs ++ [b]) = num xs * 256 + b := by simp [num]
theorem num_bd (xs : List Int) (hb : Byt xs) : 0 ≤ num xs ∧ num xs < 256 ^ xs.length := by
  suffices h : ∀ (ys : List Int), (∀ x ∈ ys, 0 ≤ x ∧ x < 256) → 0 ≤ num ys.reverse ∧ num ys.reverse < 256 ^ ys.length by
    have := h xs.reverse (fun x hx => hb x (by simpa using hx))
    simpa using this
  intro ys
  induction ys with
  | nil => intro _; simp [num]
  | cons y ys ih =>
    intro h
    have h1 := ih (fun x hx => h x (by simp [hx]))
    have h2 := h y (by simp)
    rw [List.reverse_cons, num_snoc, List.length_cons, Int.pow_succ]
    omega
theorem num_take (xs : List Int) (hb : Byt xs) (k : Nat) (hk : k < xs.length) (h7 : k ≤ 7) :
    bits .or .u64 (IntKind.u64.wrap (num (xs.take k) * 256)) (IntKind.u64.wrap xs[k]) = num (xs.take (k + 1)) := by
  have h1 := num_bd (xs.take k) (hb.take k)
  have h2 := pow_le k h7
  rw [List.length_take, Nat.min_eq_left (by omega)] at h1
  rw [step_or _ _ h1.1 (by omega) (hb _ (List.getElem_mem hk)), List.take_succ_eq_append_getElem hk, num_snoc]
theorem mod_split (a : Int) (m : Nat) : a % 256 ^ (m + 1) = a / 256 ^ m % 256 * 256 ^ m + a % 256 ^ m := by
  have hp : (0 : Int) < 256 ^ m := Int.pow_pos (by decide)
  rw [Int.pow_succ]
  generalize (256 : Int) ^ m = t at *
  have h1 := Int.mul_ediv_add_emod a t
  have h2 := Int.mul_ediv_add_emod (a / t) 256
  have h3 := Int.emod_nonneg a (show t ≠ 0 by omega)
  have h4 := Int.emod_lt_of_pos a hp
  have h5 : 0 ≤ a / t % 256 ∧ a / t % 256 ≤ 255 := by omega
  have e : a = (a / t % 256 * t + a % t) + t * 256 * (a / t / 256) := by
    have h6 : t * (a / t) = t * (256 * (a / t / 256) + a / t % 256) := by rw [h2]
    rw [Int.mul_add, ← Int.mul_assoc, Int.mul_comm t (a / t % 256)] at h6
    omega
  have h7 : a / t % 256 * t ≤ 255 * t := Int.mul_le_mul_of_nonneg_right h5.2 (by omega)
  have h8 : 0 ≤ a / t % 256 * t := Int.mul_nonneg h5.1 (by omega)
  have h9 : ((a / t % 256 * t + a % t) + t * 256 * (a / t / 256)) % (t * 256) = (a / t % 256 * t + a % t) := by
    rw [Int.add_mul_emod_self_left, Int.emod_eq_of_lt (by omega) (by omega)]
  rw [← e] at h9
  exact h9
theorem lex (a b : Int) : ∀ (m k : Nat), k < m → (∀ j, j < k → (putB a m).getD j 0 = (putB b m).getD j 0) → (putB a m).getD k 0 ≠ (putB b m).getD k 0 →
    ((putB a m).getD k 0 < (putB b m).getD k 0 ↔ a % 256 ^ m < b % 256 ^ m) := by
  intro m
  induction m with
  | zero => intro k hk; omega
  | succ m ih =>
    intro k hk hj hne
    have hp : (0 : Int) < 256 ^ m := Int.pow_pos (by decide)
    have ha := Int.emod_nonneg a (show (256 : Int) ^ m ≠ 0 by omega)
    have hb := Int.emod_nonneg b (show (256 : Int) ^ m ≠ 0 by omega)
    have ha' := Int.emod_lt_of_pos a hp
    have hb' := Int.emod_lt_of_pos b hp
    rw [mod_split a m, mod_split b m]
    cases k with
    | zero =>
      simp only [putB, List.getD_cons_zero] at hne ⊢
      generalize a / 256 ^ m % 256 = p at *
      generalize b / 256 ^ m % 256 = q at *
      generalize a % 256 ^ m = r at *
      generalize b % 256 ^ m = s at *
      generalize (256 : Int) ^ m = t at *
      constructor
      · intro h
        have : (p + 1) * t ≤ q * t := Int.mul_le_mul_of_nonneg_right (by omega) (by omega)
        rw [Int.add_mul] at this
        omega
      · intro h
        apply Classical.byContradiction
        intro hc
        have : (q + 1) * t ≤ p * t := Int.mul_le_mul_of_nonneg_right (by omega) (by omega)
        rw [Int.add_mul] at this
        omega
    | succ k =>
      have h0 := hj 0 (by omega)
      simp only [putB, List.getD_cons_zero] at h0
      simp only [putB, List.getD_cons_succ] at hne ⊢
      rw [ih k (by omega) (fun j hj' => by have := hj (j + 1) (by omega); simpa only [putB, List.getD_cons_succ] using this) hne, h0]
      omega
theorem alike (a b : Int) : ∀ (m : Nat), (∀ j, j < m → (putB a m).getD j 0 = (putB b m).getD j 0) → a % 256 ^ m = b % 256 ^ m := by
  intro m
  induction m with
  | zero => intro _; simp [Int.emod_one]
  | succ m ih =>
    intro hj
    have h0 := hj 0 (by omega)
    simp only [putB, List.getD_cons_zero] at h0
    rw [mod_split a m, mod_split b m, h0, ih (fun j hj' => by have := hj (j + 1) (by omega); simpa only [putB, List.getD_cons_succ] using this)]
theorem mod8 (a : Int) (h : 0 ≤ a ∧ a < 18446744073709551616) : a % 256 ^ 8 = a := by
  rw [show (256 : Int) ^ 8 = 18446744073709551616 by decide]; omega

theorem num_append (xs ys : List Int) : num (xs ++ ys) = num xs * 256 ^ ys.length + num ys := by
  suffices h : ∀ (zs : List Int), num (xs ++ zs.reverse) = num xs * 256 ^ zs.length + num zs.reverse by
    simpa using h ys.reverse
  intro zs
  induction zs with
  | nil => simp [num]
  | cons z zs ih =>
    rw [List.reverse_cons, ← List.append_assoc, num_snoc, ih, num_snoc, List.length_cons, Int.pow_succ, Int.add_mul, Int.mul_assoc]
    omega
theorem num_putB (v : Int) (m : Nat) : num (putB v m) = v % 256 ^ m := by
  induction m with
  | zero => simp [putB, num, Int.emod_one]
  | succ m ih =>
    have h := num_append [v / 256 ^ m % 256] (putB v m)
    rw [putB_len, ih] at h
    rw [putB, mod_split, ← List.singleton_append, h]
    simp [num]
theorem tmod_bd (k n : Int) (hn : 1 ≤ n) : -n < k.tmod n ∧ k.tmod n < n := by
  have h := Int.natAbs_tmod k n
  have h2 := Nat.mod_lt k.natAbs (show 0 < n.natAbs by omega)
  omega

theorem putB_split (v : Int) (a b : Nat) : putB v (a + b) = putB (v / 256 ^ b) a ++ putB v b := by
  induction a with
  | zero => simp [putB]
  | succ a ih =>
    rw [show a + 1 + b = (a + b) + 1 by omega]
    simp only [putB, List.cons_append, ih]
    rw [Int.ediv_ediv_of_nonneg (by exact Int.pow_nonneg (by decide)), ← Int.pow_add, Nat.add_comm b a]
/-- A loop by goto: the pass from the label on is walked once. -/
theorem jump_mono {l : Nat} {J J' : Act → World → Prop} {Q : Exit → Act → World → Prop} (h : ∀ a w, J' a w → J a w) (e : Exit) (a : Act) (w : World) (hq : Exit.jump l J' Q e a w) : Exit.jump l J Q e a w := by
  cases e <;> first | exact hq | exact ⟨hq.1, h _ _ hq.2⟩
theorem wp_scope_once {P : Program} {a : Act} {w : World} {Q : Exit → Act → World → Prop} {c rest : Code} (l : Nat) (J : Act → World → Prop) (μ : Act → World → Nat) (hf : findLabel c l = some (Code.skip.seq rest))
    (pass : ∀ a w, J a w → rest.wp P (Exit.jump l (fun a' w' => J a' w' ∧ μ a' w' < μ a w) Q) a w)
    (first : Hid (∀ a w, J a w → rest.wp P (Exit.jump l J Q) a w) → c.wp P (Exit.jump l J Q) a w) : (Code.scope c).wp P Q a w :=
  wp_scope_jumps l J μ hf (first (fun a w h => Code.wp_mono (jump_mono (fun _ _ h => h.1)) (pass a w h))) (fun a w h => wp_seq (wp_skip (pass a w h)))
end Go.Proofs.Ytkmpmljohjelhaa

namespace Go.Proofs.Ytkmpmljohjelhaa
open Go.RowKit
set_option maxRecDepth 100000

/-- All are 16-bit numbers. -/
def Wrd (xs : List Int) : Prop := ∀ x ∈ xs, 0 ≤ x ∧ x < 65536
theorem Wrd.nil : Wrd [] := fun _ h => by simp at h
theorem wrd_of (xs : List Int) (h : xs.all (fun x => decide (0 ≤ x) && decide (x < 65536)) = true) : Wrd xs := by
  intro x hx
  have := List.all_eq_true.1 h x hx
  simpa using this
theorem Wrd.append {xs ys : List Int} (h : Wrd xs) (k : Wrd ys) : Wrd (xs ++ ys) := fun x hx => (List.mem_append.1 hx).elim (h x) (k x)
theorem Wrd.one {x : Int} (h : 0 ≤ x ∧ x < 65536) : Wrd [x] := fun y hy => by simp at hy; subst hy; exact h
theorem Wrd.take {xs : List Int} (h : Wrd xs) (k : Nat) : Wrd (xs.take k) := fun x hx => h x (List.mem_of_mem_take hx)
theorem Wrd.drop {xs : List Int} (h : Wrd xs) (k : Nat) : Wrd (xs.drop k) := fun x hx => h x (List.mem_of_mem_drop hx)
theorem Wrd.get {xs : List Int} (h : Wrd xs) (i : Nat) : 0 ≤ xs.getD i 0 ∧ xs.getD i 0 < 65536 := by
  by_cases hi : i < xs.length
  · rw [List.getD_eq_getElem?_getD, List.getElem?_eq_getElem hi]; exact h _ (List.getElem_mem hi)
  · rw [List.getD_eq_getElem?_getD, List.getElem?_eq_none (by omega)]; simp
theorem Wrd.set {xs : List Int} (h : Wrd xs) (i : Nat) (v : Int) (hv : 0 ≤ v ∧ v < 65536) : Wrd (xs.set i v) := fun x hx => (List.mem_or_eq_of_mem_set hx).elim (h x) (fun e => e ▸ hv)

/-- The slice at a, of n elements, reads as the numbers xs. -/
def RowW (w : World) (a : Option Addr) (n cap : Nat) (xs : List Int) : Prop :=
  xs.length = n ∧ n ≤ cap ∧ cap ≤ maxLen ∧ Wrd xs ∧ (a = none → n = 0 ∧ cap = 0) ∧ (0 < n → ∃ b off, a = some ⟨b, off, none⟩) ∧ ∀ x, a = some x → ∀ i, i < n → w.cell? (x.add i) = some (.int .u16 (xs.getD i 0))

/-- A slice that is nil, or at the head of a row of the call's own (blocks from B on), whose elements are the numbers xs. -/
def OwnW (e : TypeId) (w : World) (B : Nat) (a : Option Addr) (n cap : Nat) (xs : List Int) : Prop :=
  xs.length = n ∧ Wrd xs ∧ w.ownsRow B e 1 (.slice a n cap) n (xs.map (Value.int .u16))

theorem RowW.len {w : World} {a : Option Addr} {n cap : Nat} {xs : List Int} (h : RowW w a n cap xs) : xs.length = n := h.1
theorem RowW.wrd {w : World} {a : Option Addr} {n cap : Nat} {xs : List Int} (h : RowW w a n cap xs) : Wrd xs := h.2.2.2.1
theorem RowW.cap_le {w : World} {a : Option Addr} {n cap : Nat} {xs : List Int} (h : RowW w a n cap xs) : n ≤ cap ∧ cap ≤ 9223372036854775807 := ⟨h.2.1, h.2.2.1⟩
theorem RowW.nil (w : World) : RowW w none 0 0 [] := ⟨rfl, Nat.le_refl _, Nat.zero_le _, Wrd.nil, fun _ => ⟨rfl, rfl⟩, fun h => absurd h (by omega), fun _ h => by simp at h⟩
theorem RowW.none_of (w : World) (x : Addr) (cap : Nat) (hc : cap ≤ 9223372036854775807) : RowW w (some x) 0 cap [] :=
  ⟨rfl, Nat.zero_le _, hc, Wrd.nil, fun h => by simp at h, fun h => absurd h (by omega), fun _ _ i hi => absurd hi (by omega)⟩
theorem RowW.empty {w : World} {a : Option Addr} {n cap : Nat} {xs : List Int} (h : RowW w a n cap xs) (h0 : n = 0) : xs = [] := List.eq_nil_of_length_eq_zero (h.1.trans h0)

theorem RowW.at {w : World} {a : Option Addr} {n cap : Nat} {xs : List Int} (h : RowW w a n cap xs) (hn : 0 < n) :
    ∃ b off, a = some ⟨b, off, none⟩ ∧ ∀ i, i < n → w.cell? ⟨b, off + i, none⟩ = some (.int .u16 (xs.getD i 0)) := by
  obtain ⟨_, _, _, _, _, h1, h2⟩ := h
  obtain ⟨b, off, rfl⟩ := h1 hn
  refine ⟨b, off, rfl, fun i hi => ?_⟩
  have := h2 _ rfl i hi
  by_cases h0 : i = 0
  · subst h0; simpa [Addr.add] using this
  · simpa [Addr.add, h0] using this
theorem RowW.cells {w : World} {b off n cap : Nat} {xs : List Int} (h : RowW w (some ⟨b, off, none⟩) n cap xs) (i : Nat) (hi : i < n) : w.cell? ⟨b, off + i, none⟩ = some (.int .u16 (xs.getD i 0)) := by
  obtain ⟨b', off', ha, hc⟩ := h.at (by omega)
  simp only [Option.some.injEq, Addr.mk.injEq, and_true] at ha
  obtain ⟨rfl, rfl⟩ := ha
  exact hc i hi

theorem RowW.below {w w' : World} {a : Option Addr} {n cap : Nat} {xs : List Int} (h : RowW w a n cap xs) (hb : Below w.heap.size w w') : RowW w' a n cap xs := by
  obtain ⟨h1, h2, h3, h4, h5, h6, h7⟩ := h
  refine ⟨h1, h2, h3, h4, h5, h6, fun x hx i hi => ?_⟩
  have hc := h7 x hx i hi
  rw [hb.cell (lt_of_cell hc)]
  exact hc

theorem OwnW.cases {e : TypeId} {w : World} {B n cap : Nat} {a : Option Addr} {xs : List Int} (h : OwnW e w B a n cap xs) :
    (a = none ∧ n = 0 ∧ cap = 0 ∧ xs = []) ∨ ∃ (g : Nat) (cur : Array Value), a = some ⟨g, 0, none⟩ ∧ B ≤ g ∧ w.heap[g]? = some (.cells cur e (0, 0)) ∧ n ≤ cap ∧ cap ≤ maxLen ∧ cur.size = cap ∧ cur.toList.take n = xs.map (Value.int .u16) := by
  obtain ⟨h1, h2, h3⟩ := h
  rcases h3.2 with ⟨h, h0⟩ | ⟨g, cap', cur, hv, hB, hg, hn, hm, hs, ht⟩
  · simp only [Value.slice.injEq] at h
    obtain ⟨rfl, _, rfl⟩ := h
    exact .inl ⟨rfl, h0, rfl, List.eq_nil_of_length_eq_zero (by omega)⟩
  · simp only [Value.slice.injEq] at hv
    obtain ⟨rfl, _, rfl⟩ := hv
    exact .inr ⟨g, cur, rfl, hB, hg, hn, hm, by simpa using hs, by simpa using ht⟩
theorem OwnW.of_nil (e : TypeId) (w : World) (B : Nat) : OwnW e w B none 0 0 [] := ⟨rfl, Wrd.nil, by simp, .inl ⟨rfl, rfl⟩⟩
theorem OwnW.of_cells {e : TypeId} {w : World} {B g n cap : Nat} {xs : List Int} {cur : Array Value} (hB : B ≤ g) (hg : w.heap[g]? = some (.cells cur e (0, 0))) (hn : n ≤ cap) (hm : cap ≤ maxLen) (hc : cur.size = cap)
    (hx : xs.length = n) (hb : Wrd xs) (ht : cur.toList.take n = xs.map (Value.int .u16)) : OwnW e w B (some ⟨g, 0, none⟩) n cap xs :=
  ⟨hx, hb, by simp [hx], .inr ⟨g, cap, cur, rfl, hB, hg, hn, hm, by simp [hc], by simpa using ht⟩⟩

theorem OwnW.row {e : TypeId} {w : World} {B n cap : Nat} {a : Option Addr} {xs : List Int} (h : OwnW e w B a n cap xs) : RowW w a n cap xs := by
  have hc := h.cases
  obtain ⟨h1, h2, h3⟩ := h
  rcases hc with ⟨rfl, rfl, rfl, rfl⟩ | ⟨g, cur, rfl, hB, hg, hn, hm, hs, ht⟩
  · exact RowW.nil w
  · refine ⟨h1, hn, hm, h2, fun h => by simp at h, fun _ => ⟨_, _, rfl⟩, fun x hx i hi => ?_⟩
    obtain rfl := Option.some.inj hx
    exact h3.cells (g := g) rfl i (.int .u16 (xs.getD i 0)) (by simp [List.getElem?_map, List.getElem?_eq_getElem (show i < xs.length by omega)])
theorem OwnW.lt {e : TypeId} {w : World} {B g off n cap : Nat} {xs : List Int} (h : OwnW e w B (some ⟨g, off, none⟩) n cap xs) : B ≤ g ∧ g < w.heap.size := by
  rcases h.cases with ⟨h, _⟩ | ⟨g', cur, hv, hB, hg, _⟩
  · simp at h
  · simp only [Option.some.injEq, Addr.mk.injEq, and_true] at hv
    obtain ⟨rfl, _⟩ := hv
    exact ⟨hB, (Array.getElem?_eq_some_iff.1 hg).1⟩

theorem OwnW.below {e : TypeId} {w w' : World} {B n cap : Nat} {a : Option Addr} {xs : List Int} (h : OwnW e w B a n cap xs) (hb : Below w.heap.size w w') : OwnW e w' B a n cap xs := by
  rcases h.cases with ⟨rfl, rfl, rfl, rfl⟩ | ⟨g, cur, rfl, hB, hg, hn, hm, hs, ht⟩
  · exact OwnW.of_nil _ _ _
  · exact OwnW.of_cells hB ((hb.block g (Array.getElem?_eq_some_iff.1 hg).1).trans hg) hn hm hs h.1 h.2.1 ht
theorem OwnW.mono {e : TypeId} {w : World} {B B' n cap : Nat} {a : Option Addr} {xs : List Int} (h : OwnW e w B a n cap xs) (hB' : B' ≤ B) : OwnW e w B' a n cap xs := by
  rcases h.cases with ⟨rfl, rfl, rfl, rfl⟩ | ⟨g, cur, rfl, hB, hg, hn, hm, hs, ht⟩
  · exact OwnW.of_nil _ _ _
  · exact OwnW.of_cells (Nat.le_trans hB' hB) hg hn hm hs h.1 h.2.1 ht
/-- The first m of a row of the call's own: one such. -/
theorem OwnW.pre {e : TypeId} {w : World} {B n cap : Nat} {a : Option Addr} {xs : List Int} (h : OwnW e w B a n cap xs) (m : Nat) (hm' : m ≤ n) : OwnW e w B a m cap (xs.take m) := by
  have hlen := h.1
  rcases h.cases with ⟨rfl, rfl, rfl, rfl⟩ | ⟨g, cur, rfl, hB, hg, hn, hm, hs, ht⟩
  · obtain rfl : m = 0 := by omega
    exact OwnW.of_nil _ _ _
  · refine OwnW.of_cells hB hg (by omega) hm hs (by simp; omega) (h.2.1.take m) ?_
    rw [List.map_take, ← ht, List.take_take, Nat.min_eq_left hm']

theorem words_one (xs : List Int) : ∀ u ∈ xs.map (Value.int .u16), u.oneCell' = true := ints_oneCell .u16 xs

theorem RowW.news {w : World} {x : Addr} {n cap : Nat} {xs : List Int} (h : RowW w (some x) n cap xs) : ∀ j u, (xs.map (Value.int .u16))[j]? = some u → w.cell? (x.add j) = some u := by
  intro j u hj
  obtain ⟨h1, _, _, _, _, _, h7⟩ := h
  have hjl : j < xs.length := by
    by_cases hl : j < xs.length
    · exact hl
    · simp [List.getElem?_eq_none (Nat.le_of_not_lt hl)] at hj
  rw [h7 x rfl j (by omega)]
  simp [List.getElem?_eq_getElem hjl] at hj
  simp [List.getElem?_eq_getElem hjl, hj]

theorem RowW.pre {w : World} {a : Option Addr} {n cap : Nat} {xs : List Int} (h : RowW w a n cap xs) (m : Nat) (hm : m ≤ n) : RowW w a m cap (xs.take m) := by
  obtain ⟨h1, h2, h3, h4, h5, h6, h7⟩ := h
  refine ⟨by simp; omega, by omega, h3, h4.take m, fun ha => ⟨by have := h5 ha; omega, (h5 ha).2⟩, fun hp => h6 (by omega), fun x hx i hi => ?_⟩
  rw [h7 x hx i (by omega)]
  simp [List.getD, hi]
theorem RowW.sub {w : World} {b off n cap : Nat} {xs : List Int} (h : RowW w (some ⟨b, off, none⟩) n cap xs) (k m : Nat) (hm : k + m ≤ n) : RowW w (some ⟨b, off + k, none⟩) m (cap - k) ((xs.drop k).take m) := by
  have h7 := fun i (hi : i < n) => h.cells i hi
  obtain ⟨h1, h2, h3, h4, _, _, _⟩ := h
  refine ⟨by simp; omega, by omega, by omega, (h4.drop k).take m, fun ha => by simp at ha, fun _ => ⟨_, _, rfl⟩, fun x hx i hi => ?_⟩
  obtain rfl := Option.some.inj hx
  have hk : ((⟨b, off + k, none⟩ : Addr).add i) = ⟨b, off + (k + i), none⟩ := by
    by_cases h0 : i = 0
    · subst h0; simp [Addr.add]
    · simp [Addr.add, h0, Nat.add_assoc]
  rw [hk, h7 (k + i) (by omega)]
  simp [List.getD, hi]
theorem RowW.tail {w : World} {b off n cap : Nat} {xs : List Int} (h : RowW w (some ⟨b, off, none⟩) n cap xs) (k : Nat) (hk : k ≤ n) : RowW w (some ⟨b, off + k, none⟩) (n - k) (cap - k) (xs.drop k) := by
  have h1 := h.sub k (n - k) (by omega)
  rwa [List.take_of_length_le (by simp [h.len])] at h1

/-- A new block of numbers that are known. -/
theorem ownw_lit (w : World) (e : TypeId) (xs : List Int) (n : Nat) (hn : xs.length = n) (hm : n ≤ 9223372036854775807) (hb : Wrd xs) : OwnW e (w.alloc (.cells (xs.map (Value.int .u16)).toArray e)) w.heap.size (some ⟨w.heap.size, 0, none⟩) n n xs :=
  OwnW.of_cells (Nat.le_refl _) (heap_alloc_new w _) (Nat.le_refl _) hm (by simp [hn]) hn hb (List.take_of_length_le (by simp [hn]))
theorem roww_lit (w : World) (e : TypeId) (xs : List Int) (n : Nat) (hn : xs.length = n) (hm : n ≤ 9223372036854775807) (hb : Wrd xs) : RowW (w.alloc (.cells (xs.map (Value.int .u16)).toArray e)) (some ⟨w.heap.size, 0, none⟩) n n xs :=
  (ownw_lit w e xs n hn hm hb).row

section
variable {P : Program} {ops : Array Oper} {rest : List Oper} {o : Oper} {a : Act} {Q : Exit → Act → World → Prop}

/-- 'append(s, x...)', s nil or a row of the call's own, x whatever numbers: it may grow. -/
theorem op_append_words_g {K : Act → World → Prop} (w : World) (s x : Operand) (t : TypeId) (ho : o.op = .call { callee := .builtin .append, args := #[s, x], argTypes := #[t, t] })
    (e : TypeId) (ht : P.underlying t = some (.slice e)) (hinfo : (P.info? e).map (fun i => (i.zero, i.size, i.bytes)) = some (some (.int .u16 0), 1, 2))
    (B n cap : Nat) (so : Option Addr) (ys : List Int) (hs : a.eval s = .slice so n cap) (hown : OwnW e w B so n cap ys)
    (ao : Option Addr) (m c : Nat) (xs : List Int) (hx : a.eval x = .slice ao m c) (hrow : RowW w ao m c xs) (hbd : n + m ≤ 70368744177664) (hB : B ≤ w.heap.size)
    (w0 : World) (hbel : Below B w0 w)
    (h : ∀ so' cap' w', OwnW e w' B so' (n + m) cap' (ys ++ xs) → Below B w0 w' → w.grownBy w' (Value.slice so n cap).ownBlock → K (a.put o.dst (.slice so' (n + m) cap')) w') : Oper.wp P o a w K Q := by
  obtain ⟨i, hi, hz0, hz1, hz2⟩ := info_parts hinfo
  have hbn : ∀ k, (Value.slice so n cap).ownBlock = some k → B ≤ k := by
    intro k hk
    rcases hown.cases with ⟨rfl, _⟩ | ⟨g, cur, rfl, hBg, _⟩
    · simp [Value.ownBlock] at hk
    · obtain rfl : g = k := by simpa [Value.ownBlock] using hk
      exact hBg
  have fin : ∀ v' w', w'.ownsRow B e 1 v' (n + m) (ys.map (Value.int .u16) ++ xs.map (Value.int .u16)) → w.grownBy w' (Value.slice so n cap).ownBlock → (v' = .slice none 0 0 ↔ Value.slice so n cap = .slice none 0 0 ∧ m = 0) → K (a.put o.dst v') w' := by
    intro v' w' h1 h2 _
    have hl : (ys ++ xs).length = n + m := by simp [hown.1, hrow.1]
    have h1' : w'.ownsRow B e 1 v' (n + m) ((ys ++ xs).map (Value.int .u16)) := by simpa using h1
    rcases h1'.2 with ⟨hv, h0⟩ | ⟨g', cap', cur, hv, r⟩
    · subst hv
      have hn0 : n + m = 0 := h0
      have := h none 0 w' ⟨hl, hown.2.1.append hrow.wrd, by rw [hn0] at h1' ⊢; exact h1'⟩ (hbel.grown h2 hB hbn) h2
      rw [hn0] at this
      exact this
    · subst hv
      exact h _ cap' w' ⟨hl, hown.2.1.append hrow.wrd, h1'⟩ (hbel.grown h2 hB hbn) h2
  cases ao with
  | some ad =>
    exact wp_append_own w s x t ho B e i (.int .u16 0) 1 2 ht hi hz0 hz1 hz2 rfl (by decide) _ n _ hs hown.2.2 ad m c (xs.map (Value.int .u16)) hx (by simp [hrow.1]) hrow.news (words_one xs) (by unfold maxLen; omega) (by omega) hB fin
  | none =>
    obtain ⟨rfl, rfl⟩ := hrow.2.2.2.2.1 rfl
    have hnil : xs = [] := List.eq_nil_of_length_eq_zero hrow.1
    subst hnil
    have hrun := run_append_owned_none (P := P) w B t o.type e i 1 ht hi (.slice so n cap) n (ys.map (Value.int .u16)) hown.2.2
    unfold Oper.wp
    simp [execOp, ho, resolve, invoke, builtin, hs, hx, hrun, Result.andThen]
    exact (show K (a.put o.dst (.slice so n cap)) w by simpa using h so cap w (by simpa using hown) hbel ⟨rfl, rfl, rfl, Nat.le_refl _, fun _ _ _ => rfl⟩)
theorem op_append_words {K : Act → World → Prop} (w : World) (s x : Operand) (t : TypeId) (ho : o.op = .call { callee := .builtin .append, args := #[s, x], argTypes := #[t, t] })
    (e : TypeId) (ht : P.underlying t = some (.slice e)) (hinfo : (P.info? e).map (fun i => (i.zero, i.size, i.bytes)) = some (some (.int .u16 0), 1, 2))
    (B n cap : Nat) (so : Option Addr) (ys : List Int) (hs : a.eval s = .slice so n cap) (hown : OwnW e w B so n cap ys)
    (ao : Option Addr) (m c : Nat) (xs : List Int) (hx : a.eval x = .slice ao m c) (hrow : RowW w ao m c xs) (hbd : n + m ≤ 70368744177664) (hB : B ≤ w.heap.size)
    (w0 : World) (hbel : Below B w0 w)
    (h : ∀ so' cap' w', OwnW e w' B so' (n + m) cap' (ys ++ xs) → Below B w0 w' → K (a.put o.dst (.slice so' (n + m) cap')) w') : Oper.wp P o a w K Q :=
  op_append_words_g w s x t ho e ht hinfo B n cap so ys hs hown ao m c xs hx hrow hbd hB w0 hbel fun so' cap' w' h1 h2 _ => h so' cap' w' h1 h2
theorem RowW.grown {w w' : World} {a : Option Addr} {n cap : Nat} {xs : List Int} {r : Option Nat} (h : RowW w a n cap xs) (hg : w.grownBy w' r) (hne : ∀ x, a = some x → r ≠ some x.block) : RowW w' a n cap xs := by
  obtain ⟨h1, h2, h3, h4, h5, h6, h7⟩ := h
  refine ⟨h1, h2, h3, h4, h5, h6, fun x hx i hi => ?_⟩
  have hc := h7 x hx i hi
  have hb : (x.add i).block = x.block := by simp [Addr.add]; split <;> rfl
  have hlt := lt_of_cell hc
  have he : w'.heap[(x.add i).block]? = w.heap[(x.add i).block]? := hg.block _ hlt (by rw [hb]; exact fun e => hne x hx e.symm)
  rw [← hc]
  unfold World.cell?
  rw [he]
theorem wp_append_words (w : World) (hgd : o.guard = none) (s x : Operand) (t : TypeId) (ho : o.op = .call { callee := .builtin .append, args := #[s, x], argTypes := #[t, t] })
    (e : TypeId) (ht : P.underlying t = some (.slice e)) (hinfo : (P.info? e).map (fun i => (i.zero, i.size, i.bytes)) = some (some (.int .u16 0), 1, 2))
    (B n cap : Nat) (so : Option Addr) (ys : List Int) (hs : a.eval s = .slice so n cap) (hown : OwnW e w B so n cap ys)
    (ao : Option Addr) (m c : Nat) (xs : List Int) (hx : a.eval x = .slice ao m c) (hrow : RowW w ao m c xs) (hbd : n + m ≤ 70368744177664) (hB : B ≤ w.heap.size)
    (w0 : World) (hbel : Below B w0 w)
    (h : ∀ so' cap' w', OwnW e w' B so' (n + m) cap' (ys ++ xs) → Below B w0 w' → wpList P ops Q rest (a.put o.dst (.slice so' (n + m) cap')) w') : wpList P ops Q (o :: rest) a w :=
  wpList_plain hgd fun _ hK => op_append_words w s x t ho e ht hinfo B n cap so ys hs hown ao m c xs hx hrow hbd hB w0 hbel fun so' cap' w' h1 h2 => hK _ _ (h so' cap' w' h1 h2)
/-- 'x[k:]' of a slice of numbers, whatever its address. -/
theorem RowW.from {w : World} {a : Option Addr} {n cap : Nat} {xs : List Int} (h : RowW w a n cap xs) (k : Nat) (hk : k ≤ n) : RowW w (if cap = k then a else a.map (fun x => x.add k)) (n - k) (cap - k) (xs.drop k) := by
  have hc := h.cap_le
  have hl := h.len
  by_cases h0 : n = k
  · subst h0
    have hnil : xs.drop n = [] := by rw [List.drop_eq_nil_iff]; omega
    rw [hnil, Nat.sub_self]
    cases a with
    | none =>
      have := h.2.2.2.2.1 rfl
      obtain ⟨rfl, rfl⟩ := this
      simpa using RowW.nil w
    | some x =>
      by_cases hcn : cap = n
      · rw [if_pos hcn]; exact RowW.none_of _ _ _ (by omega)
      · rw [if_neg hcn]; exact RowW.none_of _ _ _ (by omega)
  · obtain ⟨b, off, rfl, _⟩ := h.at (by omega)
    rw [if_neg (by omega)]
    have := h.tail k hk
    by_cases hk0 : k = 0
    · subst hk0; simpa [Addr.add] using h
    · simpa [Addr.add, hk0] using this
end
end Go.Proofs.Ytkmpmljohjelhaa

namespace Go.Proofs.Ytkmpmljohjelhaa
open Go.RowKit
set_option maxRecDepth 100000

/-- How an element lies in memory: k cells. -/
structure Enc (α : Type) where
  k : Nat
  pos : 0 < k
  cells : α → List Value
  len : ∀ x, (cells x).length = k
  one : ∀ x, ∀ u ∈ cells x, u.oneCell' = true
  ok : α → Prop

theorem add_pl (b off n : Nat) : (⟨b, off, none⟩ : Addr).add n = ⟨b, off + n, none⟩ := by
  by_cases h : n = 0
  · subst h; simp [Addr.add]
  · simp [Addr.add, h]

section
variable {α : Type} (E : Enc α)
def Enc.flat (xs : List α) : List Value := xs.flatMap E.cells
theorem Enc.flat_nil : E.flat [] = [] := rfl
theorem Enc.flat_append (xs ys : List α) : E.flat (xs ++ ys) = E.flat xs ++ E.flat ys := by simp [Enc.flat]
theorem Enc.flat_len (xs : List α) : (E.flat xs).length = xs.length * E.k := by
  induction xs with
  | nil => simp [Enc.flat]
  | cons x xs ih =>
    have : E.flat (x :: xs) = E.cells x ++ E.flat xs := by simp [Enc.flat]
    rw [this, List.length_append, ih, E.len, List.length_cons, Nat.succ_mul, Nat.add_comm]
theorem Enc.flat_get (xs : List α) (i j : Nat) (hj : j < E.k) : (E.flat xs)[i * E.k + j]? = xs[i]?.bind fun x => (E.cells x)[j]? := by
  induction xs generalizing i with
  | nil => simp [Enc.flat]
  | cons x xs ih =>
    have hc : E.flat (x :: xs) = E.cells x ++ E.flat xs := by simp [Enc.flat]
    rw [hc]
    cases i with
    | zero => rw [Nat.zero_mul, Nat.zero_add, List.getElem?_append_left (by rw [E.len]; exact hj)]; simp
    | succ i =>
      have e : (i + 1) * E.k + j = (E.cells x).length + (i * E.k + j) := by rw [E.len, Nat.succ_mul]; omega
      rw [e, List.getElem?_append_right (by omega), Nat.add_sub_cancel_left, ih]
      simp
theorem Enc.flat_one (xs : List α) : ∀ u ∈ E.flat xs, u.oneCell' = true := by
  intro u hu
  obtain ⟨x, _, hx⟩ := List.mem_flatMap.1 hu
  exact E.one x u hx
theorem Enc.flat_take (xs : List α) (m : Nat) : (E.flat xs).take (m * E.k) = E.flat (xs.take m) := by
  induction xs generalizing m with
  | nil => simp [Enc.flat]
  | cons x xs ih =>
    have hc : E.flat (x :: xs) = E.cells x ++ E.flat xs := by simp [Enc.flat]
    cases m with
    | zero => simp [Enc.flat]
    | succ m =>
      rw [hc, List.take_succ_cons, show (m + 1) * E.k = (E.cells x).length + m * E.k by rw [E.len, Nat.succ_mul]; omega, List.take_length_add_append, ih]
      simp [Enc.flat]
def Enc.Ok (xs : List α) : Prop := ∀ x ∈ xs, E.ok x

/-- The slice at a, of n elements, reads as xs. -/
def RowG (w : World) (a : Option Addr) (n cap : Nat) (xs : List α) : Prop :=
  xs.length = n ∧ n ≤ cap ∧ cap ≤ maxLen ∧ E.Ok xs ∧ (a = none → n = 0 ∧ cap = 0) ∧ (0 < n → ∃ b off, a = some ⟨b, off, none⟩) ∧ ∀ ad, a = some ad → ∀ i x, xs[i]? = some x → ∀ j v, (E.cells x)[j]? = some v → w.cell? (ad.add (i * E.k + j)) = some v

/-- A slice that is nil, or at the head of a row of the call's own (blocks from B on), whose elements are xs. -/
def OwnG (e : TypeId) (w : World) (B : Nat) (a : Option Addr) (n cap : Nat) (xs : List α) : Prop :=
  xs.length = n ∧ E.Ok xs ∧ w.ownsRow B e E.k (.slice a n cap) n (E.flat xs)
end

section
variable {α : Type} {E : Enc α}
theorem Enc.Ok.nil : E.Ok [] := fun _ h => by simp at h
theorem Enc.Ok.append {xs ys : List α} (h : E.Ok xs) (k : E.Ok ys) : E.Ok (xs ++ ys) := fun x hx => (List.mem_append.1 hx).elim (h x) (k x)
theorem Enc.Ok.one {x : α} (h : E.ok x) : E.Ok [x] := fun y hy => by simp at hy; subst hy; exact h
theorem Enc.Ok.take {xs : List α} (h : E.Ok xs) (k : Nat) : E.Ok (xs.take k) := fun x hx => h x (List.mem_of_mem_take hx)
theorem Enc.Ok.drop {xs : List α} (h : E.Ok xs) (k : Nat) : E.Ok (xs.drop k) := fun x hx => h x (List.mem_of_mem_drop hx)
theorem Enc.Ok.get {xs : List α} (h : E.Ok xs) {i : Nat} {x : α} (hx : xs[i]? = some x) : E.ok x := h x (List.mem_of_getElem? hx)

theorem RowG.len {w : World} {a : Option Addr} {n cap : Nat} {xs : List α} (h : RowG E w a n cap xs) : xs.length = n := h.1
theorem RowG.ok {w : World} {a : Option Addr} {n cap : Nat} {xs : List α} (h : RowG E w a n cap xs) : E.Ok xs := h.2.2.2.1
theorem RowG.cap_le {w : World} {a : Option Addr} {n cap : Nat} {xs : List α} (h : RowG E w a n cap xs) : n ≤ cap ∧ cap ≤ 9223372036854775807 := ⟨h.2.1, h.2.2.1⟩
theorem RowG.nil (E : Enc α) (w : World) : RowG E w none 0 0 [] := ⟨rfl, Nat.le_refl _, Nat.zero_le _, Enc.Ok.nil, fun _ => ⟨rfl, rfl⟩, fun h => absurd h (by omega), fun _ h => by simp at h⟩
theorem RowG.none_of (E : Enc α) (w : World) (x : Addr) (cap : Nat) (hc : cap ≤ 9223372036854775807) : RowG E w (some x) 0 cap [] :=
  ⟨rfl, Nat.zero_le _, hc, Enc.Ok.nil, fun h => by simp at h, fun h => absurd h (by omega), fun _ _ i x hi => by simp at hi⟩
theorem RowG.empty {w : World} {a : Option Addr} {n cap : Nat} {xs : List α} (h : RowG E w a n cap xs) (h0 : n = 0) : xs = [] := List.eq_nil_of_length_eq_zero (h.1.trans h0)
theorem RowG.get {w : World} {a : Option Addr} {n cap : Nat} {xs : List α} (h : RowG E w a n cap xs) (i : Nat) (hi : i < n) : ∃ x, xs[i]? = some x := ⟨xs[i]'(by have := h.1; omega), List.getElem?_eq_getElem _⟩

theorem RowG.at {w : World} {a : Option Addr} {n cap : Nat} {xs : List α} (h : RowG E w a n cap xs) (hn : 0 < n) :
    ∃ b off, a = some ⟨b, off, none⟩ ∧ ∀ i x, xs[i]? = some x → ∀ j v, (E.cells x)[j]? = some v → w.cell? ⟨b, off + i * E.k + j, none⟩ = some v := by
  obtain ⟨_, _, _, _, _, h1, h2⟩ := h
  obtain ⟨b, off, rfl⟩ := h1 hn
  refine ⟨b, off, rfl, fun i x hi j v hv => ?_⟩
  have := h2 _ rfl i x hi j v hv
  rwa [add_pl, ← Nat.add_assoc] at this
theorem RowG.cells {w : World} {b off n cap : Nat} {xs : List α} (h : RowG E w (some ⟨b, off, none⟩) n cap xs) : ∀ i x, xs[i]? = some x → ∀ j v, (E.cells x)[j]? = some v → w.cell? ⟨b, off + i * E.k + j, none⟩ = some v := by
  intro i x hi j v hv
  have := h.2.2.2.2.2.2 _ rfl i x hi j v hv
  rwa [add_pl, ← Nat.add_assoc] at this

theorem RowG.below {w w' : World} {a : Option Addr} {n cap : Nat} {xs : List α} (h : RowG E w a n cap xs) (hb : Below w.heap.size w w') : RowG E w' a n cap xs := by
  obtain ⟨h1, h2, h3, h4, h5, h6, h7⟩ := h
  refine ⟨h1, h2, h3, h4, h5, h6, fun x hx i y hi j v hv => ?_⟩
  have hc := h7 x hx i y hi j v hv
  rw [hb.cell (lt_of_cell hc)]
  exact hc
theorem RowG.grown {w w' : World} {a : Option Addr} {n cap : Nat} {xs : List α} {r : Option Nat} (h : RowG E w a n cap xs) (hg : w.grownBy w' r) (hne : ∀ x, a = some x → r ≠ some x.block) : RowG E w' a n cap xs := by
  obtain ⟨h1, h2, h3, h4, h5, h6, h7⟩ := h
  refine ⟨h1, h2, h3, h4, h5, h6, fun x hx i y hi j v hv => ?_⟩
  have hc := h7 x hx i y hi j v hv
  have hb : (x.add (i * E.k + j)).block = x.block := by simp [Addr.add]; split <;> rfl
  have hlt := lt_of_cell hc
  have he : w'.heap[(x.add (i * E.k + j)).block]? = w.heap[(x.add (i * E.k + j)).block]? := hg.block _ hlt (by rw [hb]; exact fun e => hne x hx e.symm)
  rw [← hc]
  unfold World.cell?
  rw [he]

theorem OwnG.cases {e : TypeId} {w : World} {B n cap : Nat} {a : Option Addr} {xs : List α} (h : OwnG E e w B a n cap xs) :
    (a = none ∧ n = 0 ∧ cap = 0 ∧ xs = []) ∨ ∃ (g : Nat) (cur : Array Value), a = some ⟨g, 0, none⟩ ∧ B ≤ g ∧ w.heap[g]? = some (.cells cur e (0, 0)) ∧ n ≤ cap ∧ cap ≤ maxLen ∧ cur.size = cap * E.k ∧ cur.toList.take (n * E.k) = E.flat xs := by
  obtain ⟨h1, h2, h3⟩ := h
  rcases h3.2 with ⟨h, h0⟩ | ⟨g, cap', cur, hv, hB, hg, hn, hm, hs, ht⟩
  · simp only [Value.slice.injEq] at h
    obtain ⟨rfl, _, rfl⟩ := h
    exact .inl ⟨rfl, h0, rfl, List.eq_nil_of_length_eq_zero (by omega)⟩
  · simp only [Value.slice.injEq] at hv
    obtain ⟨rfl, _, rfl⟩ := hv
    exact .inr ⟨g, cur, rfl, hB, hg, hn, hm, hs, ht⟩
theorem OwnG.of_nil (E : Enc α) (e : TypeId) (w : World) (B : Nat) : OwnG E e w B none 0 0 [] := ⟨rfl, Enc.Ok.nil, by simp [Enc.flat], .inl ⟨rfl, rfl⟩⟩
theorem OwnG.of_cells {e : TypeId} {w : World} {B g n cap : Nat} {xs : List α} {cur : Array Value} (hB : B ≤ g) (hg : w.heap[g]? = some (.cells cur e (0, 0))) (hn : n ≤ cap) (hm : cap ≤ maxLen) (hc : cur.size = cap * E.k)
    (hx : xs.length = n) (hb : E.Ok xs) (ht : cur.toList.take (n * E.k) = E.flat xs) : OwnG E e w B (some ⟨g, 0, none⟩) n cap xs :=
  ⟨hx, hb, by rw [E.flat_len, hx], .inr ⟨g, cap, cur, rfl, hB, hg, hn, hm, hc, ht⟩⟩

theorem OwnG.row {e : TypeId} {w : World} {B n cap : Nat} {a : Option Addr} {xs : List α} (h : OwnG E e w B a n cap xs) : RowG E w a n cap xs := by
  have hc := h.cases
  obtain ⟨h1, h2, h3⟩ := h
  rcases hc with ⟨rfl, rfl, rfl, rfl⟩ | ⟨g, cur, rfl, hB, hg, hn, hm, hs, ht⟩
  · exact RowG.nil E w
  · refine ⟨h1, hn, hm, h2, fun h => by simp at h, fun _ => ⟨_, _, rfl⟩, fun x hx i y hi j v hv => ?_⟩
    obtain rfl := Option.some.inj hx
    have hj : j < E.k := by
      have := E.len y
      by_cases hl : j < (E.cells y).length
      · omega
      · rw [List.getElem?_eq_none (by omega)] at hv; simp at hv
    exact h3.cells (g := g) rfl (i * E.k + j) v (by rw [E.flat_get _ _ _ hj, hi]; exact hv)
theorem OwnG.lt {e : TypeId} {w : World} {B g off n cap : Nat} {xs : List α} (h : OwnG E e w B (some ⟨g, off, none⟩) n cap xs) : B ≤ g ∧ g < w.heap.size := by
  rcases h.cases with ⟨h, _⟩ | ⟨g', cur, hv, hB, hg, _⟩
  · simp at h
  · simp only [Option.some.injEq, Addr.mk.injEq, and_true] at hv
    obtain ⟨rfl, _⟩ := hv
    exact ⟨hB, (Array.getElem?_eq_some_iff.1 hg).1⟩
theorem OwnG.below {e : TypeId} {w w' : World} {B n cap : Nat} {a : Option Addr} {xs : List α} (h : OwnG E e w B a n cap xs) (hb : Below w.heap.size w w') : OwnG E e w' B a n cap xs := by
  rcases h.cases with ⟨rfl, rfl, rfl, rfl⟩ | ⟨g, cur, rfl, hB, hg, hn, hm, hs, ht⟩
  · exact OwnG.of_nil _ _ _ _
  · exact OwnG.of_cells hB ((hb.block g (Array.getElem?_eq_some_iff.1 hg).1).trans hg) hn hm hs h.1 h.2.1 ht
/-- What is made elsewhere leaves a row of one's own. -/
theorem OwnG.grown {e : TypeId} {w w' : World} {B n cap : Nat} {a : Option Addr} {xs : List α} {r : Option Nat} (h : OwnG E e w B a n cap xs) (hg' : w.grownBy w' r) (hne : ∀ x, a = some x → r ≠ some x.block) : OwnG E e w' B a n cap xs := by
  rcases h.cases with ⟨rfl, rfl, rfl, rfl⟩ | ⟨g, cur, rfl, hB, hg, hn, hm, hs, ht⟩
  · exact OwnG.of_nil _ _ _ _
  · exact OwnG.of_cells hB ((hg'.block g (Array.getElem?_eq_some_iff.1 hg).1 (fun e => hne _ rfl e.symm)).trans hg) hn hm hs h.1 h.2.1 ht
theorem OwnG.mono {e : TypeId} {w : World} {B B' n cap : Nat} {a : Option Addr} {xs : List α} (h : OwnG E e w B a n cap xs) (hB' : B' ≤ B) : OwnG E e w B' a n cap xs := by
  rcases h.cases with ⟨rfl, rfl, rfl, rfl⟩ | ⟨g, cur, rfl, hB, hg, hn, hm, hs, ht⟩
  · exact OwnG.of_nil _ _ _ _
  · exact OwnG.of_cells (Nat.le_trans hB' hB) hg hn hm hs h.1 h.2.1 ht
theorem OwnG.pre {e : TypeId} {w : World} {B n cap : Nat} {a : Option Addr} {xs : List α} (h : OwnG E e w B a n cap xs) (m : Nat) (hm' : m ≤ n) : OwnG E e w B a m cap (xs.take m) := by
  have hlen := h.1
  rcases h.cases with ⟨rfl, rfl, rfl, rfl⟩ | ⟨g, cur, rfl, hB, hg, hn, hm, hs, ht⟩
  · obtain rfl : m = 0 := by omega
    exact OwnG.of_nil _ _ _ _
  · refine OwnG.of_cells hB hg (by omega) hm hs (by simp; omega) (h.2.1.take m) ?_
    rw [← E.flat_take, ← ht, List.take_take, Nat.min_eq_left (Nat.mul_le_mul_right _ hm')]

theorem RowG.news {w : World} {x : Addr} {n cap : Nat} {xs : List α} (h : RowG E w (some x) n cap xs) : ∀ j u, (E.flat xs)[j]? = some u → w.cell? (x.add j) = some u := by
  intro t u ht
  have hk := E.pos
  have e : t / E.k * E.k + t % E.k = t := by rw [Nat.mul_comm]; exact Nat.div_add_mod t E.k
  have hlt := Nat.mod_lt t hk
  rw [← e, E.flat_get _ _ _ hlt] at ht
  cases hx : xs[t / E.k]? with
  | none => rw [hx] at ht; simp at ht
  | some y =>
    rw [hx] at ht
    have := h.2.2.2.2.2.2 x rfl _ y hx _ u ht
    rwa [e] at this

theorem RowG.pre {w : World} {a : Option Addr} {n cap : Nat} {xs : List α} (h : RowG E w a n cap xs) (m : Nat) (hm : m ≤ n) : RowG E w a m cap (xs.take m) := by
  obtain ⟨h1, h2, h3, h4, h5, h6, h7⟩ := h
  refine ⟨by simp; omega, by omega, h3, h4.take m, fun ha => ⟨by have := h5 ha; omega, (h5 ha).2⟩, fun hp => h6 (by omega), fun x hx i y hi j v hv => ?_⟩
  refine h7 x hx i y ?_ j v hv
  rw [List.getElem?_take] at hi
  split at hi
  · exact hi
  · simp at hi
theorem RowG.sub {w : World} {b off n cap : Nat} {xs : List α} (h : RowG E w (some ⟨b, off, none⟩) n cap xs) (k m : Nat) (hm : k + m ≤ n) : RowG E w (some ⟨b, off + k * E.k, none⟩) m (cap - k) ((xs.drop k).take m) := by
  have h7 := h.cells
  obtain ⟨h1, h2, h3, h4, _, _, _⟩ := h
  have hd : cap - k ≤ maxLen := Nat.le_trans (Nat.sub_le _ _) h3
  refine ⟨by simp; omega, by omega, hd, (h4.drop k).take m, fun ha => by simp at ha, fun _ => ⟨_, _, rfl⟩, fun x hx i y hi j v hv => ?_⟩
  obtain rfl := Option.some.inj hx
  rw [List.getElem?_take] at hi
  split at hi
  · rw [List.getElem?_drop] at hi
    have := h7 (k + i) y hi j v hv
    rw [add_pl, show off + k * E.k + (i * E.k + j) = off + (k + i) * E.k + j by rw [Nat.add_mul]; omega]
    exact this
  · simp at hi
theorem RowG.tail {w : World} {b off n cap : Nat} {xs : List α} (h : RowG E w (some ⟨b, off, none⟩) n cap xs) (k : Nat) (hk : k ≤ n) : RowG E w (some ⟨b, off + k * E.k, none⟩) (n - k) (cap - k) (xs.drop k) := by
  have h1 := h.sub k (n - k) (by omega)
  rwa [List.take_of_length_le (by simp [h.len])] at h1
theorem RowG.tail0 {w : World} {b off n cap : Nat} {xs : List α} (h : RowG E w (some ⟨b, off, none⟩) n cap xs) (k : Nat) (hk : k ≤ n) (hc : cap = k) : RowG E w (some ⟨b, off, none⟩) (n - k) 0 (xs.drop k) := by
  subst hc
  have h1 := h.cap_le
  have h2 := h.len
  rw [List.drop_of_length_le (by omega), show n - cap = 0 by omega]
  exact RowG.none_of _ _ _ _ (by omega)

/-- A new block of elements that are known. -/
theorem owng_lit (E : Enc α) (w : World) (e : TypeId) (xs : List α) (cs : Array Value) (hcs : cs.toList = E.flat xs) (n : Nat) (hn : xs.length = n) (hm : n ≤ 9223372036854775807) (hb : E.Ok xs) (g B : Nat) (hg : w.heap.size = g) (hB : B ≤ g) : OwnG E e (w.alloc (.cells cs e)) B (some ⟨g, 0, none⟩) n n xs := by
  subst hg
  have hsz : cs.size = n * E.k := by rw [← Array.length_toList, hcs, E.flat_len, hn]
  exact OwnG.of_cells hB (heap_alloc_new w _) (Nat.le_refl _) hm hsz hn hb (by rw [List.take_of_length_le (by rw [Array.length_toList, hsz]; exact Nat.le_refl _), hcs])
end

section
variable {P : Program} {ops : Array Oper} {rest : List Oper} {o : Oper} {a : Act} {Q : Exit → Act → World → Prop} {α : Type} {E : Enc α}

/-- 'append(s, x...)', s nil or a row of the call's own, x whatever elements: it may grow. -/
theorem op_append_g {K : Act → World → Prop} (w : World) (s x : Operand) (t : TypeId) (ho : o.op = .call { callee := .builtin .append, args := #[s, x], argTypes := #[t, t] })
    (e : TypeId) (ht : P.underlying t = some (.slice e)) (z : Value) (by' : Nat) (hinfo : (P.info? e).map (fun i => (i.zero, i.size, i.bytes)) = some (some z, E.k, by')) (hz : z.cells.size = E.k) (_hby : by' ≤ 1024)
    (B n cap : Nat) (so : Option Addr) (ys : List α) (hs : a.eval s = .slice so n cap) (hown : OwnG E e w B so n cap ys)
    (ao : Option Addr) (m c : Nat) (xs : List α) (hx : a.eval x = .slice ao m c) (hrow : RowG E w ao m c xs) (hbd : n + m ≤ 140737488355328 ∧ (n + m) * by' ≤ 140737488355328) (hB : B ≤ w.heap.size)
    (w0 : World) (hbel : Below B w0 w)
    (h : ∀ so' cap' w', OwnG E e w' B so' (n + m) cap' (ys ++ xs) → Below B w0 w' → w.grownBy w' (Value.slice so n cap).ownBlock → K (a.put o.dst (.slice so' (n + m) cap')) w') : Oper.wp P o a w K Q := by
  obtain ⟨i, hi, hz0, hz1, hz2⟩ := info_parts hinfo
  have hbn : ∀ k, (Value.slice so n cap).ownBlock = some k → B ≤ k := by
    intro k hk
    rcases hown.cases with ⟨rfl, _⟩ | ⟨g, cur, rfl, hBg, _⟩
    · simp [Value.ownBlock] at hk
    · obtain rfl : g = k := by simpa [Value.ownBlock] using hk
      exact hBg
  have fin : ∀ v' w', w'.ownsRow B e E.k v' (n + m) (E.flat ys ++ E.flat xs) → w.grownBy w' (Value.slice so n cap).ownBlock → (v' = .slice none 0 0 ↔ Value.slice so n cap = .slice none 0 0 ∧ m = 0) → K (a.put o.dst v') w' := by
    intro v' w' h1 h2 _
    have hl : (ys ++ xs).length = n + m := by simp [hown.1, hrow.1]
    have h1' : w'.ownsRow B e E.k v' (n + m) (E.flat (ys ++ xs)) := by rw [E.flat_append]; exact h1
    rcases h1'.2 with ⟨hv, h0⟩ | ⟨g', cap', cur, hv, r⟩
    · subst hv
      have hn0 : n + m = 0 := h0
      have := h none 0 w' ⟨hl, hown.2.1.append hrow.ok, by rw [hn0] at h1' ⊢; exact h1'⟩ (hbel.grown h2 hB hbn) h2
      rw [hn0] at this
      exact this
    · subst hv
      exact h _ cap' w' ⟨hl, hown.2.1.append hrow.ok, h1'⟩ (hbel.grown h2 hB hbn) h2
  have hbytes : (n + m) * by' ≤ 140737488355328 := hbd.2
  have hroom : n + m ≤ 140737488355328 := hbd.1
  cases ao with
  | some ad =>
    exact wp_append_own w s x t ho B e i z E.k by' ht hi hz0 hz1 hz2 hz E.pos _ n _ hs hown.2.2 ad m c (E.flat xs) hx (by rw [E.flat_len, hrow.1]) hrow.news (E.flat_one xs) (by unfold maxLen; omega) hbytes hB fin
  | none =>
    obtain ⟨rfl, rfl⟩ := hrow.2.2.2.2.1 rfl
    have hnil : xs = [] := List.eq_nil_of_length_eq_zero hrow.1
    subst hnil
    have hrun := run_append_owned_none (P := P) w B t o.type e i E.k ht hi (.slice so n cap) n (E.flat ys) hown.2.2
    unfold Oper.wp
    simp [execOp, ho, resolve, invoke, builtin, hs, hx, hrun, Result.andThen]
    exact (show K (a.put o.dst (.slice so n cap)) w by simpa using h so cap w (by simpa using hown) hbel ⟨rfl, rfl, rfl, Nat.le_refl _, fun _ _ _ => rfl⟩)
theorem wp_append_g (w : World) (hgd : o.guard = none) (s x : Operand) (t : TypeId) (ho : o.op = .call { callee := .builtin .append, args := #[s, x], argTypes := #[t, t] })
    (e : TypeId) (ht : P.underlying t = some (.slice e)) (z : Value) (by' : Nat) (hinfo : (P.info? e).map (fun i => (i.zero, i.size, i.bytes)) = some (some z, E.k, by')) (hz : z.cells.size = E.k) (_hby : by' ≤ 1024)
    (B n cap : Nat) (so : Option Addr) (ys : List α) (hs : a.eval s = .slice so n cap) (hown : OwnG E e w B so n cap ys)
    (ao : Option Addr) (m c : Nat) (xs : List α) (hx : a.eval x = .slice ao m c) (hrow : RowG E w ao m c xs) (hbd : n + m ≤ 140737488355328 ∧ (n + m) * by' ≤ 140737488355328) (hB : B ≤ w.heap.size)
    (w0 : World) (hbel : Below B w0 w)
    (h : ∀ so' cap' w', OwnG E e w' B so' (n + m) cap' (ys ++ xs) → Below B w0 w' → w.grownBy w' (Value.slice so n cap).ownBlock → wpList P ops Q rest (a.put o.dst (.slice so' (n + m) cap')) w') : wpList P ops Q (o :: rest) a w :=
  wpList_plain hgd fun _ hK => op_append_g w s x t ho e ht z by' hinfo hz _hby B n cap so ys hs hown ao m c xs hx hrow hbd hB w0 hbel fun so' cap' w' h1 h2 h3 => hK _ _ (h so' cap' w' h1 h2 h3)
end
end Go.Proofs.Ytkmpmljohjelhaa

namespace Go.Proofs.Ytkmpmljohjelhaa
open Go.RowKit
set_option maxRecDepth 100000

section
variable {P : Program} {o : Oper} {a : Act} {Q : Exit → Act → World → Prop}
theorem opb_append {K : Act → World → Prop} (w : World) (s x : Operand) (t : TypeId) (ho : o.op = .call { callee := .builtin .append, args := #[s, x], argTypes := #[t, t] })
    (e : TypeId) (ht : P.underlying t = some (.slice e)) (hinfo : (P.info? e).map (fun i => (i.zero, i.size, i.bytes)) = some (some (.int .u8 0), 1, 1))
    (B g n cap : Nat) (ys : List Int) (hs : a.eval s = .slice (some ⟨g, 0, none⟩) n cap) (hown : Own e w B g n cap ys)
    (ao : Option Addr) (m c : Nat) (xs : List Int) (hx : a.eval x = .slice ao m c) (hrow : Row w ao m c xs) (hbd : n + m ≤ 140737488355328) (hB : B ≤ w.heap.size)
    (w0 : World) (hbel : Below B w0 w)
    (h : ∀ g' cap' w', Own e w' B g' (n + m) cap' (ys ++ xs) → Below B w0 w' → w.grownBy w' (some g) → K (a.put o.dst (.slice (some ⟨g', 0, none⟩) (n + m) cap')) w') : Oper.wp P o a w K Q := by
  obtain ⟨i, hi, hz0, hz1, hz2⟩ := info_parts hinfo
  have hob : (Value.slice (some ⟨g, 0, none⟩) n cap).ownBlock = some g := by simp [Value.ownBlock]
  have hbn : ∀ k, (Value.slice (some ⟨g, 0, none⟩) n cap).ownBlock = some k → B ≤ k := by
    intro k hk; obtain rfl : g = k := by simpa [Value.ownBlock] using hk
    exact hown.lt.1
  have fin : ∀ v' w', w'.ownsRow B e 1 v' (n + m) (ys.map (Value.int .u8) ++ xs.map (Value.int .u8)) → w.grownBy w' (Value.slice (some ⟨g, 0, none⟩) n cap).ownBlock → (v' = .slice none 0 0 ↔ Value.slice (some ⟨g, 0, none⟩) n cap = .slice none 0 0 ∧ m = 0) → K (a.put o.dst v') w' := by
    intro v' w' h1 h2 h3
    have hne : v' ≠ .slice none 0 0 := fun hv => by have := h3.1 hv; simp at this
    rcases h1.2 with ⟨hv, _⟩ | ⟨g', cap', cur, hv, r⟩
    · exact absurd hv hne
    · subst hv
      exact h g' cap' w' ⟨by simp [hown.1, hrow.1], hown.2.1.append hrow.byt, by simpa using h1⟩ (hbel.grown h2 hB hbn) (hob ▸ h2)
  cases ao with
  | some ad =>
    exact wp_append_own w s x t ho B e i (.int .u8 0) 1 1 ht hi hz0 hz1 hz2 rfl (by decide) _ n _ hs hown.2.2 ad m c (xs.map (Value.int .u8)) hx (by simp [hrow.1]) hrow.news (ints_one xs) (by unfold maxLen; omega) (by omega) hB fin
  | none =>
    obtain ⟨rfl, rfl⟩ := hrow.2.2.2.2.1 rfl
    have hnil : xs = [] := List.eq_nil_of_length_eq_zero hrow.1
    subst hnil
    have hrun := run_append_owned_none (P := P) w B t o.type e i 1 ht hi (.slice (some ⟨g, 0, none⟩) n cap) n (ys.map (Value.int .u8)) hown.2.2
    unfold Oper.wp
    simp [execOp, ho, resolve, invoke, builtin, hs, hx, hrun, Result.andThen]
    exact (show K (a.put o.dst (.slice (some ⟨g, 0, none⟩) n cap)) w by simpa using h g cap w (by simpa using hown) hbel ⟨rfl, rfl, rfl, Nat.le_refl _, fun _ _ _ => rfl⟩)
end

theorem rowL_grown {w w' : World} {a : Option Addr} {n cap : Nat} {xs : List Int} {r : Option Nat} (h : Row w a n cap xs) (hg : w.grownBy w' r) (hne : 0 < n → ∀ x, a = some x → r ≠ some x.block) : Row w' a n cap xs := by
  obtain ⟨h1, h2, h3, h4, h5, h6, h7⟩ := h
  refine ⟨h1, h2, h3, h4, h5, h6, fun x hx i hi => ?_⟩
  have hc := h7 x hx i hi
  have hb : (x.add i).block = x.block := by simp [Addr.add]; split <;> rfl
  exact hg.cell hc (by rw [hb]; exact fun e => hne (by omega) x hx e.symm)
end Go.Proofs.Ytkmpmljohjelhaa
