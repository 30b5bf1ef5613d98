/- A memory of frames: how it lies in memory, and what a new frame, a freed one and a store make of it. -/
import Derived.Test.YtdmdamidknbjoaaRows
import Derived.Test.YtdmdamidknbjoaaBytes
import Derived.Deep.OwnRows
namespace Go.Proofs.Ytdmdamidknbjoaa
open Go.RowKit
set_option maxRecDepth 100000

/-- Of the blocks that were there only those of S may have turned. -/
structure Chg (S : Nat → Prop) (w w' : World) : Prop where
  os : w'.os = w.os
  tape : w'.tape = w.tape
  output : w'.output = w.output
  size : w.heap.size ≤ w'.heap.size
  block : ∀ k, k < w.heap.size → ¬ S k → w'.heap[k]? = w.heap[k]?
theorem Chg.refl (S : Nat → Prop) (w : World) : Chg S w w := ⟨rfl, rfl, rfl, Nat.le_refl _, fun _ _ _ => rfl⟩
theorem Chg.trans {S S' : Nat → Prop} {a b c : World} (h : Chg S a b) (k : Chg S' b c) (hs : ∀ x, S' x → S x ∨ a.heap.size ≤ x) : Chg S a c :=
  ⟨k.os.trans h.os, k.tape.trans h.tape, k.output.trans h.output, Nat.le_trans h.size k.size, fun x hx hn => (k.block x (Nat.lt_of_lt_of_le hx h.size) (fun hc => (hs x hc).elim hn (by omega))).trans (h.block x hx hn)⟩
theorem Chg.below {S : Nat → Prop} {w w' : World} {B : Nat} (h : Chg S w w') (hs : ∀ x, S x → B ≤ x) (hB : B ≤ w.heap.size) : Below B w w' :=
  ⟨h.os, h.tape, h.output, h.size, fun x hx => h.block x (by omega) (fun hc => by have := hs x hc; omega)⟩
theorem Chg.of_below {w w' : World} (h : Below w.heap.size w w') (S : Nat → Prop) : Chg S w w' := ⟨h.os, h.tape, h.output, h.size, fun x hx _ => h.block x hx⟩
theorem Chg.set (S : Nat → Prop) (w : World) (b o : Nat) (v : Value) (h : S b) : Chg S w (w.setCell ⟨b, o, none⟩ v) :=
  ⟨rfl, rfl, rfl, by simp [World.setCell], fun x _ hn => Below.heap_setCell _ _ _ _ (fun e => hn (by rw [e]; exact h))⟩

/-- A frame's bytes; which frames are taken, and what stands in them. -/
abbrev Fr := Nat → Int
abbrev Mm := Nat → Option Fr
def upd {α : Type} (f : Nat → α) (i : Nat) (v : α) : Nat → α := fun j => if j = i then v else f j
theorem upd_same {α : Type} (f : Nat → α) (i : Nat) (v : α) : upd f i v i = v := if_pos rfl
theorem upd_other {α : Type} (f : Nat → α) {i j : Nat} (v : α) (h : j ≠ i) : upd f i v j = f j := if_neg h
/-- What stands in the table for a frame. -/
def fval : Option Fr → Nat → Value
  | none, _ => .slice none 0 0
  | some _, b => .slice (some ⟨b, 0, none⟩) 16 16

/-- A table of frames: at block g there is a slice for each; those taken have a block each of their own. All of it lies in S. -/
structure Tab (w : World) (S : Nat → Prop) (t : TypeId) (g K : Nat) (A : Mm) (b : Nat → Nat) : Prop where
  row : w.rowIs g t K (fun i => fval (A i) (b i))
  own : ∀ i f, A i = some f → w.rowIs (b i) 5 16 (fun j => .int .u8 (f j)) ∧ b i ≠ g ∧ S (b i)
  inj : ∀ i j, A i ≠ none → A j ≠ none → b i = b j → i = j
  byt : ∀ i f j, A i = some f → j < 16 → 0 ≤ f j ∧ f j < 256
  sg : S g
  lt : ∀ x, S x → x < w.heap.size
  top : ∀ i, K ≤ i → A i = none

section
variable {w w' : World} {S : Nat → Prop} {t : TypeId} {g K : Nat} {A : Mm} {b : Nat → Nat}
theorem Tab.kept (h : Tab w S t g K A b) (hb : ∀ x, S x → w'.heap[x]? = w.heap[x]?) (hs : w.heap.size ≤ w'.heap.size) : Tab w' S t g K A b :=
  ⟨h.row.of_block (hb _ h.sg), fun i f hf => ⟨(h.own i f hf).1.of_block (hb _ (h.own i f hf).2.2), (h.own i f hf).2⟩, h.inj, h.byt, h.sg, fun x hx => Nat.lt_of_lt_of_le (h.lt x hx) hs, h.top⟩
/-- What is done elsewhere leaves it. -/
theorem Tab.other {S2 : Nat → Prop} (h : Tab w S t g K A b) (c : Chg S2 w w') (hd : ∀ x, S x → ¬ S2 x) : Tab w' S t g K A b :=
  h.kept (fun x hx => c.block x (h.lt x hx) (hd x hx)) c.size
theorem Tab.below (h : Tab w S t g K A b) (c : Below w.heap.size w w') : Tab w' S t g K A b :=
  h.kept (fun x hx => c.block x (h.lt x hx)) c.size
theorem Tab.lt_of (h : Tab w S t g K A b) {i : Nat} {f : Fr} (hf : A i = some f) : i < K := by
  apply Classical.byContradiction
  intro hc
  rw [h.top i (by omega)] at hf
  cases hf
theorem Tab.cell (h : Tab w S t g K A b) (i : Nat) (hi : i < K) : w.cell? ⟨g, i, none⟩ = some (fval (A i) (b i)) := h.row.cell hi
theorem Tab.cell_none (h : Tab w S t g K A b) (i : Nat) (hi : i < K) (hA : A i = none) : w.cell? ⟨g, i, none⟩ = some (.slice none 0 0) := by rw [h.cell i hi, hA]; rfl
theorem Tab.cell_some (h : Tab w S t g K A b) (i : Nat) {f : Fr} (hA : A i = some f) : w.cell? ⟨g, i, none⟩ = some (.slice (some ⟨b i, 0, none⟩) 16 16) := by rw [h.cell i (h.lt_of hA), hA]; rfl
theorem Tab.byte (h : Tab w S t g K A b) (i j : Nat) {f : Fr} (hA : A i = some f) (hj : j < 16) : w.cell? ⟨b i, j, none⟩ = some (.int .u8 (f j)) := (h.own i f hA).1.cell hj

/-- A frame is freed. -/
theorem Tab.free (h : Tab w S t g K A b) (i : Nat) : Tab (w.setCell ⟨g, i, none⟩ (.slice none 0 0)) S t g K (upd A i none) b := by
  refine ⟨(h.row.set i _).congr fun j hj => ?_, fun j f hf => ?_, fun j l hj hl => ?_, fun j f l hf => ?_, h.sg, fun x hx => by simpa [World.setCell] using h.lt x hx, fun j hj => ?_⟩
  · by_cases e : j = i
    · subst e; simp [upd, fval]
    · simp [upd, e]
  · by_cases e : j = i
    · subst e; simp [upd] at hf
    · rw [upd_other _ _ e] at hf
      obtain ⟨h1, h2, h3⟩ := h.own j f hf
      exact ⟨h1.setOther (a := ⟨g, i, none⟩) h2 _, h2, h3⟩
  · by_cases e : j = i
    · subst e; simp [upd] at hj
    · by_cases e2 : l = i
      · subst e2; simp [upd] at hl
      · rw [upd_other _ _ e] at hj
        rw [upd_other _ _ e2] at hl
        exact h.inj j l hj hl
  · by_cases e : j = i
    · subst e; simp [upd] at hf
    · rw [upd_other _ _ e] at hf
      exact h.byt j f l hf
  · by_cases e : j = i
    · subst e; simp [upd]
    · rw [upd_other _ _ e]; exact h.top j hj
/-- A byte is stored. -/
theorem Tab.store (h : Tab w S t g K A b) (i j : Nat) {f : Fr} (hA : A i = some f) (v : Int) (hv : 0 ≤ v ∧ v < 256) : Tab (w.setCell ⟨b i, j, none⟩ (.int .u8 v)) S t g K (upd A i (some (upd f j v))) b := by
  have hne : ∀ l, A l ≠ none → upd A i (some (upd f j v)) l ≠ none → True := fun _ _ _ => trivial
  have hs : ∀ l, upd A i (some (upd f j v)) l ≠ none → A l ≠ none := fun l hl => by
    by_cases e : l = i
    · subst e; rw [hA]; simp
    · rwa [upd_other _ _ e] at hl
  obtain ⟨r0, n0, s0⟩ := h.own i f hA
  refine ⟨(h.row.setOther (a := ⟨b i, j, none⟩) (fun e => n0 e.symm) _).congr fun l hl => ?_, fun l f' hf => ?_, fun l m hl hm => h.inj l m (hs l hl) (hs m hm), fun l f' m hf hm => ?_, h.sg, fun x hx => by simpa [World.setCell] using h.lt x hx, fun l hl => ?_⟩
  · by_cases e : l = i
    · subst e; simp [upd, fval, hA]
    · rw [upd_other _ _ e]
  · by_cases e : l = i
    · subst e
      rw [upd_same] at hf
      obtain rfl := Option.some.inj hf
      refine ⟨(r0.set j _).congr fun m hm => ?_, n0, s0⟩
      by_cases e2 : m = j
      · subst e2; simp [upd]
      · simp [upd, e2]
    · rw [upd_other _ _ e] at hf
      obtain ⟨h1, h2, h3⟩ := h.own l f' hf
      exact ⟨h1.setOther (a := ⟨b i, j, none⟩) (fun c => e (h.inj l i (by rw [hf]; simp) (by rw [hA]; simp) c)) _, h2, h3⟩
  · by_cases e : l = i
    · subst e
      rw [upd_same] at hf
      obtain rfl := Option.some.inj hf
      by_cases e2 : m = j
      · subst e2; rw [upd_same]; exact hv
      · rw [upd_other _ _ e2]; exact h.byt l f m hA hm
    · rw [upd_other _ _ e] at hf
      exact h.byt l f' m hf hm
  · by_cases e : l = i
    · subst e; rw [h.top l hl] at hA; cases hA
    · rw [upd_other _ _ e]; exact h.top l hl
/-- A frame is taken: a new block, and its slice into the table. -/
theorem Tab.take (h : Tab w S t g K A b) (i : Nat) (hi : i < K) (hA : A i = none) (cs : Array Value) (hc : cs.size = 16 ∧ ∀ j, j < 16 → cs[j]? = some (.int .u8 0)) (n : Nat) (hn : w.heap.size = n) :
    Tab ((w.alloc (.cells cs 5)).setCell ⟨g, i, none⟩ (.slice (some ⟨n, 0, none⟩) 16 16)) (fun x => S x ∨ x = n) t g K (upd A i (some fun _ => 0)) (upd b i n) := by
  subst hn
  have hg := h.lt g h.sg
  have hbl : ∀ l f, A l = some f → b l ≠ w.heap.size := fun l f hf e => by have := h.lt _ (h.own l f hf).2.2; omega
  have hnew : (w.alloc (.cells cs 5)).rowIs w.heap.size 5 16 (fun _ => .int .u8 0) := ⟨cs, heap_alloc_new w _, hc.1, hc.2⟩
  refine ⟨((h.row.alloc _).set i _).congr fun j hj => ?_, fun j f hf => ?_, fun j l hj hl => ?_, fun j f l hf hl => ?_, .inl h.sg, fun x hx => ?_, fun j hj => ?_⟩
  · by_cases e : j = i
    · subst e; simp [upd, fval]
    · simp [upd, e]
  · by_cases e : j = i
    · subst e
      rw [upd_same] at hf
      obtain rfl := Option.some.inj hf
      rw [upd_same]
      exact ⟨hnew.setOther (a := ⟨g, j, none⟩) (show w.heap.size ≠ g by omega) _, by omega, .inr rfl⟩
    · rw [upd_other _ _ e] at hf
      rw [upd_other _ _ e]
      obtain ⟨h1, h2, h3⟩ := h.own j f hf
      exact ⟨(h1.alloc _).setOther (a := ⟨g, i, none⟩) h2 _, h2, .inl h3⟩
  · intro hb
    by_cases e : j = i
    · by_cases e2 : l = i
      · rw [e, e2]
      · exfalso
        subst e
        rw [upd_same, upd_other _ _ e2] at hb
        rw [upd_other _ _ e2] at hl
        obtain ⟨f, hf⟩ := Option.ne_none_iff_exists'.1 hl
        exact hbl l f hf hb.symm
    · by_cases e2 : l = i
      · exfalso
        subst e2
        rw [upd_same, upd_other _ _ e] at hb
        rw [upd_other _ _ e] at hj
        obtain ⟨f, hf⟩ := Option.ne_none_iff_exists'.1 hj
        exact hbl j f hf hb
      · rw [upd_other _ _ e] at hj
        rw [upd_other _ _ e2] at hl
        rw [upd_other _ _ e, upd_other _ _ e2] at hb
        exact h.inj j l hj hl hb
  · by_cases e : j = i
    · subst e
      rw [upd_same] at hf
      obtain rfl := Option.some.inj hf
      exact ⟨Int.le_refl 0, show (0 : Int) < 256 by decide⟩
    · rw [upd_other _ _ e] at hf
      exact h.byt j f l hf hl
  · simp only [World.setCell, Array.size_modify]
    rw [show (w.alloc (.cells cs 5)).heap.size = w.heap.size + 1 by simp]
    rcases hx with hx | hx
    · have := h.lt x hx; omega
    · omega
  · rw [upd_other _ _ (by omega)]; exact h.top j hj
end

/-- A memory: a variable at p that holds the table. -/
structure Mem (w : World) (S : Nat → Prop) (p k : Nat) (A : Mm) (g : Nat) (b : Nat → Nat) : Prop where
  tab : Tab w S 29 g k A b
  box : w.heap[p]? = some (.cells #[.slice (some ⟨g, 0, none⟩) k k] 68 (0, 0))
  sp : S p
  pg : p ≠ g
  pb : ∀ i f, A i = some f → b i ≠ p
  lid : k ≤ 512
section
variable {w w' : World} {S : Nat → Prop} {p k g : Nat} {A : Mm} {b : Nat → Nat}
theorem Mem.kept (h : Mem w S p k A g b) (hb : ∀ x, S x → w'.heap[x]? = w.heap[x]?) (hs : w.heap.size ≤ w'.heap.size) : Mem w' S p k A g b :=
  ⟨h.tab.kept hb hs, (hb _ h.sp).trans h.box, h.sp, h.pg, h.pb, h.lid⟩
theorem Mem.other {S2 : Nat → Prop} (h : Mem w S p k A g b) (c : Chg S2 w w') (hd : ∀ x, S x → ¬ S2 x) : Mem w' S p k A g b :=
  h.kept (fun x hx => c.block x (h.tab.lt x hx) (hd x hx)) c.size
theorem Mem.below (h : Mem w S p k A g b) (c : Below w.heap.size w w') : Mem w' S p k A g b :=
  h.kept (fun x hx => c.block x (h.tab.lt x hx)) c.size
theorem Mem.field (h : Mem w S p k A g b) : w.cell? ⟨p, 0, none⟩ = some (.slice (some ⟨g, 0, none⟩) k k) := by
  simp [World.cell?, h.box]
theorem Mem.frozen (h : Mem w S p k A g b) (i : Nat) : w.frozen? ⟨g, i, none⟩ = false := h.tab.row.frozen i
theorem Mem.free (h : Mem w S p k A g b) (i : Nat) : Mem (w.setCell ⟨g, i, none⟩ (.slice none 0 0)) S p k (upd A i none) g b := by
  refine ⟨h.tab.free i, (Below.heap_setCell _ _ _ _ h.pg).trans h.box, h.sp, h.pg, fun j f hf => ?_, h.lid⟩
  by_cases e : j = i
  · subst e; simp [upd] at hf
  · rw [upd_other _ _ e] at hf; exact h.pb j f hf
theorem Mem.store (h : Mem w S p k A g b) (i j : Nat) {f : Fr} (hA : A i = some f) (v : Int) (hv : 0 ≤ v ∧ v < 256) : Mem (w.setCell ⟨b i, j, none⟩ (.int .u8 v)) S p k (upd A i (some (upd f j v))) g b := by
  refine ⟨h.tab.store i j hA v hv, (Below.heap_setCell _ _ _ _ (fun e => h.pb i f hA e.symm)).trans h.box, h.sp, h.pg, fun l f' hf => ?_, h.lid⟩
  by_cases e : l = i
  · subst e; exact h.pb l f hA
  · rw [upd_other _ _ e] at hf; exact h.pb l f' hf
theorem Mem.take (h : Mem w S p k A g b) (i : Nat) (hi : i < k) (hA : A i = none) (cs : Array Value) (hc : cs.size = 16 ∧ ∀ j, j < 16 → cs[j]? = some (.int .u8 0)) (n : Nat) (hn : w.heap.size = n) :
    Mem ((w.alloc (.cells cs 5)).setCell ⟨g, i, none⟩ (.slice (some ⟨n, 0, none⟩) 16 16)) (fun x => S x ∨ x = n) p k (upd A i (some fun _ => 0)) g (upd b i n) := by
  have hp := h.tab.lt p h.sp
  refine ⟨h.tab.take i hi hA cs hc n hn, ?_, .inl h.sp, h.pg, fun l f' hf => ?_, h.lid⟩
  · rw [Below.heap_setCell _ _ _ _ h.pg, heap_alloc_old w _ hp]; exact h.box
  · by_cases e : l = i
    · subst e; rw [upd_same]; omega
    · rw [upd_other _ _ e] at hf ⊢; exact h.pb l f' hf
end
/-- The frame of a number. -/
def at_ (A : Mm) (n : Int) : Option Fr := if n < 0 then none else A n.toNat
theorem at_nat (A : Mm) (i : Nat) : at_ A (i : Int) = A i := by unfold at_; rw [if_neg (by omega)]; simp
/-- How many are taken below k. -/
def cnt (A : Mm) : Nat → Nat
  | 0 => 0
  | k + 1 => cnt A k + (if (A k).isSome then 1 else 0)
theorem cnt_le (A : Mm) (k : Nat) : cnt A k ≤ k := by
  induction k with
  | zero => exact Nat.le_refl _
  | succ k ih => simp only [cnt]; split <;> omega
theorem cnt_congr {A B : Mm} {k : Nat} (h : ∀ i, i < k → (A i).isSome = (B i).isSome) : cnt A k = cnt B k := by
  induction k with
  | zero => rfl
  | succ k ih => simp only [cnt]; rw [ih (fun i hi => h i (by omega)), h k (by omega)]
theorem cnt_none {A : Mm} {k : Nat} (h : ∀ i, i < k → A i = none) : cnt A k = 0 := by
  induction k with
  | zero => rfl
  | succ k ih => simp only [cnt]; rw [ih (fun i hi => h i (by omega)), h k (by omega)]; rfl
theorem cnt_all {A : Mm} {k : Nat} (h : ∀ i, i < k → A i ≠ none) : cnt A k = k := by
  induction k with
  | zero => rfl
  | succ k ih =>
    simp only [cnt]; rw [ih (fun i hi => h i (by omega))]
    obtain ⟨f, hf⟩ := Option.ne_none_iff_exists'.1 (h k (by omega))
    rw [hf]; rfl
theorem cnt_take {A : Mm} {k i : Nat} (hi : i < k) (hA : A i = none) (f : Fr) : cnt (upd A i (some f)) k = cnt A k + 1 := by
  induction k with
  | zero => omega
  | succ k ih =>
    simp only [cnt]
    by_cases e : i = k
    · subst e
      rw [upd_same, hA, cnt_congr (A := upd A i (some f)) (B := A) (fun j hj => by rw [upd_other _ _ (by omega)])]
      simp
    · rw [ih (by omega), upd_other _ _ (fun c => e c.symm)]; omega
theorem cnt_free {A : Mm} {k i : Nat} (hi : i < k) (hA : A i ≠ none) : cnt (upd A i none) k + 1 = cnt A k := by
  induction k with
  | zero => omega
  | succ k ih =>
    simp only [cnt]
    by_cases e : i = k
    · subst e
      obtain ⟨f, hf⟩ := Option.ne_none_iff_exists'.1 hA
      rw [upd_same, hf, cnt_congr (A := upd A i none) (B := A) (fun j hj => by rw [upd_other _ _ (by omega)])]
      simp
    · have := ih (by omega)
      rw [upd_other _ _ (fun c => e c.symm)]; omega
theorem cnt_store {A : Mm} {k i : Nat} {f f' : Fr} (hA : A i = some f) : cnt (upd A i (some f')) k = cnt A k := by
  refine cnt_congr fun j _ => ?_
  by_cases e : j = i
  · subst e; rw [upd_same, hA]; rfl
  · rw [upd_other _ _ e]
/-- The least that is free, or k. -/
theorem least (A : Mm) (k : Nat) : ∃ m, m ≤ k ∧ (∀ i, i < m → A i ≠ none) ∧ (m < k → A m = none) := by
  induction k with
  | zero => exact ⟨0, Nat.le_refl _, fun i hi => by omega, fun h => by omega⟩
  | succ k ih =>
    obtain ⟨m, h1, h2, h3⟩ := ih
    by_cases hm : m < k
    · exact ⟨m, by omega, h2, fun _ => h3 hm⟩
    · obtain rfl : m = k := by omega
      by_cases hA : A m = none
      · exact ⟨m, by omega, h2, fun _ => hA⟩
      · refine ⟨m + 1, Nat.le_refl _, fun i hi => ?_, fun h => by omega⟩
        by_cases e : i = m
        · rw [e]; exact hA
        · exact h2 i (by omega)
end Go.Proofs.Ytdmdamidknbjoaa
