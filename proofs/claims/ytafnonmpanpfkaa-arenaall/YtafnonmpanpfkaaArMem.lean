/- An arena in memory: its own block, the lists of slabs, of free places and of refs, the slabs, the records; and what stores and appends make of it. -/
import Derived.Test.YtafnonmpanpfkaaArMath
import Derived.Test.YtafnonmpanpfkaaPgAppend
import Derived.Deep.OwnRows
namespace Go.Proofs.Ytafnonmpanpfkaa
open Go.RowKit
set_option maxRecDepth 100000

/-- Of the blocks that were there only those of S may have turned. -/
structure Tou (S : Nat → Prop) (w w' : World) : Prop where
  os : w'.os = w.os
  tape : w'.tape = w.tape
  output : w'.output = w.output
  size : w.heap.size ≤ w'.heap.size
  block : ∀ k, k < w.heap.size → ¬ S k → w'.heap[k]? = w.heap[k]?
/-- S, and what was made since. -/
def gr (S : Nat → Prop) (w w' : World) : Nat → Prop := fun b => S b ∨ (w.heap.size ≤ b ∧ b < w'.heap.size)
theorem Tou.refl (S : Nat → Prop) (w : World) : Tou S w w := ⟨rfl, rfl, rfl, Nat.le_refl _, fun _ _ _ => rfl⟩
theorem Tou.trans {S S' : Nat → Prop} {a b c : World} (h : Tou S a b) (k : Tou S' b c) (hs : ∀ x, S' x → S x ∨ a.heap.size ≤ x) : Tou S a c :=
  ⟨k.os.trans h.os, k.tape.trans h.tape, k.output.trans h.output, Nat.le_trans h.size k.size, fun x hx hn => (k.block x (Nat.lt_of_lt_of_le hx h.size) (fun hc => (hs x hc).elim hn (by omega))).trans (h.block x hx hn)⟩
theorem Tou.go {S : Nat → Prop} {a b c : World} (h : Tou S a b) (k : Tou (gr S a b) b c) : Tou S a c := h.trans k fun _ hx => hx.imp id And.left
theorem Tou.of_below {w w' : World} (h : Below w.heap.size w w') (S : Nat → Prop) : Tou S w w' := ⟨h.os, h.tape, h.output, h.size, fun x hx _ => h.block x hx⟩
theorem Tou.below {S : Nat → Prop} {w w' : World} {B : Nat} (h : Tou S w w') (hs : ∀ x, S x → B ≤ x) (hB : B ≤ w.heap.size) : Below B w w' :=
  ⟨h.os, h.tape, h.output, h.size, fun x hx => h.block x (by omega) (fun hc => by have := hs x hc; omega)⟩
theorem Tou.set (S : Nat → Prop) (w : World) (a : Addr) (v : Value) (h : S a.block) : Tou S w (w.setCell a v) :=
  ⟨rfl, rfl, rfl, by simp [World.setCell], fun x _ hn => Below.heap_setCell _ _ _ _ (fun e => hn (by rw [e]; exact h))⟩
theorem Tou.grown {S : Nat → Prop} {w w' : World} {r : Option Nat} (h : w.grownBy w' r) (hr : ∀ z, r = some z → S z) : Tou S w w' :=
  ⟨h.os, h.tape, h.output, h.size, fun x hx hn => h.block x hx (fun e => hn (hr x e.symm))⟩

/-- Only what lies in block r, of type t, has turned. -/
structure Far (w w' : World) (r : Option Nat) (t : TypeId) : Prop where
  g : w.grownBy w' r
  ty : ∀ z, r = some z → ∃ cur f, w.heap[z]? = some (.cells cur t f)
theorem grown_cell (w : World) (a : Addr) (v : Value) : w.grownBy (w.setCell a v) (some a.block) :=
  ⟨rfl, rfl, rfl, by simp [World.setCell], fun x _ hn => Below.heap_setCell _ _ _ _ (fun e => hn (by rw [e]))⟩
theorem Far.set {w : World} (a : Addr) (v : Value) {t : TypeId} {cur : Array Value} {f : Nat × Nat} (h : w.heap[a.block]? = some (.cells cur t f)) : Far w (w.setCell a v) (some a.block) t :=
  ⟨grown_cell w a v, fun z hz => by obtain rfl := Option.some.inj hz; exact ⟨_, _, h⟩⟩
section
variable {w w' : World} {r : Option Nat} {t : TypeId}
theorem Far.block (h : Far w w' r t) {b : Nat} {cur : Array Value} {e : TypeId} {f : Nat × Nat} (hb : w.heap[b]? = some (.cells cur e f)) (ht : t ≠ e) : w'.heap[b]? = w.heap[b]? := by
  refine h.g.block b (Array.getElem?_eq_some_iff.1 hb).1 (fun c => ?_)
  obtain ⟨cur', f', h'⟩ := h.ty b c.symm
  rw [hb] at h'
  simp at h'
  exact ht h'.2.1.symm
theorem OwnG.kept {α : Type} {E : Enc α} {e : TypeId} {B n cap : Nat} {a : Option Addr} {xs : List α} (h : OwnG E e w B a n cap xs) (hb : ∀ y, a = some y → w'.heap[y.block]? = w.heap[y.block]?) : OwnG E e w' B a n cap xs := by
  rcases h.cases with ⟨rfl, rfl, rfl, rfl⟩ | ⟨g, cur, rfl, hB, hg, hn, hm, hs, ht⟩
  · exact OwnG.of_nil _ _ _ _
  · exact OwnG.of_cells hB ((hb _ rfl).trans hg) hn hm hs h.1 h.2.1 ht
theorem OwnG.far {α : Type} {E : Enc α} {e : TypeId} {B n cap : Nat} {a : Option Addr} {xs : List α} (h : OwnG E e w B a n cap xs) (k : Far w w' r t) (ht : t ≠ e) : OwnG E e w' B a n cap xs := by
  rcases h.cases with ⟨rfl, rfl, rfl, rfl⟩ | ⟨g, cur, rfl, hB, hg, hn, hm, hs, hx⟩
  · exact OwnG.of_nil _ _ _ _
  · exact OwnG.of_cells hB ((k.block hg ht).trans hg) hn hm hs h.1 h.2.1 hx
theorem OwnG.ty {α : Type} {E : Enc α} {e : TypeId} {B n cap : Nat} {a : Option Addr} {xs : List α} (h : OwnG E e w B a n cap xs) : ∀ z, (Value.slice a n cap).ownBlock = some z → ∃ cur f, w.heap[z]? = some (.cells cur e f) := by
  rcases h.cases with ⟨rfl, rfl, rfl, rfl⟩ | ⟨g, cur, rfl, hB, hg, _⟩
  · intro z hz; simp [Value.ownBlock] at hz
  · intro z hz
    obtain rfl : g = z := by simpa [Value.ownBlock] using hz
    exact ⟨_, _, hg⟩
theorem Own.of {e : TypeId} {B g n cap : Nat} {xs : List Int} (h : Own e w B g n cap xs) (hb : w'.heap[g]? = w.heap[g]?) : Own e w' B g n cap xs := by
  obtain ⟨cur, hg, hB, hn, hm, hs, ht⟩ := Own.block h
  exact Own.of_block (cur := cur.toList) hB (by rw [hb]; simpa using hg) hn hm (by simpa using hs) h.1 h.2.1 ht
theorem LeO.kept {B : Nat} {p : Le} (h : LeO w B p) (hb : ∀ y, p.a = some y → w'.heap[y.block]? = w.heap[y.block]?) : LeO w' B p := by
  rcases h with h | ⟨g, h1, h2⟩
  · exact .inl h
  · exact .inr ⟨g, h1, h2.of (hb _ h1)⟩
theorem LeO.far {B : Nat} {p : Le} (h : LeO w B p) (k : Far w w' r t) (ht : t ≠ 5) : LeO w' B p := by
  rcases h with h | ⟨g, h1, h2⟩
  · exact .inl h
  · obtain ⟨cur, hg, _⟩ := Own.block h2
    exact .inr ⟨g, h1, h2.of (k.block hg ht)⟩
theorem row_far {b n : Nat} {e : TypeId} {f : Nat → Value} (h : w.rowIs b e n f) (k : Far w w' r t) (ht : t ≠ e) : w'.rowIs b e n f := by
  obtain ⟨c, hb, hr⟩ := h
  exact ⟨c, (k.block hb ht).trans hb, hr⟩
end

def EP : Enc Nat := ⟨1, by decide, fun g => [.pointer (some ⟨g, 0, none⟩)], fun _ => rfl, fun x u hu => by simp at hu; subst hu; rfl, fun _ => True⟩
def EI : Enc Nat := ⟨1, by decide, fun x => [.int .i64 x], fun _ => rfl, fun x u hu => by simp at hu; subst hu; rfl, fun _ => True⟩
def ER : Enc Rf := ⟨3, by decide, fun r => [.int .u64 r.id, .int .i64 r.pl, .int .u64 r.g], fun _ => rfl, fun x u hu => by simp at hu; rcases hu with rfl | rfl | rfl <;> rfl, fun r => U r.id⟩
def scell (s : Slot) (j : Nat) : Value := if j = 0 then .int .u64 s.g else .slice s.a s.n s.c

/-- What an arena is made of. -/
structure Am where
  v : Int
  sa : Option Addr
  sn : Nat
  sc : Nat
  sl : List Nat
  fa : Option Addr
  fn : Nat
  fc : Nat
  fr : List Nat
  ra : Option Addr
  rn : Nat
  rc : Nat
  rf : List Rf
  Sl : Nat → Slot
/-- It lies at p, all of it in S. -/
structure Am.In (x : Am) (w : World) (S : Nat → Prop) (p : Nat) : Prop where
  box : w.heap[p]? = some (.cells #[.int .u8 x.v, .slice x.sa x.sn x.sc, .slice x.fa x.fn x.fc, .slice x.ra x.rn x.rc] 56 (0, 0))
  sls : OwnG EP 74 w 0 x.sa x.sn x.sc x.sl
  frs : OwnG EI 3 w 0 x.fa x.fn x.fc x.fr
  rfs : OwnG ER 72 w 0 x.ra x.rn x.rc x.rf
  row : ∀ (k g : Nat), x.sl[k]? = some g → w.rowIs g 86 64 (fun j => scell (x.Sl (32 * k + j / 2)) (j % 2))
  one : ∀ (k k' g : Nat), x.sl[k]? = some g → x.sl[k']? = some g → k = k'
  lets : ∀ pl, LeO w 0 (x.Sl pl).le
  sp : S p
  ss : ∀ y, x.sa = some y → S y.block
  sf : ∀ y, x.fa = some y → S y.block
  sr : ∀ y, x.ra = some y → S y.block
  sg : ∀ g ∈ x.sl, S g
  sx : ∀ pl y, (x.Sl pl).a = some y → S y.block
  lt : ∀ b, S b → b < w.heap.size
section
variable {x : Am} {w w' : World} {S : Nat → Prop} {p : Nat}
theorem Am.In.kept (h : x.In w S p) (hb : ∀ b, S b → w'.heap[b]? = w.heap[b]?) (hs : w.heap.size ≤ w'.heap.size) : x.In w' S p :=
  ⟨(hb _ h.sp).trans h.box, h.sls.kept fun y hy => hb _ (h.ss y hy), h.frs.kept fun y hy => hb _ (h.sf y hy), h.rfs.kept fun y hy => hb _ (h.sr y hy), fun k g hg => (h.row k g hg).of_block (hb _ (h.sg g (List.mem_of_getElem? hg))), h.one, fun pl => (h.lets pl).kept fun y hy => hb _ (h.sx pl y hy), h.sp, h.ss, h.sf, h.sr, h.sg, h.sx, fun b hb => Nat.lt_of_lt_of_le (h.lt b hb) hs⟩
theorem Am.In.below (h : x.In w S p) (hb : Below w.heap.size w w') : x.In w' S p := h.kept (fun b hs => hb.block b (h.lt b hs)) hb.size
theorem Am.In.more {S' : Nat → Prop} (h : x.In w S p) (hs : ∀ b, S b → S' b) (hl : ∀ b, S' b → b < w.heap.size) : x.In w S' p :=
  ⟨h.box, h.sls, h.frs, h.rfs, h.row, h.one, h.lets, hs _ h.sp, fun y hy => hs _ (h.ss y hy), fun y hy => hs _ (h.sf y hy), fun y hy => hs _ (h.sr y hy), fun g hg => hs _ (h.sg g hg), fun pl y hy => hs _ (h.sx pl y hy), hl⟩
theorem Am.In.wide (w0 : World) (h : x.In w S p) : x.In w (gr S w0 w) p := h.more (fun _ hb => .inl hb) (fun b hb => hb.elim (h.lt b) And.right)
theorem Am.In.c0 (h : x.In w S p) : w.cell? ⟨p, 0, none⟩ = some (.int .u8 x.v) := by simp [World.cell?, h.box]
theorem Am.In.c1 (h : x.In w S p) : w.cell? ⟨p, 1, none⟩ = some (.slice x.sa x.sn x.sc) := by simp [World.cell?, h.box]
theorem Am.In.c2 (h : x.In w S p) : w.cell? ⟨p, 2, none⟩ = some (.slice x.fa x.fn x.fc) := by simp [World.cell?, h.box]
theorem Am.In.c3 (h : x.In w S p) : w.cell? ⟨p, 3, none⟩ = some (.slice x.ra x.rn x.rc) := by simp [World.cell?, h.box]
theorem Am.In.fz (h : x.In w S p) (i : Nat) : w.frozen? ⟨p, i, none⟩ = false := by simp [World.frozen?, h.box]
/-- The slot of a place: where it lies. -/
theorem Am.In.slot (h : x.In w S p) {pl : Nat} (hp : pl < 32 * x.sn) : ∃ b g, x.sa = some ⟨b, 0, none⟩ ∧ x.sl[pl / 32]? = some g ∧ w.cell? ⟨b, pl / 32, none⟩ = some (.pointer (some ⟨g, 0, none⟩)) ∧
    w.cell? ⟨g, pl % 32 * 2, none⟩ = some (.int .u64 (x.Sl pl).g) ∧ w.cell? ⟨g, pl % 32 * 2 + 1, none⟩ = some (.slice (x.Sl pl).a (x.Sl pl).n (x.Sl pl).c) ∧ ∀ i, w.frozen? ⟨g, i, none⟩ = false := by
  have hl : x.sl.length = x.sn := h.sls.1
  obtain ⟨g, hg⟩ : ∃ g, x.sl[pl / 32]? = some g := ⟨x.sl[pl / 32]'(by omega), List.getElem?_eq_getElem _⟩
  rcases h.sls.cases with ⟨_, h0, _⟩ | ⟨b, cur, hb, _⟩
  · omega
  · have hc := (hb ▸ h.sls.row).cells (pl / 32) g hg 0 (.pointer (some ⟨g, 0, none⟩)) rfl
    have r := h.row _ _ hg
    have e : 32 * (pl / 32) + pl % 32 = pl := Nat.div_add_mod pl 32
    have hm : pl % 32 < 32 := Nat.mod_lt _ (by decide)
    refine ⟨b, g, hb, hg, by simpa [EP] using hc, ?_, ?_, fun i => r.frozen i⟩
    · have := r.cell (i := pl % 32 * 2) (by omega)
      rw [show pl % 32 * 2 / 2 = pl % 32 by omega, e, show pl % 32 * 2 % 2 = 0 by omega] at this
      exact this
    · have := r.cell (i := pl % 32 * 2 + 1) (by omega)
      rw [show (pl % 32 * 2 + 1) / 2 = pl % 32 by omega, e, show (pl % 32 * 2 + 1) % 2 = 1 by omega] at this
      exact this
/-- A slot's cell is written. -/
theorem Am.In.setSlot (h : x.In w S p) {pl : Nat} (hp : pl < 32 * x.sn) {g : Nat} (hg : x.sl[pl / 32]? = some g) (j : Nat) (hj : j < 2) (v : Value) (s : Slot) (hv : scell s j = v) (ho : ∀ i, i < 2 → i ≠ j → scell s i = scell (x.Sl pl) i)
    (hle : LeO w 0 s.le) (hS : ∀ y, s.a = some y → S y.block) : { x with Sl := upS x.Sl pl s }.In (w.setCell ⟨g, pl % 32 * 2 + j, none⟩ v) S p := by
  have r := h.row _ _ hg
  obtain ⟨cur, hb, _⟩ := id r
  have k : Far w (w.setCell ⟨g, pl % 32 * 2 + j, none⟩ v) (some g) 86 := Far.set ⟨g, pl % 32 * 2 + j, none⟩ v hb
  have e : 32 * (pl / 32) + pl % 32 = pl := Nat.div_add_mod pl 32
  have hm : pl % 32 < 32 := Nat.mod_lt _ (by decide)
  refine ⟨(k.block h.box (by decide)).trans h.box, h.sls.far k (by decide), h.frs.far k (by decide), h.rfs.far k (by decide), fun q g' hg' => ?_, h.one, fun q => ?_, h.sp, h.ss, h.sf, h.sr, h.sg, fun q y hy => ?_, fun b hb => by simpa [World.setCell] using h.lt b hb⟩
  · have r' := h.row _ _ hg'
    by_cases hq : g' = g
    · subst hq
      obtain rfl := h.one _ _ _ hg' hg
      refine (r'.set (pl % 32 * 2 + j) v).congr fun i hi => ?_
      by_cases hi2 : i / 2 = pl % 32
      · have e2 : 32 * (pl / 32) + i / 2 = pl := by omega
        simp only [e2, upS_same]
        by_cases hij : i = pl % 32 * 2 + j
        · rw [if_pos hij, ← hv, hij]
          congr 1
          omega
        · rw [if_neg hij]
          exact (ho (i % 2) (by omega) (by omega)).symm
      · have e2 : 32 * (pl / 32) + i / 2 ≠ pl := by omega
        rw [if_neg (by omega)]
        simp only [upS_other _ _ e2]
    · have hk : q ≠ pl / 32 := fun c => hq (by rw [c, hg] at hg'; exact (Option.some.inj hg').symm)
      refine (r'.setOther (a := ⟨g, pl % 32 * 2 + j, none⟩) hq v).congr fun i hi => ?_
      have e2 : 32 * q + i / 2 ≠ pl := by omega
      simp only [upS_other _ _ e2]
  · by_cases hq : q = pl
    · subst hq
      simp only [upS_same]
      exact hle.far k (by decide)
    · simp only [upS_other _ _ hq]
      exact (h.lets q).far k (by decide)
  · by_cases hq : q = pl
    · subst hq
      simp only [upS_same] at hy
      exact hS y hy
    · simp only [upS_other _ _ hq] at hy
      exact h.sx q y hy
/-- The list of free places is another one. -/
theorem Am.In.setFree (h : x.In w S p) (hg : w.grownBy w' (Value.slice x.fa x.fn x.fc).ownBlock) {fa : Option Addr} {fn fc : Nat} {fr : List Nat} (hown : OwnG EI 3 w' 0 fa fn fc fr)
    (hat : ∀ y, fa = some y → (Value.slice x.fa x.fn x.fc).ownBlock = some y.block ∨ y.block = w.heap.size) : { x with fa := fa, fn := fn, fc := fc, fr := fr }.In (w'.setCell ⟨p, 2, none⟩ (.slice fa fn fc)) (gr S w w') p := by
  have k : Far w w' _ 3 := ⟨hg, h.frs.ty⟩
  have hbx := (k.block h.box (by decide)).trans h.box
  have k2 := Far.set (w := w') ⟨p, 2, none⟩ (.slice fa fn fc) hbx
  have hsz := hg.size
  refine ⟨?_, (h.sls.far k (by decide)).far k2 (by decide), hown.far k2 (by decide), (h.rfs.far k (by decide)).far k2 (by decide), fun q g hq => row_far (row_far (h.row q g hq) k (by decide)) k2 (by decide), h.one, fun q => ((h.lets q).far k (by decide)).far k2 (by decide), .inl h.sp, fun y hy => .inl (h.ss y hy), fun y hy => ?_, fun y hy => .inl (h.sr y hy), fun g hg => .inl (h.sg g hg), fun q y hy => .inl (h.sx q y hy), fun b hb => ?_⟩
  · simp [World.setCell, Array.getElem?_modify, hbx]
  · rcases hat y hy with e | e
    · refine .inl ?_
      rcases h.frs.cases with ⟨c, _⟩ | ⟨b, cur, c, _⟩
      · rw [c] at e; simp [Value.ownBlock] at e
      · rw [c] at e
        obtain rfl : b = y.block := by simpa [Value.ownBlock] using e
        have := h.sf _ c
        exact this
    · refine .inr ⟨by omega, ?_⟩
      obtain ⟨b, o, _⟩ := y
      rcases hown.cases with ⟨c, _⟩ | ⟨b', cur, c, _, hh, _⟩
      · rw [c] at hy; cases hy
      · rw [c] at hy
        simp only [Option.some.injEq, Addr.mk.injEq] at hy
        rw [← hy.1]
        exact (Array.getElem?_eq_some_iff.1 hh).1
  · simp only [World.setCell, Array.size_modify]
    exact hb.elim (fun hb => Nat.lt_of_lt_of_le (h.lt b hb) hsz) And.right
/-- The list of refs is another one. -/
theorem Am.In.setRefs (h : x.In w S p) (hg : w.grownBy w' (Value.slice x.ra x.rn x.rc).ownBlock) {ra : Option Addr} {rn rc : Nat} {rf : List Rf} (hown : OwnG ER 72 w' 0 ra rn rc rf)
    (hat : ∀ y, ra = some y → (Value.slice x.ra x.rn x.rc).ownBlock = some y.block ∨ w.heap.size ≤ y.block) : { x with ra := ra, rn := rn, rc := rc, rf := rf }.In (w'.setCell ⟨p, 3, none⟩ (.slice ra rn rc)) (gr S w w') p := by
  have k : Far w w' _ 72 := ⟨hg, h.rfs.ty⟩
  have hbx := (k.block h.box (by decide)).trans h.box
  have k2 := Far.set (w := w') ⟨p, 3, none⟩ (.slice ra rn rc) hbx
  have hsz := hg.size
  refine ⟨?_, (h.sls.far k (by decide)).far k2 (by decide), (h.frs.far k (by decide)).far k2 (by decide), hown.far k2 (by decide), fun q g hq => row_far (row_far (h.row q g hq) k (by decide)) k2 (by decide), h.one, fun q => ((h.lets q).far k (by decide)).far k2 (by decide), .inl h.sp, fun y hy => .inl (h.ss y hy), fun y hy => .inl (h.sf y hy), fun y hy => ?_, fun g hg => .inl (h.sg g hg), fun q y hy => .inl (h.sx q y hy), fun b hb => ?_⟩
  · simp [World.setCell, Array.getElem?_modify, hbx]
  · rcases hat y hy with e | e
    · refine .inl ?_
      rcases h.rfs.cases with ⟨c, _⟩ | ⟨b, cur, c, _⟩
      · rw [c] at e; simp [Value.ownBlock] at e
      · rw [c] at e
        obtain rfl : b = y.block := by simpa [Value.ownBlock] using e
        have := h.sr _ c
        exact this
    · refine .inr ⟨e, ?_⟩
      obtain ⟨b, o, _⟩ := y
      rcases hown.cases with ⟨c, _⟩ | ⟨b', cur, c, _, hh, _⟩
      · rw [c] at hy; cases hy
      · rw [c] at hy
        simp only [Option.some.injEq, Addr.mk.injEq] at hy
        rw [← hy.1]
        exact (Array.getElem?_eq_some_iff.1 hh).1
  · simp only [World.setCell, Array.size_modify]
    exact hb.elim (fun hb => Nat.lt_of_lt_of_le (h.lt b hb) hsz) And.right
/-- A slab more, all of its slots empty. -/
theorem Am.In.setSlabs (h : x.In w S p) (hg : w.grownBy w' (Value.slice x.sa x.sn x.sc).ownBlock) {sa : Option Addr} {sc g : Nat} (hown : OwnG EP 74 w' 0 sa (x.sn + 1) sc (x.sl ++ [g]))
    (hat : ∀ y, sa = some y → (Value.slice x.sa x.sn x.sc).ownBlock = some y.block ∨ w.heap.size ≤ y.block) {w0 : World} (h0 : w0.heap.size ≤ w.heap.size) (hgs : ¬ S g ∧ w0.heap.size ≤ g) (hrow : w.rowIs g 86 64 (fun j => scell (slot0 0) (j % 2))) (htop : ∀ q, 32 * x.sn ≤ q → x.Sl q = slot0 0) :
    { x with sa := sa, sn := x.sn + 1, sc := sc, sl := x.sl ++ [g] }.In (w'.setCell ⟨p, 1, none⟩ (.slice sa (x.sn + 1) sc)) (gr S w0 w') p := by
  have k : Far w w' _ 74 := ⟨hg, h.sls.ty⟩
  have hbx := (k.block h.box (by decide)).trans h.box
  have k2 := Far.set (w := w') ⟨p, 1, none⟩ (.slice sa (x.sn + 1) sc) hbx
  have hsz := hg.size
  have hl : x.sl.length = x.sn := h.sls.1
  have hcase : ∀ q g', (x.sl ++ [g])[q]? = some g' → x.sl[q]? = some g' ∨ (q = x.sn ∧ g' = g) := fun q g' hq => by
    by_cases c : q < x.sl.length
    · rw [List.getElem?_append_left c] at hq; exact .inl hq
    · rw [List.getElem?_append_right (by omega)] at hq
      by_cases c2 : q - x.sl.length = 0
      · rw [c2] at hq; simp at hq; exact .inr ⟨by omega, hq.symm⟩
      · rw [List.getElem?_eq_none (by simp; omega)] at hq; cases hq
  refine ⟨?_, hown.far k2 (by decide), (h.frs.far k (by decide)).far k2 (by decide), (h.rfs.far k (by decide)).far k2 (by decide), fun q g' hq => ?_, fun q q' g' h1 h2 => ?_, fun q => ((h.lets q).far k (by decide)).far k2 (by decide), .inl h.sp, fun y hy => ?_, fun y hy => .inl (h.sf y hy), fun y hy => .inl (h.sr y hy), fun g' hg => ?_, fun q y hy => .inl (h.sx q y hy), fun b hb => ?_⟩
  · simp [World.setCell, Array.getElem?_modify, hbx]
  · rcases hcase q g' hq with c | ⟨rfl, rfl⟩
    · exact row_far (row_far (h.row q g' c) k (by decide)) k2 (by decide)
    · refine (row_far (row_far hrow k (by decide)) k2 (by decide)).congr fun i hi => ?_
      simp only [htop (32 * x.sn + i / 2) (by omega)]
  · rcases hcase q g' h1 with c | ⟨c0, c1⟩ <;> rcases hcase q' g' h2 with d | ⟨d0, d1⟩
    · exact h.one _ _ _ c d
    · exact absurd (d1 ▸ h.sg _ (List.mem_of_getElem? c)) hgs.1
    · exact absurd (c1 ▸ h.sg _ (List.mem_of_getElem? d)) hgs.1
    · exact c0.trans d0.symm
  · rcases hat y hy with e | e
    · refine .inl ?_
      rcases h.sls.cases with ⟨c, _⟩ | ⟨b, cur, c, _⟩
      · rw [c] at e; simp [Value.ownBlock] at e
      · rw [c] at e
        obtain rfl : b = y.block := by simpa [Value.ownBlock] using e
        have := h.ss _ c
        exact this
    · refine .inr ⟨by omega, ?_⟩
      obtain ⟨b, o, _⟩ := y
      rcases hown.cases with ⟨c, _⟩ | ⟨b', cur, c, _, hh, _⟩
      · rw [c] at hy; cases hy
      · rw [c] at hy
        simp only [Option.some.injEq, Addr.mk.injEq] at hy
        rw [← hy.1]
        exact (Array.getElem?_eq_some_iff.1 hh).1
  · simp only [List.mem_append, List.mem_singleton] at hg
    rcases hg with c | rfl
    · exact .inl (h.sg _ c)
    · exact .inr ⟨hgs.2, Nat.lt_of_lt_of_le hrow.lt hsz⟩
  · simp only [World.setCell, Array.size_modify]
    exact hb.elim (fun hb => Nat.lt_of_lt_of_le (h.lt b hb) hsz) And.right
end
/-- An arena at p of version v says T, all of it in S; N bounds how much was done. -/
def Ar (w : World) (S : Nat → Prop) (p : Nat) (v : Int) (T : Tx) (N : Nat) : Prop := ∃ x : Am, x.In w S p ∧ x.v = v ∧ Inv v (32 * x.sn) x.fr x.rf x.Sl T N
theorem Ar.kept {w w' : World} {S : Nat → Prop} {p N : Nat} {v : Int} {T : Tx} (h : Ar w S p v T N) (hb : ∀ b, S b → w'.heap[b]? = w.heap[b]?) (hs : w.heap.size ≤ w'.heap.size) : Ar w' S p v T N := by
  obtain ⟨x, h, r⟩ := h
  exact ⟨x, h.kept hb hs, r⟩
theorem Ar.below {w w' : World} {S : Nat → Prop} {p N : Nat} {v : Int} {T : Tx} (h : Ar w S p v T N) (hb : Below w.heap.size w w') : Ar w' S p v T N := by
  obtain ⟨x, h, r⟩ := h
  exact ⟨x, h.below hb, r⟩
theorem Ar.lt {w : World} {S : Nat → Prop} {p N : Nat} {v : Int} {T : Tx} (h : Ar w S p v T N) : ∀ b, S b → b < w.heap.size := by
  obtain ⟨x, h, r⟩ := h
  exact h.lt
theorem Ar.other {w w' : World} {S S2 : Nat → Prop} {p N : Nat} {v : Int} {T : Tx} (h : Ar w S p v T N) (k : Tou S2 w w') (hd : ∀ b, S b → ¬ S2 b) : Ar w' S p v T N :=
  h.kept (fun b hb => k.block b (h.lt b hb) (hd b hb)) k.size
end Go.Proofs.Ytafnonmpanpfkaa
