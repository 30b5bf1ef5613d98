/- What scode.Take answers: a contract, for every slice of bytes; and how a label of sets lies in an array of three, set by set. -/
import Derived.Test.YtkmpmljohjelhaaSc
import Derived.Test.YtkmpmljohjelhaaSvRead
import Derived.Test.YtkmpmljohjelhaaJBase
namespace Go.Proofs.Ytkmpmljohjelhaa
open Go.RowKit
set_option maxRecDepth 100000

/-- A slot of a run. -/
def slt (a : Act) (i : Nat) : Value := a.tmps.getD i undef
/-- A call that hands back a label of sets by a variable of its own, and two more. -/
theorem ret_sv3 {fn : Func} {p u v : Tmp} (h : fn.results = #[.cell p 28, .tmp u, .tmp v]) (tmps : Array Value) (w : World) (g : Nat) (x : Sv) (hp : tmps.getD p undef = .pointer (some ⟨g, 0, none⟩))
    (hg : w.heap[g]? = some (.cells #[.slice x.a1 x.n1 x.c1, .slice x.a2 x.n2 x.c2, .slice x.a3 x.n3 x.c3] 28 (0, 0))) : (results fn tmps).run Try.prog w = .ok (.tuple #[.agg #[.slice x.a1 x.n1 x.c1, .slice x.a2 x.n2 x.c2, .slice x.a3 x.n3 x.c3], tmps.getD u undef, tmps.getD v undef]) w := by
  have hp' : tmps[p]?.getD undef = .pointer (some ⟨g, 0, none⟩) := by simpa using hp
  simp [results, h, hp', asAddr, run_loadVar_row w g 28 28 _ (0, 0) _ hg Try.underlying28 rfl (by kernel_rfl)]
/-- 'b[k:]' of bytes, whatever their address. -/
theorem Row.from {w : World} {a : Option Addr} {n cap : Nat} {xs : List Int} (h : Row w a n cap xs) (k : Nat) (hk : k ≤ n) : Row w (if cap = k then a else a.map (fun x => x.add k)) (n - k) (cap - k) (xs.drop k) := by
  have hc := h.cap_le
  have hl := h.len
  by_cases h0 : n = k
  · subst h0
    have hnil : xs.drop n = [] := by rw [List.drop_eq_nil_iff]; omega
    rw [hnil, Nat.sub_self]
    cases a with
    | none =>
      have := h.2.2.2.2.1 rfl
      obtain ⟨rfl, rfl⟩ := this
      simpa using Row.nil w
    | some x =>
      by_cases hcn : cap = n
      · rw [if_pos hcn]; exact Row.none_of _ _ _ (by omega)
      · rw [if_neg hcn]; exact Row.none_of _ _ _ (by omega)
  · obtain ⟨b, off, rfl, _⟩ := h.at (by omega)
    rw [if_neg (by omega)]
    have := h.tail k hk
    by_cases hk0 : k = 0
    · subst hk0; simpa [Addr.add] using h
    · simpa [Addr.add, hk0] using this
theorem OwnW.grown {e : TypeId} {w w' : World} {B n cap : Nat} {a : Option Addr} {xs : List Int} {r : Nat} (h : OwnW e w B a n cap xs) (hg : w.grownBy w' (some r)) (hr : r < B) : OwnW e w' B a n cap xs := by
  rcases h.cases with ⟨rfl, rfl, rfl, rfl⟩ | ⟨g, cur, rfl, hB, hk, hn, hm, hs, ht⟩
  · exact OwnW.of_nil _ _ _
  · exact OwnW.of_cells hB ((hg.block g (Array.getElem?_eq_some_iff.1 hk).1 (by simp; omega)).trans hk) hn hm hs h.1 h.2.1 ht

/-- A call's own two variables: the one that it hands back, at w's end, still empty; and an array of three sets behind it. -/
structure ArAt (w wr : World) (x : Sv) : Prop where
  hG : wr.heap[w.heap.size]? = some (.cells #[.slice none 0 0, .slice none 0 0, .slice none 0 0] 28 (0, 0))
  hA : wr.heap[w.heap.size + 1]? = some (.cells #[.slice x.a1 x.n1 x.c1, .slice x.a2 x.n2 x.c2, .slice x.a3 x.n3 x.c3] 77 (0, 0))
  o1 : OwnW 42 wr (w.heap.size + 2) x.a1 x.n1 x.c1 x.xs
  o2 : OwnW 42 wr (w.heap.size + 2) x.a2 x.n2 x.c2 x.ys
  o3 : OwnW 42 wr (w.heap.size + 2) x.a3 x.n3 x.c3 x.zs
  bel : Below w.heap.size w wr
  sz : w.heap.size + 2 ≤ wr.heap.size
section
variable {w wr : World} {x : Sv}
theorem ArAt.init (w : World) : ArAt w ((w.alloc (.cells #[.slice none 0 0, .slice none 0 0, .slice none 0 0] 28)).alloc (.cells #[.slice none 0 0, .slice none 0 0, .slice none 0 0] 77)) Sv.none :=
  ⟨by rw [heap_alloc_old _ _ (by simp)]; exact sv_heap_new_at _ _ _ rfl, sv_heap_new_at _ _ _ (by simp), OwnW.of_nil _ _ _, OwnW.of_nil _ _ _, OwnW.of_nil _ _ _, sv_two_allocs _ _ _, by simp⟩
theorem ArAt.below {w' : World} (h : ArAt w wr x) (hb : Below wr.heap.size wr w') : ArAt w w' x :=
  ⟨(hb.block _ (by have := h.sz; omega)).trans h.hG, (hb.block _ (by have := h.sz; omega)).trans h.hA, h.o1.below hb, h.o2.below hb, h.o3.below hb, ext_trans h.bel hb, by have := h.sz; have := hb.size; omega⟩
theorem ArAt.c0 (h : ArAt w wr x) : wr.cell? ⟨w.heap.size + 1, 0, none⟩ = some (.slice x.a1 x.n1 x.c1) := sv_cell_of_heap h.hA 0 _ rfl
theorem ArAt.c1 (h : ArAt w wr x) : wr.cell? ⟨w.heap.size + 1, 1, none⟩ = some (.slice x.a2 x.n2 x.c2) := sv_cell_of_heap h.hA 1 _ rfl
theorem ArAt.c2 (h : ArAt w wr x) : wr.cell? ⟨w.heap.size + 1, 2, none⟩ = some (.slice x.a3 x.n3 x.c3) := sv_cell_of_heap h.hA 2 _ rfl
theorem ArAt.g0 (h : ArAt w wr x) : wr.cell? ⟨w.heap.size, 0, none⟩ = some (.slice none 0 0) := sv_cell_of_heap h.hG 0 _ rfl
theorem ArAt.g1 (h : ArAt w wr x) : wr.cell? ⟨w.heap.size, 1, none⟩ = some (.slice none 0 0) := sv_cell_of_heap h.hG 1 _ rfl
theorem ArAt.g2 (h : ArAt w wr x) : wr.cell? ⟨w.heap.size, 2, none⟩ = some (.slice none 0 0) := sv_cell_of_heap h.hG 2 _ rfl
theorem ArAt.fA (h : ArAt w wr x) (i : Nat) : wr.frozen? ⟨w.heap.size + 1, i, none⟩ = false := frozen_of_row wr _ i _ 77 h.hA
theorem ArAt.fG (h : ArAt w wr x) (i : Nat) : wr.frozen? ⟨w.heap.size, i, none⟩ = false := frozen_of_row wr _ i _ 28 h.hG
theorem ArAt.put0 {B : Nat} {so : Option Addr} {k co : Nat} {l : List Int} (h : ArAt w wr x) (ho : OwnW 42 wr B so k co l) (hB : w.heap.size + 2 ≤ B) : ArAt w (wr.setCell ⟨w.heap.size + 1, 0, none⟩ (.slice so k co)) { x with a1 := so, n1 := k, c1 := co, xs := l } := by
  have g := sv_grown_set wr (w.heap.size + 1) 0 (.slice so k co)
  refine ⟨(g.block _ (by have := h.sz; omega) (by simp)).trans h.hG, by rw [heap_setCell_same wr _ 0 _ 77 _ h.hA]; rfl, (ho.mono hB).grown g (by omega), h.o2.grown g (by omega), h.o3.grown g (by omega), h.bel.setCell (show w.heap.size ≤ w.heap.size + 1 by omega) _, by simp [World.setCell]; exact h.sz⟩
theorem ArAt.put1 {B : Nat} {so : Option Addr} {k co : Nat} {l : List Int} (h : ArAt w wr x) (ho : OwnW 42 wr B so k co l) (hB : w.heap.size + 2 ≤ B) : ArAt w (wr.setCell ⟨w.heap.size + 1, 1, none⟩ (.slice so k co)) { x with a2 := so, n2 := k, c2 := co, ys := l } := by
  have g := sv_grown_set wr (w.heap.size + 1) 1 (.slice so k co)
  refine ⟨(g.block _ (by have := h.sz; omega) (by simp)).trans h.hG, by rw [heap_setCell_same wr _ 1 _ 77 _ h.hA]; rfl, h.o1.grown g (by omega), (ho.mono hB).grown g (by omega), h.o3.grown g (by omega), h.bel.setCell (show w.heap.size ≤ w.heap.size + 1 by omega) _, by simp [World.setCell]; exact h.sz⟩
theorem ArAt.put2 {B : Nat} {so : Option Addr} {k co : Nat} {l : List Int} (h : ArAt w wr x) (ho : OwnW 42 wr B so k co l) (hB : w.heap.size + 2 ≤ B) : ArAt w (wr.setCell ⟨w.heap.size + 1, 2, none⟩ (.slice so k co)) { x with a3 := so, n3 := k, c3 := co, zs := l } := by
  have g := sv_grown_set wr (w.heap.size + 1) 2 (.slice so k co)
  refine ⟨(g.block _ (by have := h.sz; omega) (by simp)).trans h.hG, by rw [heap_setCell_same wr _ 2 _ 77 _ h.hA]; rfl, h.o1.grown g (by omega), h.o2.grown g (by omega), (ho.mono hB).grown g (by omega), h.bel.setCell (show w.heap.size ≤ w.heap.size + 1 by omega) _, by simp [World.setCell]; exact h.sz⟩
theorem ArAt.in_ (h : ArAt w wr x) : x.In wr := ⟨h.o1.row, h.o2.row, h.o3.row⟩
/-- The label is put into the variable that is handed back. -/
theorem ArAt.into (h : ArAt w wr x) : (put3 wr w.heap.size x).heap[w.heap.size]? = some (.cells #[.slice x.a1 x.n1 x.c1, .slice x.a2 x.n2 x.c2, .slice x.a3 x.n3 x.c3] 28 (0, 0)) ∧ x.In (put3 wr w.heap.size x) ∧ Below w.heap.size w (put3 wr w.heap.size x) :=
  ⟨put3_heap h.hG x, ⟨put3_row h.o1.row (ownw_ne h.o1 (by omega)), put3_row h.o2.row (ownw_ne h.o2 (by omega)), put3_row h.o3.row (ownw_ne h.o3 (by omega))⟩, put3_below h.bel (Nat.le_refl _) x⟩
/-- And nothing, in an error's place. -/
theorem ArAt.fail (h : ArAt w wr x) : (put3 wr w.heap.size Sv.none).heap[w.heap.size]? = some (.cells #[.slice none 0 0, .slice none 0 0, .slice none 0 0] 28 (0, 0)) ∧ Below w.heap.size w (put3 wr w.heap.size Sv.none) := ⟨put3_heap h.hG Sv.none, put3_below h.bel (Nat.le_refl _) _⟩
end

/-- Three sets that are the call's own, in blocks from B on. -/
structure Sv.Own (x : Sv) (W : World) (B : Nat) : Prop where
  o1 : OwnW 42 W B x.a1 x.n1 x.c1 x.xs
  o2 : OwnW 42 W B x.a2 x.n2 x.c2 x.ys
  o3 : OwnW 42 W B x.a3 x.n3 x.c3 x.zs
theorem Sv.Own.in {x : Sv} {W : World} {B : Nat} (h : x.Own W B) : x.In W := ⟨h.o1.row, h.o2.row, h.o3.row⟩
theorem Sv.Own.below {x : Sv} {W W' : World} {B : Nat} (h : x.Own W B) (hb : Below W.heap.size W W') : x.Own W' B := ⟨h.o1.below hb, h.o2.below hb, h.o3.below hb⟩
theorem Sv.Own.grown {x : Sv} {W W' : World} {B R : Nat} (h : x.Own W B) (hg : W.grownBy W' (some R)) (hr : R < B) : x.Own W' B := ⟨h.o1.grown hg hr, h.o2.grown hg hr, h.o3.grown hg hr⟩
theorem Sv.Own.mono {x : Sv} {W : World} {B B' : Nat} (h : x.Own W B) (hB : B' ≤ B) : x.Own W B' := ⟨h.o1.mono hB, h.o2.mono hB, h.o3.mono hB⟩
theorem Sv.none_own (W : World) (B : Nat) : Sv.none.Own W B := ⟨OwnW.of_nil _ _ _, OwnW.of_nil _ _ _, OwnW.of_nil _ _ _⟩
theorem put3_grown (W : World) (R : Nat) (x : Sv) : W.grownBy (put3 W R x) (some R) := ((sv_grown_set W R 0 _).trans (sv_grown_set _ R 1 _)).trans (sv_grown_set _ R 2 _)

/-- Where a run stands when i sets are read. -/
def StAt (bs : List Int) (i n : Nat) (x : Sv) : Prop :=
  (i = 0 ∧ n = 0 ∧ x = Sv.none) ∨ (i = 1 ∧ tsE bs = 0 ∧ n = k1 bs ∧ x.xs = tsY bs) ∨ (i = 2 ∧ tsE bs = 0 ∧ tsE (bs.drop (k1 bs)) = 0 ∧ n = k2 bs ∧ x.xs = tsY bs ∧ x.ys = tsY (bs.drop (k1 bs))) ∨
  (i = 3 ∧ tsE bs = 0 ∧ tsE (bs.drop (k1 bs)) = 0 ∧ tsE (bs.drop (k2 bs)) = 0 ∧ n = k3 bs ∧ x.xs = tsY bs ∧ x.ys = tsY (bs.drop (k1 bs)) ∧ x.zs = tsY (bs.drop (k2 bs)))
/-- What a call that takes a label of sets off bytes answers. -/
def STake (F : FuncId) : Prop := ∀ (a : Option Addr) (len cap : Nat) (bs : List Int) (w : World), Row w a len cap bs → len ≤ 1000000 →
  Calls Try.prog F #[.slice a len cap] w fun e w' => ∃ x : Sv, e = .returned (.tuple #[.agg #[.slice x.a1 x.n1 x.c1, .slice x.a2 x.n2 x.c2, .slice x.a3 x.n3 x.c3], .int .i64 (svN bs), .int .i64 (svE bs)]) ∧ x.In w' ∧ (x.xs = svX bs ∧ x.ys = svY bs ∧ x.zs = svZ bs) ∧ Below w.heap.size w w'
/-- The same, and the sets are the call's own. -/
def STakeO (F : FuncId) : Prop := ∀ (a : Option Addr) (len cap : Nat) (bs : List Int) (w : World), Row w a len cap bs → len ≤ 1000000 →
  Calls Try.prog F #[.slice a len cap] w fun e w' => ∃ x : Sv, e = .returned (.tuple #[.agg #[.slice x.a1 x.n1 x.c1, .slice x.a2 x.n2 x.c2, .slice x.a3 x.n3 x.c3], .int .i64 (svN bs), .int .i64 (svE bs)]) ∧ x.Own w' w.heap.size ∧ (x.xs = svX bs ∧ x.ys = svY bs ∧ x.zs = svZ bs) ∧ Below w.heap.size w w'
theorem STakeO.plain {F : FuncId} (h : STakeO F) : STake F := fun a len cap bs w hr hbd => by
  refine (h a len cap bs w hr hbd).mono ?_
  rintro e w1 ⟨x, h1, h2, h3, h4⟩
  exact ⟨x, h1, h2.in, h3, h4⟩
theorem ts_nil : tsE [] = 3 ∧ tsN [] = 0 ∧ tsY [] = [] := by decide
end Go.Proofs.Ytkmpmljohjelhaa
