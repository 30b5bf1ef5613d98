/- A label of sets in memory: three slices, what each reads as, and how it lies in a variable. -/
import Derived.Test.YtdoemkncgfgkhaaRefOps
import Derived.Test.YtdoemkncgfgkhaaSetMath
namespace Go.Proofs.Ytdoemkncgfgkhaa
open Go.RowKit
set_option maxRecDepth 100000

/-- Three slices, and what each reads as. -/
structure Sv where
  a1 : Option Addr
  n1 : Nat
  c1 : Nat
  xs : List Int
  a2 : Option Addr
  n2 : Nat
  c2 : Nat
  ys : List Int
  a3 : Option Addr
  n3 : Nat
  c3 : Nat
  zs : List Int
structure Sv.In (x : Sv) (w : World) : Prop where
  r1 : RowW w x.a1 x.n1 x.c1 x.xs
  r2 : RowW w x.a2 x.n2 x.c2 x.ys
  r3 : RowW w x.a3 x.n3 x.c3 x.zs
theorem Sv.In.below {x : Sv} {w w' : World} (h : x.In w) (hb : Below w.heap.size w w') : x.In w' := ⟨h.r1.below hb, h.r2.below hb, h.r3.below hb⟩
/-- The same with an empty third set. -/
def Sv.opened (x : Sv) : Sv := { x with a3 := none, n3 := 0, c3 := 0, zs := [] }
theorem Sv.In.opened {x : Sv} {w : World} (h : x.In w) : x.opened.In w := ⟨h.r1, h.r2, RowW.nil _⟩
def Sv.none : Sv := ⟨.none, 0, 0, [], .none, 0, 0, [], .none, 0, 0, []⟩
theorem Sv.none_in (w : World) : Sv.none.In w := ⟨RowW.nil _, RowW.nil _, RowW.nil _⟩

theorem sv_two_allocs (w : World) (x y : Obj) : Below w.heap.size w ((w.alloc x).alloc y) := ext_trans (below_alloc _ _) (below_alloc _ _)
theorem sv_cell_old {w : World} {p : Addr} {v : Value} (o : Obj) (h : w.cell? p = some v) : (w.alloc o).cell? p = some v := by rw [(below_alloc w o).cell (lt_of_cell h)]; exact h
theorem sv_cell_of_heap {w : World} {g : Nat} {cs : Array Value} {e : TypeId} {fz : Nat × Nat} (h : w.heap[g]? = some (.cells cs e fz)) (i : Nat) (v : Value) (hv : cs[i]? = some v) : w.cell? ⟨g, i, none⟩ = some v := by
  rw [cell_of_row w g i cs e fz h]; exact hv
theorem sv_heap_new_at (w : World) (o : Obj) (g : Nat) (hg : w.heap.size = g) : (w.alloc o).heap[g]? = some o := by subst hg; exact heap_alloc_new w o

theorem one_sv (w : World) (x : Sv) : ∀ W, Below (w.alloc (Obj.cells #[.slice x.a1 x.n1 x.c1, .slice x.a2 x.n2 x.c2, .slice x.a3 x.n3 x.c3] 27)).heap.size (w.alloc (Obj.cells #[.slice x.a1 x.n1 x.c1, .slice x.a2 x.n2 x.c2, .slice x.a3 x.n3 x.c3] 27)) W → W.cell? ⟨w.heap.size, 0, none⟩ = some (.slice x.a1 x.n1 x.c1) ∧ W.cell? ⟨w.heap.size, 1, none⟩ = some (.slice x.a2 x.n2 x.c2) ∧ W.cell? ⟨w.heap.size, 2, none⟩ = some (.slice x.a3 x.n3 x.c3) ∧ Below w.heap.size w W := fun W h =>
  ⟨by rw [h.cell (by simp)]; simp, by rw [h.cell (by simp)]; simp, by rw [h.cell (by simp)]; simp, ext_trans (below_alloc _ _) h⟩
theorem two_sv (w : World) (x y : Sv) : ∀ W, Below ((w.alloc (Obj.cells #[.slice x.a1 x.n1 x.c1, .slice x.a2 x.n2 x.c2, .slice x.a3 x.n3 x.c3] 27)).alloc (Obj.cells #[.slice y.a1 y.n1 y.c1, .slice y.a2 y.n2 y.c2, .slice y.a3 y.n3 y.c3] 27)).heap.size ((w.alloc (Obj.cells #[.slice x.a1 x.n1 x.c1, .slice x.a2 x.n2 x.c2, .slice x.a3 x.n3 x.c3] 27)).alloc (Obj.cells #[.slice y.a1 y.n1 y.c1, .slice y.a2 y.n2 y.c2, .slice y.a3 y.n3 y.c3] 27)) W →
    W.cell? ⟨w.heap.size, 0, none⟩ = some (.slice x.a1 x.n1 x.c1) ∧ W.cell? ⟨w.heap.size, 1, none⟩ = some (.slice x.a2 x.n2 x.c2) ∧ W.cell? ⟨w.heap.size, 2, none⟩ = some (.slice x.a3 x.n3 x.c3) ∧ W.cell? ⟨w.heap.size + 1, 0, none⟩ = some (.slice y.a1 y.n1 y.c1) ∧ W.cell? ⟨w.heap.size + 1, 1, none⟩ = some (.slice y.a2 y.n2 y.c2) ∧ W.cell? ⟨w.heap.size + 1, 2, none⟩ = some (.slice y.a3 y.n3 y.c3) ∧ Below w.heap.size w W := fun W h =>
  ⟨by rw [h.cell (by simp <;> omega)]; simp, by rw [h.cell (by simp <;> omega)]; simp, by rw [h.cell (by simp <;> omega)]; simp, by rw [h.cell (by simp)]; simp, by rw [h.cell (by simp)]; simp, by rw [h.cell (by simp)]; simp, ext_trans (sv_two_allocs _ _ _) h⟩

theorem sv_grown_set (W : World) (R i : Nat) (v : Value) : W.grownBy (W.setCell ⟨R, i, none⟩ v) (some R) := ⟨rfl, rfl, rfl, by simp [World.setCell], fun k _ hk => Below.heap_setCell _ _ _ _ (fun e => hk (by rw [e]))⟩
/-- The three stores that put a label into a variable at block R. -/
def put3 (W : World) (R : Nat) (x : Sv) : World := ((W.setCell ⟨R, 0, none⟩ (.slice x.a1 x.n1 x.c1)).setCell ⟨R, 1, none⟩ (.slice x.a2 x.n2 x.c2)).setCell ⟨R, 2, none⟩ (.slice x.a3 x.n3 x.c3)
theorem put3_heap {W : World} {R : Nat} {v0 v1 v2 : Value} (hR : W.heap[R]? = some (.cells #[v0, v1, v2] 27 (0, 0))) (x : Sv) : (put3 W R x).heap[R]? = some (.cells #[.slice x.a1 x.n1 x.c1, .slice x.a2 x.n2 x.c2, .slice x.a3 x.n3 x.c3] 27 (0, 0)) := by
  have h1 : (W.setCell ⟨R, 0, none⟩ (.slice x.a1 x.n1 x.c1)).heap[R]? = some (.cells #[.slice x.a1 x.n1 x.c1, v1, v2] 27 (0, 0)) := by rw [heap_setCell_same W R 0 _ 27 _ hR]; rfl
  have h2 : ((W.setCell ⟨R, 0, none⟩ (.slice x.a1 x.n1 x.c1)).setCell ⟨R, 1, none⟩ (.slice x.a2 x.n2 x.c2)).heap[R]? = some (.cells #[.slice x.a1 x.n1 x.c1, .slice x.a2 x.n2 x.c2, v2] 27 (0, 0)) := by rw [heap_setCell_same _ R 1 _ 27 _ h1]; rfl
  unfold put3
  rw [heap_setCell_same _ R 2 _ 27 _ h2]; rfl
theorem put3_row {W : World} {R : Nat} {x : Sv} {a : Option Addr} {n c : Nat} {l : List Int} (h : RowW W a n c l) (hne : ∀ p, a = some p → R ≠ p.block) : RowW (put3 W R x) a n c l :=
  have k : ∀ p, a = some p → some R ≠ some p.block := fun p hp e => hne p hp (by simpa using e)
  ((h.grown (sv_grown_set _ _ _ _) k).grown (sv_grown_set _ _ _ _) k).grown (sv_grown_set _ _ _ _) k
theorem put3_below {w W : World} {B R : Nat} (h : Below B w W) (hR : B ≤ R) (x : Sv) : Below B w (put3 W R x) := ((h.setCell hR _).setCell hR _).setCell hR _
theorem ownw_ne {e : TypeId} {w : World} {B R n cap : Nat} {so : Option Addr} {l : List Int} (h : OwnW e w B so n cap l) (hR : R < B) : ∀ p, so = some p → R ≠ p.block := fun p hp e => by
  subst hp
  rcases h.cases with ⟨h, _⟩ | ⟨g, cur, hv, hB, _⟩
  · simp at h
  · obtain rfl := Option.some.inj hv
    subst e
    exact absurd hB (Nat.not_le_of_lt hR)
/-- A call that hands back a label by a variable of its own. -/
theorem ret_sv {fn : Func} {p : Tmp} (h : fn.results = #[.cell p 27]) (tmps : Array Value) (w : World) (g : Nat) (x : Sv) (hp : tmps.getD p undef = .pointer (some ⟨g, 0, none⟩))
    (hg : w.heap[g]? = some (.cells #[.slice x.a1 x.n1 x.c1, .slice x.a2 x.n2 x.c2, .slice x.a3 x.n3 x.c3] 27 (0, 0))) : (results fn tmps).run Try.prog w = .ok (.agg #[.slice x.a1 x.n1 x.c1, .slice x.a2 x.n2 x.c2, .slice x.a3 x.n3 x.c3]) w :=
  results_cell_row h tmps w g 27 _ (0, 0) _ hp hg Try.underlying27 rfl (by kernel_rfl)
end Go.Proofs.Ytdoemkncgfgkhaa
