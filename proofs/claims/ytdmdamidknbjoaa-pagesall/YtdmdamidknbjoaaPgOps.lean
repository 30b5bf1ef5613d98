/- What the inner calls of a space answer: pages of so many bytes, a table, a span, a place. -/
import Derived.Test.YtdmdamidknbjoaaPgMem
import Derived.Deep.QuietTactic
import Derived.BigQuiet
namespace Go.Proofs.Ytdmdamidknbjoaa
open Go.RowKit
set_option maxRecDepth 100000

theorem pagesOf_any (n : Nat) (hn : n ≤ 1000) (w : World) : Calls Try.prog 19 #[.int .i64 n] w fun e w' => e = .returned (.int .i64 (pg n)) ∧ w' = w := by
  go_enter Try.func19, Try.ntmps19
  go_wp2_with fail
  go_ret
  refine ⟨?_, rfl⟩
  show Ending.returned (.int .i64 (((n : Int) + 16 - 1) / 16)) = _
  rw [show ((n : Int) + 16 - 1) / 16 = ((pg n : Nat) : Int) by unfold pg; omega]
theorem tplace_any (e : Ent) (i : Nat) (hi : i < e.n) (hn : e.n ≤ 64) (w : World) (hr : w.rowIs e.tb 3 (pg e.n) (fun j => .int .i64 (e.fr j))) :
    Calls Try.prog 24 #[tabV e, .int .i64 i] w fun x w' => x = .returned (.tuple #[.int .i64 (e.fr (i / 16)), .int .i64 ((i % 16 : Nat) : Int)]) ∧ Below w.heap.size w w' := by
  have h1 := pg_lt hi
  have h0 := below_alloc w (.cells #[.slice (some ⟨e.tb, 0, none⟩) (pg e.n) (pg e.n), .int .i64 e.n] 56)
  have c0 := (hr.alloc (.cells #[.slice (some ⟨e.tb, 0, none⟩) (pg e.n) (pg e.n), .int .i64 e.n] 56)).cell h1
  unfold tabV
  go_enter Try.func24, Try.ntmps24
  go_wp2_with fail
  go_ret2
  exact ⟨rfl, h0⟩
theorem hnew_at (w : World) (o : Obj) (g : Nat) (hg : w.heap.size = g) : (w.alloc o).heap[g]? = some o := by subst hg; exact heap_alloc_new w o
theorem hold_at (w : World) (o o2 : Obj) (g : Nat) (h : w.heap[g]? = some o2) : (w.alloc o).heap[g]? = some o2 := by
  obtain ⟨hl, _⟩ := Array.getElem?_eq_some_iff.1 h
  rw [heap_alloc_old w _ hl]; exact h
theorem pnew (w : World) (o : Obj) : ∀ {B : Nat}, B ≤ w.heap.size → Below B w (w.alloc o) := fun h => (below_alloc w o).mono h
theorem var2 {w : World} {R : Nat} {x y : Value} (h : w.heap[R]? = some (.cells #[x, y] 56 (0, 0))) : w.cell? ⟨R, 0, none⟩ = some x ∧ w.cell? ⟨R, 1, none⟩ = some y ∧ w.frozen? ⟨R, 0, none⟩ = false ∧ w.frozen? ⟨R, 1, none⟩ = false :=
  ⟨by simp [World.cell?, h], by simp [World.cell?, h], by simp [World.frozen?, h], by simp [World.frozen?, h]⟩
/-- Two stores into a table's variable. -/
def put2 (W : World) (R : Nat) (x y : Value) : World := (W.setCell ⟨R, 0, none⟩ x).setCell ⟨R, 1, none⟩ y
theorem put2_heap {W : World} {R : Nat} {v0 v1 : Value} (hR : W.heap[R]? = some (.cells #[v0, v1] 56 (0, 0))) (x y : Value) : (put2 W R x y).heap[R]? = some (.cells #[x, y] 56 (0, 0)) := by
  have h1 : (W.setCell ⟨R, 0, none⟩ x).heap[R]? = some (.cells #[x, v1] 56 (0, 0)) := by rw [heap_setCell_same W R 0 _ 56 _ hR]; rfl
  unfold put2
  rw [heap_setCell_same _ R 1 _ 56 _ h1]; rfl
theorem put2_below {w W : World} {B R : Nat} (h : Below B w W) (hR : B ≤ R) (x y : Value) : Below B w (put2 W R x y) := (h.setCell hR _).setCell hR _
/-- Results that are a table's variable, and a slot. -/
theorem ret_tab2 {fn : Func} {p u : Tmp} (h : fn.results = #[.cell p 56, .tmp u]) (tmps : Array Value) (w : World) (g : Nat) (x y : Value) (hp : tmps.getD p undef = .pointer (some ⟨g, 0, none⟩))
    (hg : w.heap[g]? = some (.cells #[x, y] 56 (0, 0))) : (results fn tmps).run Try.prog w = .ok (.tuple #[.agg #[x, y], tmps.getD u undef]) w := by
  have hp' : tmps[p]?.getD undef = .pointer (some ⟨g, 0, none⟩) := by simpa using hp
  simp [results, h, hp', asAddr, run_loadVar_row w g 56 56 _ (0, 0) _ hg Try.underlying56 rfl (by kernel_rfl)]
theorem ret_tab1 {fn : Func} {p : Tmp} (h : fn.results = #[.cell p 56]) (tmps : Array Value) (w : World) (g : Nat) (x y : Value) (hp : tmps.getD p undef = .pointer (some ⟨g, 0, none⟩))
    (hg : w.heap[g]? = some (.cells #[x, y] 56 (0, 0))) : (results fn tmps).run Try.prog w = .ok (.agg #[x, y]) w :=
  results_cell_row h tmps w g 56 _ (0, 0) _ hp hg Try.underlying56 rfl (by kernel_rfl)
section
variable {w w' : World} {S S0 : Nat → Prop} {q p K c free : Nat} {A : Mm} {g : Nat} {b : Nat → Nat} {m : Option Nat} {E : Int → Option Ent} {T : Txt}
theorem table_nil (i : Int) (w : World) : Calls Try.prog 21 #[.pointer none, .int .u64 i] w fun x w' => x = .returned (.tuple #[noTab, .int .i64 1]) ∧ Below w.heap.size w w' := by
  go_enter Try.func21, Try.ntmps21
  go_wp2_with fail
  refine bodyPost_ret (ret_tab2 rfl _ _ w.heap.size (.slice none 0 0) (.int .i64 0) rfl (hnew_at w _ _ rfl)) rfl ?_
  exact ⟨rfl, below_alloc _ _⟩
def cNo : Obj := .cells #[.slice none 0 0, .int .i64 0] 56
theorem table_none (h : Spr w S S0 q p K c A g b m E) (i : Int) (hi : U i) (he : E i = none) : Calls Try.prog 21 #[.pointer (some ⟨q, 0, none⟩), .int .u64 i] w fun x w' => x = .returned (.tuple #[noTab, .int .i64 7]) ∧ Below w.heap.size w w' := by
  have h1 := h.below (below_alloc w cNo)
  have hl := map_look h1.map i hi noTab false (by rw [he]; rfl) (by rw [he]; rfl)
  have f2 := h1.f2
  unfold cNo noTab at *
  clear h h1
  go_enter Try.func21, Try.ntmps21
  go_wp2_with fail
  refine bodyPost_ret (ret_tab2 rfl _ _ w.heap.size (.slice none 0 0) (.int .i64 0) rfl (hold_at _ _ _ _ (hnew_at w _ _ rfl))) rfl ?_
  exact ⟨rfl, (below_alloc _ _).trans (pnew _ _ (by simp))⟩
theorem table_some (h : Spr w S S0 q p K c A g b m E) (i : Int) (hi : U i) (e : Ent) (he : E i = some e) : Calls Try.prog 21 #[.pointer (some ⟨q, 0, none⟩), .int .u64 i] w fun x w' => x = .returned (.tuple #[tabV e, .int .i64 0]) ∧ Below w.heap.size w w' := by
  have h1 := h.below (below_alloc w cNo)
  have hl := map_look h1.map i hi (tabV e) true (by rw [he]; rfl) (by rw [he]; rfl)
  have f2 := h1.f2
  unfold cNo tabV at *
  clear h h1
  go_enter Try.func21, Try.ntmps21
  go_wp2_with fail
  refine bodyPost_ret (ret_tab2 rfl _ _ w.heap.size _ _ rfl (hold_at _ _ _ _ (hnew_at w _ _ rfl))) rfl ?_
  exact ⟨rfl, (below_alloc _ _).trans (pnew _ _ (by simp))⟩
theorem span_ok (h : Spr w S S0 q p K c A g b m E) (i : Int) (hi : U i) (e : Ent) (he : E i = some e) (off n : Nat) (hn : off + n ≤ e.n) : Calls Try.prog 23 #[.pointer (some ⟨q, 0, none⟩), .int .u64 i, .int .i64 off, .int .i64 n] w fun x w' => x = .returned (.tuple #[tabV e, .int .i64 0]) ∧ Below w.heap.size w w' := by
  have hB0 := below_alloc w cNo
  have h1 := h.below hB0
  have hR : (w.alloc cNo).heap[w.heap.size]? = some cNo := hnew_at w _ _ rfl
  have hs0 : (w.alloc cNo).heap.size = w.heap.size + 1 := by simp
  have h64 := (h.row i e he).2.2.2
  unfold cNo at *
  go_enter Try.func23, Try.ntmps23
  go_wp2_with fail
  refine (table_some h1 i hi e he).mono ?_
  rintro x w2 ⟨rfl, hb2⟩
  have hR2 := (hb2.block w.heap.size (by omega)).trans hR
  have hb := ext_trans hB0 hb2
  clear hR h h1 hb2 hB0 hs0
  unfold tabV
  have hR3 := hold_at _ (.cells #[.slice (some ⟨e.tb, 0, none⟩) (pg e.n) (pg e.n), .int .i64 e.n] 56) _ _ hR2
  obtain ⟨c0, c1, z0, z1⟩ := var2 hR3
  have y1 : decide ((off : Int) < 0) = false := by simp
  have y2 : decide ((n : Int) < 0) = false := by simp
  have y3 : decide ((e.n : Int) - (off : Int) < (n : Int)) = false := by simp; omega
  go_wp2_with fail
  refine bodyPost_ret (ret_tab2 rfl _ _ w.heap.size _ _ rfl (put2_heap hR3 _ _)) rfl ?_
  exact ⟨rfl, put2_below (hb.trans (pnew _ _ hb.size)) (Nat.le_refl _) _ _⟩
theorem span_range (h : Spr w S S0 q p K c A g b m E) (i : Int) (hi : U i) (e : Ent) (he : E i = some e) (off n : Int) (ho : -9223372036854775808 ≤ off ∧ off < 9223372036854775808) (hn : off < 0 ∨ n < 0 ∨ (e.n : Int) < off + n) :
    Calls Try.prog 23 #[.pointer (some ⟨q, 0, none⟩), .int .u64 i, .int .i64 off, .int .i64 n] w fun x w' => x = .returned (.tuple #[noTab, .int .i64 11]) ∧ Below w.heap.size w w' := by
  have hB0 := below_alloc w cNo
  have h1 := h.below hB0
  have hR : (w.alloc cNo).heap[w.heap.size]? = some cNo := hnew_at w _ _ rfl
  have hs0 : (w.alloc cNo).heap.size = w.heap.size + 1 := by simp
  have h64 := (h.row i e he).2.2.2
  have key : ∀ w2, w2.heap[w.heap.size]? = some cNo → Below w.heap.size w w2 → (∃ y1 y2 y3 : Bool, y1 = decide (off < 0) ∧ y2 = decide (n < 0) ∧ y3 = decide ((e.n : Int) - off < n)) := fun _ _ _ => ⟨_, _, _, rfl, rfl, rfl⟩
  clear key
  unfold cNo noTab at *
  by_cases g1 : off < 0
  · go_enter Try.func23, Try.ntmps23
    go_wp2_with fail
    refine (table_some h1 i hi e he).mono ?_
    rintro x w2 ⟨rfl, hb2⟩
    have hR2 := (hb2.block w.heap.size (by omega)).trans hR
    have hb := ext_trans hB0 hb2
    clear hR h h1 hb2 hB0 hs0
    unfold tabV
    have hR3 := hold_at _ (.cells #[.slice (some ⟨e.tb, 0, none⟩) (pg e.n) (pg e.n), .int .i64 e.n] 56) _ _ hR2
    obtain ⟨c0, c1, z0, z1⟩ := var2 hR3
    go_wp2_with fail
    refine bodyPost_ret (ret_tab2 rfl _ _ w.heap.size _ _ rfl (put2_heap hR3 _ _)) rfl ?_
    exact ⟨rfl, put2_below (hb.trans (pnew _ _ hb.size)) (Nat.le_refl _) _ _⟩
  · have y1 : decide (off < 0) = false := by simpa using g1
    by_cases g2 : n < 0
    · go_enter Try.func23, Try.ntmps23
      go_wp2_with fail
      refine (table_some h1 i hi e he).mono ?_
      rintro x w2 ⟨rfl, hb2⟩
      have hR2 := (hb2.block w.heap.size (by omega)).trans hR
      have hb := ext_trans hB0 hb2
      clear hR h h1 hb2 hB0 hs0 g1
      unfold tabV
      have hR3 := hold_at _ (.cells #[.slice (some ⟨e.tb, 0, none⟩) (pg e.n) (pg e.n), .int .i64 e.n] 56) _ _ hR2
      obtain ⟨c0, c1, z0, z1⟩ := var2 hR3
      go_wp2_with fail
      refine bodyPost_ret (ret_tab2 rfl _ _ w.heap.size _ _ rfl (put2_heap hR3 _ _)) rfl ?_
      exact ⟨rfl, put2_below (hb.trans (pnew _ _ hb.size)) (Nat.le_refl _) _ _⟩
    · have y2 : decide (n < 0) = false := by simpa using g2
      have y3 : (e.n : Int) - off < n := by omega
      go_enter Try.func23, Try.ntmps23
      go_wp2_with fail
      refine (table_some h1 i hi e he).mono ?_
      rintro x w2 ⟨rfl, hb2⟩
      have hR2 := (hb2.block w.heap.size (by omega)).trans hR
      have hb := ext_trans hB0 hb2
      have y4 : 0 ≤ off := by omega
      clear hR h h1 hb2 hB0 hs0 g2 hn y4
      unfold tabV
      have hR3 := hold_at _ (.cells #[.slice (some ⟨e.tb, 0, none⟩) (pg e.n) (pg e.n), .int .i64 e.n] 56) _ _ hR2
      obtain ⟨c0, c1, z0, z1⟩ := var2 hR3
      go_wp2_with fail
      refine bodyPost_ret (ret_tab2 rfl _ _ w.heap.size _ _ rfl (put2_heap hR3 _ _)) rfl ?_
      exact ⟨rfl, put2_below (hb.trans (pnew _ _ hb.size)) (Nat.le_refl _) _ _⟩
theorem span_none (h : Spr w S S0 q p K c A g b m E) (i : Int) (hi : U i) (he : E i = none) (off n : Int) :
    Calls Try.prog 23 #[.pointer (some ⟨q, 0, none⟩), .int .u64 i, .int .i64 off, .int .i64 n] w fun x w' => x = .returned (.tuple #[noTab, .int .i64 7]) ∧ Below w.heap.size w w' := by
  have hB0 := below_alloc w cNo
  have h1 := h.below hB0
  have hR : (w.alloc cNo).heap[w.heap.size]? = some cNo := hnew_at w _ _ rfl
  have hs0 : (w.alloc cNo).heap.size = w.heap.size + 1 := by simp
  unfold cNo noTab at *
  go_enter Try.func23, Try.ntmps23
  go_wp2_with fail
  refine (table_none h1 i hi he).mono ?_
  rintro x w2 ⟨rfl, hb2⟩
  have hR2 := (hb2.block w.heap.size (by omega)).trans hR
  have hb := ext_trans hB0 hb2
  clear hR h h1 hb2 hB0 hs0
  unfold noTab
  have hR3 := hold_at _ (.cells #[.slice none 0 0, .int .i64 0] 56) _ _ hR2
  obtain ⟨c0, c1, z0, z1⟩ := var2 hR3
  go_wp2_with fail
  refine bodyPost_ret (ret_tab2 rfl _ _ w.heap.size _ _ rfl (put2_heap hR3 _ _)) rfl ?_
  exact ⟨rfl, put2_below (hb.trans (pnew _ _ hb.size)) (Nat.le_refl _) _ _⟩
theorem span_nil (i off n : Int) (w : World) :
    Calls Try.prog 23 #[.pointer none, .int .u64 i, .int .i64 off, .int .i64 n] w fun x w' => x = .returned (.tuple #[noTab, .int .i64 1]) ∧ Below w.heap.size w w' := by
  have hB0 := below_alloc w cNo
  have hR : (w.alloc cNo).heap[w.heap.size]? = some cNo := hnew_at w _ _ rfl
  have hs0 : (w.alloc cNo).heap.size = w.heap.size + 1 := by simp
  unfold cNo noTab at *
  go_enter Try.func23, Try.ntmps23
  go_wp2_with fail
  refine (table_nil i _).mono ?_
  rintro x w2 ⟨rfl, hb2⟩
  have hR2 := (hb2.block w.heap.size (by omega)).trans hR
  have hb := ext_trans hB0 hb2
  clear hR hb2 hB0 hs0
  unfold noTab
  have hR3 := hold_at _ (.cells #[.slice none 0 0, .int .i64 0] 56) _ _ hR2
  obtain ⟨c0, c1, z0, z1⟩ := var2 hR3
  go_wp2_with fail
  refine bodyPost_ret (ret_tab2 rfl _ _ w.heap.size _ _ rfl (put2_heap hR3 _ _)) rfl ?_
  exact ⟨rfl, put2_below (hb.trans (pnew _ _ hb.size)) (Nat.le_refl _) _ _⟩
theorem isMapped_any (h : Spr w S S0 q p K c A g b m E) (i : Int) (hi : U i) (y : Bool) (hy : (E i).isSome = y) : Calls Try.prog 18 #[.pointer (some ⟨q, 0, none⟩), .int .u64 i] w fun x w' => x = .returned (.bool y) ∧ Below w.heap.size w w' := by
  obtain ⟨va, vn, vc, vk, hv⟩ : ∃ (va : Option Addr) (vn vc : Nat) (vk : Int), ((E i).map tabV).getD noTab = .agg #[.slice va vn vc, .int .i64 vk] := by
    cases E i with
    | none => exact ⟨_, _, _, _, rfl⟩
    | some e => exact ⟨_, _, _, _, rfl⟩
  have hl := map_look h.map i hi _ y hv (by rw [← hy]; cases E i <;> rfl)
  have f2 := h.f2
  clear h hv hy
  go_enter Try.func18, Try.ntmps18
  go_wp2_with fail
  go_ret
  exact ⟨rfl, below_alloc _ _⟩
theorem len_nil (i : Int) (w : World) : Calls Try.prog 15 #[.pointer none, .int .u64 i] w fun x w' => x = .returned (.tuple #[.int .i64 0, .int .i64 1]) ∧ Below w.heap.size w w' := by
  go_enter Try.func15, Try.ntmps15
  go_wp2_with fail
  refine (table_nil i _).mono ?_
  rintro x w2 ⟨rfl, hb2⟩
  unfold noTab
  go_wp2_with fail
  go_ret2
  exact ⟨rfl, hb2.trans (pnew _ _ hb2.size)⟩
theorem len_none (h : Spr w S S0 q p K c A g b m E) (i : Int) (hi : U i) (he : E i = none) : Calls Try.prog 15 #[.pointer (some ⟨q, 0, none⟩), .int .u64 i] w fun x w' => x = .returned (.tuple #[.int .i64 0, .int .i64 7]) ∧ Below w.heap.size w w' := by
  go_enter Try.func15, Try.ntmps15
  go_wp2_with fail
  refine (table_none h i hi he).mono ?_
  rintro x w2 ⟨rfl, hb2⟩
  clear h
  unfold noTab
  go_wp2_with fail
  go_ret2
  exact ⟨rfl, hb2.trans (pnew _ _ hb2.size)⟩
theorem len_some (h : Spr w S S0 q p K c A g b m E) (i : Int) (hi : U i) (e : Ent) (he : E i = some e) : Calls Try.prog 15 #[.pointer (some ⟨q, 0, none⟩), .int .u64 i] w fun x w' => x = .returned (.tuple #[.int .i64 e.n, .int .i64 0]) ∧ Below w.heap.size w w' := by
  go_enter Try.func15, Try.ntmps15
  go_wp2_with fail
  refine (table_some h i hi e he).mono ?_
  rintro x w2 ⟨rfl, hb2⟩
  clear h
  unfold tabV
  go_wp2_with fail
  go_ret2
  exact ⟨rfl, hb2.trans (pnew _ _ hb2.size)⟩
theorem pfree_nil (w : World) : Calls Try.prog 16 #[.pointer none] w fun x w' => x = .returned (.int .i64 0) ∧ Below w.heap.size w w' := by
  go_enter Try.func16, Try.ntmps16
  go_wp2_with fail
  go_ret
  exact ⟨rfl, Below.refl _ _⟩
theorem pfree_any (h : Spr w S S0 q p K c A g b m E) (u : Nat) (hu : cnt A K + u = K) : Calls Try.prog 16 #[.pointer (some ⟨q, 0, none⟩)] w fun x w' => x = .returned (.int .i64 u) ∧ Below w.heap.size w w' := by
  have f0 := h.f0
  have f1 := h.f1
  have hK := h.lid
  have hM := h.mem
  obtain ⟨t, ht⟩ : ∃ t, cnt A K = t := ⟨_, rfl⟩
  rw [ht] at hu
  have ht2 : t ≤ 512 := by omega
  have e1 : (K : Int) - (t : Int) = (u : Int) := by omega
  have hU : ∀ n, Calls Try.prog 27 #[.pointer (some ⟨p, 0, none⟩)] (w.drewN n) fun e w' => e = .returned (.int .i64 t) ∧ w' = w.drewN n := fun n => used_any (hM.kept (w' := w.drewN n) (fun _ _ => rfl) (Nat.le_refl _)) t ht
  clear hM h ht
  go_enter Try.func16, Try.ntmps16
  go_wp2_with fail
  go_quiet (first | (go_at_call 27; exact Calls.quiet_of_same (hU _)))
  go_wp2_with fail
  go_ret
  exact ⟨rfl, below_drewN (Below.refl _ _) _⟩
end
end Go.Proofs.Ytdmdamidknbjoaa
