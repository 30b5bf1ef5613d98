/- 'begun' of quota's laws answers true, whatever the world; an object in a variable. -/
import Derived.Test.YtdonhmfjhnmnjaaQtSame
namespace Go.Proofs.Ytdonhmfjhnmnjaa
open Go.RowKit
set_option maxRecDepth 100000

/-- At g there is an object that has nothing but numbers. -/
def OvAt (W : World) (g : Nat) (i k d q u n : Int) : Prop := W.heap[g]? = some (.cells #[.int .u64 i, .int .i64 k, .int .u8 d, .slice none 0 0, .slice none 0 0, .slice none 0 0, .slice none 0 0, .int .i64 q, .int .i64 u, .int .i64 n, .slice none 0 0, .slice none 0 0, .slice none 0 0] 32 (0, 0))
section
variable {w W : World} {g : Nat} {i k d q u n : Int}
theorem OvAt.lt (h : OvAt w g i k d q u n) : g < w.heap.size := (Array.getElem?_eq_some_iff.1 h).1
theorem OvAt.below (h : OvAt w g i k d q u n) (hb : Below w.heap.size w W) : OvAt W g i k d q u n := (hb.block _ h.lt).trans h
theorem OvAt.alloc (h : OvAt w g i k d q u n) (o : Obj) : OvAt (w.alloc o) g i k d q u n := h.below (below_alloc _ _)
theorem OvAt.new (w : World) (i k d q u n : Int) : OvAt (w.alloc (.cells #[.int .u64 i, .int .i64 k, .int .u8 d, .slice none 0 0, .slice none 0 0, .slice none 0 0, .slice none 0 0, .int .i64 q, .int .i64 u, .int .i64 n, .slice none 0 0, .slice none 0 0, .slice none 0 0] 32)) w.heap.size i k d q u n := heap_alloc_new w _
theorem OvAt.cells (h : OvAt w g i k d q u n) : w.cell? ⟨g, 0, none⟩ = some (.int .u64 i) ∧ w.cell? ⟨g, 1, none⟩ = some (.int .i64 k) ∧ w.cell? ⟨g, 2, none⟩ = some (.int .u8 d) ∧ w.cell? ⟨g, 3, none⟩ = some (.slice none 0 0) ∧ w.cell? ⟨g, 4, none⟩ = some (.slice none 0 0) ∧ w.cell? ⟨g, 5, none⟩ = some (.slice none 0 0) ∧ w.cell? ⟨g, 6, none⟩ = some (.slice none 0 0) ∧ w.cell? ⟨g, 7, none⟩ = some (.int .i64 q) ∧ w.cell? ⟨g, 8, none⟩ = some (.int .i64 u) ∧ w.cell? ⟨g, 9, none⟩ = some (.int .i64 n) ∧ w.cell? ⟨g, 10, none⟩ = some (.slice none 0 0) ∧ w.cell? ⟨g, 11, none⟩ = some (.slice none 0 0) ∧ w.cell? ⟨g, 12, none⟩ = some (.slice none 0 0) := cells_ov h
end
@[go_sem] theorem run_fieldU (w : World) (i k d q u n : Int) : (Instr.field 32 (ov i k d q u n) 5).run Try.prog w = .ok (.int .i64 u) w := by kernel_rfl
set_option maxHeartbeats 1000000 in
theorem begun15_true (w : World) : Calls Try.prog 6 #[] w fun e w' => e = .returned (.bool true) ∧ Below w.heap.size w w' := by
  go_enter Try.func6, Try.ntmps6
  go_wp2_with fail
  refine (add_nil 0 1 0 9 4 0 5 _ (by omega) (by unfold I64; omega)).mono ?_
  rintro e w1 ⟨rfl, b1⟩
  rw [show addB 0 1 0 9 4 0 5 = ov 0 1 0 9 9 0 from rfl, show addE 9 4 5 = 0 from rfl]
  go_wp2_with fail
  have a1 := OvAt.new w1 0 1 0 9 9 0
  refine (add_nil 0 1 0 9 9 0 1 _ (by omega) (by unfold I64; omega)).mono ?_
  rintro e w2 ⟨rfl, b2⟩
  rw [show addB 0 1 0 9 9 0 1 = ov 0 0 0 0 0 0 from rfl, show addE 9 9 1 = 10 from rfl]
  replace a1 := a1.below b2
  replace b2 := ext_trans (ext_trans b1 (below_alloc _ _)) b2
  clear b1
  go_wp2_with fail
  refine (cost_any 0 2 0 0 0 0 _ _ _ _ _ _ _ _ _ _ (by omega) (by omega)).mono ?_
  rintro e w3 ⟨rfl, b3⟩
  rw [show costV 2 0 1 = 2 from rfl]
  replace a1 := (a1.below (two_allocsQ _ _ _)).below b3
  replace b3 := ext_trans (ext_trans b2 (two_allocsQ _ _ _)) b3
  clear b2
  obtain ⟨c0, c1, c2, c3, c4, c5, c6, c7, c8, c9, c10, c11, c12⟩ := a1.cells
  go_wp2_with fail
  refine (sub_nil 0 1 0 9 9 0 2 _ (by omega) (by unfold I64; omega)).mono ?_
  rintro e w4 ⟨rfl, b4⟩
  rw [show subU 9 2 = 7 from rfl]
  replace b4 := ext_trans b3 b4
  go_wp2_with fail
  go_ret
  exact ⟨rfl, b4⟩
end Go.Proofs.Ytdonhmfjhnmnjaa
