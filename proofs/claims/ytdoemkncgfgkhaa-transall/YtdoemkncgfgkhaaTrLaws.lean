/- What the walks over trans' laws share. -/
import Derived.Test.YtdoemkncgfgkhaaTrRef
import Derived.Test.YtdoemkncgfgkhaaTrBegun
namespace Go.Proofs.Ytdoemkncgfgkhaa
open Go.RowKit
set_option maxRecDepth 100000

theorem lab_sv (w : World) (d : Int) (a : Option Addr) (n cap : Nat) (x : Sv) : ∀ W, Below ((w.alloc (Obj.cells #[.int .u8 d, .slice a n cap] 24)).alloc (Obj.cells #[.slice x.a1 x.n1 x.c1, .slice x.a2 x.n2 x.c2, .slice x.a3 x.n3 x.c3] 27)).heap.size ((w.alloc (Obj.cells #[.int .u8 d, .slice a n cap] 24)).alloc (Obj.cells #[.slice x.a1 x.n1 x.c1, .slice x.a2 x.n2 x.c2, .slice x.a3 x.n3 x.c3] 27)) W →
    ((W.cell? ⟨w.heap.size, 0, none⟩ = some (.int .u8 d) ∧ W.cell? ⟨w.heap.size, 1, none⟩ = some (.slice a n cap)) ∧ (W.cell? ⟨w.heap.size + 1, 0, none⟩ = some (.slice x.a1 x.n1 x.c1) ∧ W.cell? ⟨w.heap.size + 1, 1, none⟩ = some (.slice x.a2 x.n2 x.c2) ∧ W.cell? ⟨w.heap.size + 1, 2, none⟩ = some (.slice x.a3 x.n3 x.c3))) ∧ Below w.heap.size w W := fun W h =>
  ⟨⟨⟨by rw [h.cell (by simp <;> omega)]; simp, by rw [h.cell (by simp <;> omega)]; simp⟩, ⟨by rw [h.cell (by simp <;> omega)]; simp, by rw [h.cell (by simp <;> omega)]; simp, by rw [h.cell (by simp <;> omega)]; simp⟩⟩, ext_trans (two_allocs _ _ _) h⟩
theorem lab_lab (w : World) (d : Int) (a : Option Addr) (n cap : Nat) (d' : Int) (b : Option Addr) (m cap2 : Nat) : ∀ W, Below ((w.alloc (Obj.cells #[.int .u8 d, .slice a n cap] 24)).alloc (Obj.cells #[.int .u8 d', .slice b m cap2] 24)).heap.size ((w.alloc (Obj.cells #[.int .u8 d, .slice a n cap] 24)).alloc (Obj.cells #[.int .u8 d', .slice b m cap2] 24)) W →
    ((W.cell? ⟨w.heap.size, 0, none⟩ = some (.int .u8 d) ∧ W.cell? ⟨w.heap.size, 1, none⟩ = some (.slice a n cap)) ∧ (W.cell? ⟨w.heap.size + 1, 0, none⟩ = some (.int .u8 d') ∧ W.cell? ⟨w.heap.size + 1, 1, none⟩ = some (.slice b m cap2))) ∧ Below w.heap.size w W := fun W h =>
  ⟨⟨⟨by rw [h.cell (by simp <;> omega)]; simp, by rw [h.cell (by simp <;> omega)]; simp⟩, ⟨by rw [h.cell (by simp <;> omega)]; simp, by rw [h.cell (by simp <;> omega)]; simp⟩⟩, ext_trans (two_allocs _ _ _) h⟩
theorem one_lab (w : World) (d : Int) (a : Option Addr) (n cap : Nat) : ∀ W, Below (w.alloc (Obj.cells #[.int .u8 d, .slice a n cap] 24)).heap.size (w.alloc (Obj.cells #[.int .u8 d, .slice a n cap] 24)) W →
    (W.cell? ⟨w.heap.size, 0, none⟩ = some (.int .u8 d) ∧ W.cell? ⟨w.heap.size, 1, none⟩ = some (.slice a n cap)) ∧ Below w.heap.size w W := fun W h =>
  ⟨⟨by rw [h.cell (by simp)]; simp, by rw [h.cell (by simp)]; simp⟩, ext_trans (below_alloc _ _) h⟩
/-- A label of sets that a call answered is put into a variable of its own: all that was known stays known. -/
theorem more_sv {w w3 : World} {P : World → Prop} (r : Sv) {W0 : World} (HC : Hid (∀ W, Below W0.heap.size W0 W → P W ∧ Below w.heap.size w W)) (hr : r.In w3) (hb : Below W0.heap.size W0 w3) :
    Hid (∀ W, Below (w3.alloc (Obj.cells #[.slice r.a1 r.n1 r.c1, .slice r.a2 r.n2 r.c2, .slice r.a3 r.n3 r.c3] 27)).heap.size (w3.alloc (Obj.cells #[.slice r.a1 r.n1 r.c1, .slice r.a2 r.n2 r.c2, .slice r.a3 r.n3 r.c3] 27)) W → (P W ∧ (W.cell? ⟨w3.heap.size, 0, none⟩ = some (.slice r.a1 r.n1 r.c1) ∧ W.cell? ⟨w3.heap.size, 1, none⟩ = some (.slice r.a2 r.n2 r.c2) ∧ W.cell? ⟨w3.heap.size, 2, none⟩ = some (.slice r.a3 r.n3 r.c3)) ∧ r.In W) ∧ Below w.heap.size w W) := fun W h => by
  have h3 := ext_trans (below_alloc w3 (Obj.cells #[.slice r.a1 r.n1 r.c1, .slice r.a2 r.n2 r.c2, .slice r.a3 r.n3 r.c3] 27)) h
  obtain ⟨hp, hbw⟩ := HC.out W (ext_trans hb h3)
  exact ⟨⟨hp, ⟨by rw [h.cell (by simp)]; simp, by rw [h.cell (by simp)]; simp, by rw [h.cell (by simp)]; simp⟩, hr.below h3⟩, hbw⟩
theorem refSame_true {d : Int} {a b : Option Addr} {n cap m cap2 : Nat} {xs ys : List (Int × Int)} {w : World} (hr : RowG PE w a n cap xs) (hs : RowG PE w b m cap2 ys) (h : xs = ys) :
    Calls Try.prog 15 #[.agg #[.int .u8 d, .slice a n cap], .agg #[.int .u8 d, .slice b m cap2]] w fun e w' => e = .returned (.bool true) ∧ Below w.heap.size w w' := by
  have := refSame_any d a n cap xs d b m cap2 ys w hr hs
  rwa [decide_eq_true ⟨rfl, h⟩] at this
theorem mayL_is (q : Bool) {d : Int} {a : Option Addr} {n cap : Nat} {xs : List (Int × Int)} {w : World} (hr : RowG PE w a n cap xs) (hq : Hid (mayB d xs = q)) :
    Calls Try.prog 10 #[.agg #[.int .u8 d, .slice a n cap]] w fun e w' => e = .returned (.bool q) ∧ Below w.heap.size w w' := by
  have := refMayL_any d a n cap xs w hr
  rwa [hq.out] at this
end Go.Proofs.Ytdoemkncgfgkhaa
