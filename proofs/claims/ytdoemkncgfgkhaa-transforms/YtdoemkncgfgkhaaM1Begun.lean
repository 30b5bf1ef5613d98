/- Labels of one category, and that may1 does something: what the statements ask first. -/
import Derived.Test.YtdoemkncgfgkhaaM1Rises
namespace Go.Proofs.Ytdoemkncgfgkhaa
open Go.RowKit
set_option maxRecDepth 100000

/-- A label of Default 2 that says x of the category 3 and nothing else. -/
structure On (w : World) (a : Option Addr) (n cap : Nat) (xs : List (Int × Int)) (x : Int) : Prop where
  lb : Lb w 2 a n cap xs
  at3 : ∀ c, atL 2 xs c = if c = 3 then x else 2
  nm : nameB 2 xs = decide (x ≠ 3)
  st : starsL 0 xs = if x = 0 then [3] else []
theorem On.below {w w' : World} {a : Option Addr} {n cap : Nat} {xs : List (Int × Int)} {x : Int} (h : On w a n cap xs x) (hb : Below w.heap.size w w') : On w' a n cap xs x := ⟨h.lb.below hb, h.at3, h.nm, h.st⟩
theorem on_nil (w : World) : On w none 0 0 [] 2 := ⟨⟨RowG.nil _ _, ⟨by decide, fun p hp => by simp at hp⟩, List.Pairwise.nil, by omega⟩, fun c => by simp [atL], by decide, by decide⟩
theorem on_one {w : World} {a : Option Addr} {n cap : Nat} {x : Int} (hx : 0 ≤ x ∧ x ≤ 5) (h : RowG PE w a n cap [(3, x)]) : On w a n cap [(3, x)] x :=
  ⟨⟨h, ⟨by decide, fun p hp => by simp at hp; subst hp; exact hx⟩, List.pairwise_singleton _ _, by have := h.len; simp at this; omega⟩, fun c => by
    simp only [atL]
    by_cases hc : c = 3
    · rw [if_pos hc, if_pos hc.symm]
    · rw [if_neg hc, if_neg (fun e => hc e.symm)], by
    by_cases h3 : x = 3 <;> simp [nameB, starsL, h3], by
    by_cases h3 : x = 0 <;> simp [starsL, h3]⟩
theorem On.fl {w : World} {a1 a2 : Option Addr} {n1 c1 n2 c2 : Nat} {xs ys : List (Int × Int)} {x y : Int} (h : On w a1 n1 c1 xs x) (k : On w a2 n2 c2 ys y) (q : Bool) (hq : decide (x ≤ y) = q) : q = true ↔ FlL 2 xs 2 ys := by
  subst hq
  rw [decide_eq_true_eq]
  constructor
  · intro hxy c
    rw [h.at3, k.at3]
    split <;> omega
  · intro hf
    have := hf 3
    rw [h.at3, k.at3] at this
    simpa using this
theorem On.se {w : World} {a1 a2 : Option Addr} {n1 c1 n2 c2 : Nat} {xs ys : List (Int × Int)} {x y : Int} (h : On w a1 n1 c1 xs x) (k : On w a2 n2 c2 ys y) (q : Bool) (hq : decide (y ≤ riseL x) = q) : q = true ↔ FlL 2 ys (riseL 2) (riseP 2 xs) := by
  subst hq
  rw [decide_eq_true_eq]
  constructor
  · intro hxy c
    rw [rise_at 2 h.lb.up, h.at3, k.at3]
    split
    · exact hxy
    · show (2 : Int) ≤ riseL 2; decide
  · intro hf
    have := hf 3
    rw [rise_at 2 h.lb.up, h.at3, k.at3] at this
    simpa using this
theorem names_on {w : World} {a : Option Addr} {n cap : Nat} {xs : List (Int × Int)} {x : Int} (q : Bool) (hq : decide (x ≠ 3) = q) (h : On w a n cap xs x) :
    Calls Try.prog 18 #[.agg #[.int .u8 2, .slice a n cap]] w fun e w' => e = .returned (.bool q) ∧ Below w.heap.size w w' := by
  have := names_any 2 a n cap xs w h.lb.row
  rwa [h.nm, hq] at this
theorem sees_on (x y : Int) (q : Bool) (hq : decide (y ≤ riseL x) = q) {w : World} {a1 a2 : Option Addr} {n1 c1 n2 c2 : Nat} {xs ys : List (Int × Int)} (h : On w a1 n1 c1 xs x) (k : On w a2 n2 c2 ys y) :
    Calls Try.prog 23 #[.agg #[.int .u8 2, .slice a1 n1 c1], .agg #[.int .u8 2, .slice a2 n2 c2]] w fun e w' => e = .returned (.bool q) ∧ Below w.heap.size w w' :=
  sees_is q (h.se k q hq) w h.lb k.lb
theorem turns_on (x y : Int) (q : Bool) (hq : decide (x ≤ y) = q) {w : World} {a1 a2 : Option Addr} {n1 c1 n2 c2 : Nat} {xs ys : List (Int × Int)} (h : On w a1 n1 c1 xs x) (k : On w a2 n2 c2 ys y) :
    Calls Try.prog 25 #[.agg #[.int .u8 2, .slice a1 n1 c1], .agg #[.int .u8 2, .slice a2 n2 c2]] w fun e w' => e = .returned (.bool q) ∧ Below w.heap.size w w' :=
  turns_is q (h.fl k q hq) w h.lb k.lb
theorem rises_on (x y z : Int) (hz : why (decide (y ≠ 3)) (decide (y = 0 → x = 0)) (decide (x ≤ y)) = z) {w : World} {a1 a2 : Option Addr} {n1 c1 n2 c2 : Nat} {xs ys : List (Int × Int)} (h : On w a1 n1 c1 xs x) (k : On w a2 n2 c2 ys y) :
    Calls Try.prog 19 #[.agg #[.int .u8 2, .slice a1 n1 c1], .agg #[.int .u8 2, .slice a2 n2 c2]] w fun e w' => e = .returned (.int .i64 z) ∧ Below w.heap.size w w' := by
  have h1 := rises_is _ (h.fl k _ rfl) w h.lb k.lb
  have h2 : starB 2 xs (starsL 0 ys) = decide (y = 0 → x = 0) := by
    rw [k.st]
    by_cases hy : y = 0
    · simp [starB, h.at3, hy]
    · simp [starB, hy]
  rwa [h2, k.nm, hz] at h1
theorem makes_on (x y z : Int) (hz : why (decide (y ≠ 3)) (decide (y ≠ 0)) (decide (x ≤ y)) = z) {w : World} {a1 a2 : Option Addr} {n1 c1 n2 c2 : Nat} {xs ys : List (Int × Int)} (h : On w a1 n1 c1 xs x) (k : On w a2 n2 c2 ys y) :
    Calls Try.prog 21 #[.agg #[.int .u8 2, .slice a1 n1 c1], .agg #[.int .u8 2, .slice a2 n2 c2]] w fun e w' => e = .returned (.int .i64 z) ∧ Below w.heap.size w w' := by
  have h1 := makes_is _ (h.fl k _ rfl) w h.lb k.lb
  have h2 : decide (starsL 0 ys = []) = decide (y ≠ 0) := by
    rw [k.st]
    by_cases hy : y = 0 <;> simp [hy]
  rwa [h2, k.nm, hz] at h1

theorem lit_row (w : World) (x : Int) (hx : 0 ≤ x ∧ x ≤ 5) (g : Nat) (hg : w.heap.size = g) : RowG PE (w.alloc (Obj.cells #[.int .u16 3, .int .u8 x] 40)) (some ⟨g, 0, none⟩) 1 1 [(3, x)] :=
  (owng_lit PE w 40 [(3, x)] #[.int .u16 3, .int .u8 x] rfl 1 rfl (by omega) (fun p hp => by simp at hp; subst hp; show (0 ≤ (3 : Int) ∧ (3 : Int) < 65536) ∧ (0 ≤ x ∧ x < 256); omega) g g hg (Nat.le_refl _)).row
theorem lit_lab (w : World) (x : Int) (hx : 0 ≤ x ∧ x ≤ 5) (g : Nat) (hg : w.heap.size = g) : ∀ W, Below ((w.alloc (Obj.cells #[.int .u16 3, .int .u8 x] 40)).alloc (Obj.cells #[.int .u8 2, .slice (some ⟨g, 0, none⟩) 1 1] 24)).heap.size ((w.alloc (Obj.cells #[.int .u16 3, .int .u8 x] 40)).alloc (Obj.cells #[.int .u8 2, .slice (some ⟨g, 0, none⟩) 1 1] 24)) W →
    W.cell? ⟨g + 1, 0, none⟩ = some (.int .u8 2) ∧ W.cell? ⟨g + 1, 1, none⟩ = some (.slice (some ⟨g, 0, none⟩) 1 1) ∧ On W (some ⟨g, 0, none⟩) 1 1 [(3, x)] x ∧ Below w.heap.size w W := fun W h => by
  subst hg
  exact ⟨by rw [h.cell (by simp)]; simp, by rw [h.cell (by simp)]; simp, (on_one hx ((lit_row w x hx _ rfl).below (below_alloc _ _))).below h, ext_trans (two_allocs _ _ _) h⟩
theorem plain_lab (w : World) (g : Nat) (hg : w.heap.size = g) : ∀ W, Below (w.alloc (Obj.cells #[.int .u8 2, .slice none 0 0] 24)).heap.size (w.alloc (Obj.cells #[.int .u8 2, .slice none 0 0] 24)) W →
    W.cell? ⟨g, 0, none⟩ = some (.int .u8 2) ∧ W.cell? ⟨g, 1, none⟩ = some (.slice none 0 0) ∧ Below w.heap.size w W := fun W h => by
  subst hg
  exact ⟨by rw [h.cell (by simp)]; simp, by rw [h.cell (by simp)]; simp, ext_trans (below_alloc _ _) h⟩

end Go.Proofs.Ytdoemkncgfgkhaa
