/- Lists of pairs that a stable sort by the category leaves alike: what is kept, plainly; the last pair of each category; and a row of pairs whose elements are exchanged. -/
import Derived.Test.YtdoemkncgfgkhaaLabOut
namespace Go.Proofs.Ytdoemkncgfgkhaa
open Go.RowKit
set_option maxRecDepth 100000

/-- Alike but for the order among pairs of different categories. -/
def StEq (xs ys : List (Int × Int)) : Prop := ∀ c : Int, xs.filter (fun p => decide (p.1 = c)) = ys.filter (fun p => decide (p.1 = c))
theorem StEq.refl (xs : List (Int × Int)) : StEq xs xs := fun _ => rfl
theorem StEq.trans {xs ys zs : List (Int × Int)} (h : StEq xs ys) (k : StEq ys zs) : StEq xs zs := fun c => (h c).trans (k c)
theorem StEq.symm {xs ys : List (Int × Int)} (h : StEq xs ys) : StEq ys xs := fun c => (h c).symm
theorem StEq.append {xs ys xs' ys' : List (Int × Int)} (h : StEq xs ys) (k : StEq xs' ys') : StEq (xs ++ xs') (ys ++ ys') := fun c => by rw [List.filter_append, List.filter_append, h c, k c]
/-- Two lists that share no category stand in either order. -/
theorem StEq.comm {xs ys : List (Int × Int)} (h : ∀ p ∈ xs, ∀ q ∈ ys, p.1 ≠ q.1) : StEq (xs ++ ys) (ys ++ xs) := by
  intro c
  rw [List.filter_append, List.filter_append]
  by_cases hx : ∃ p ∈ xs, p.1 = c
  · obtain ⟨p, hp, e⟩ := hx
    have : ys.filter (fun q => decide (q.1 = c)) = [] := List.filter_eq_nil_iff.2 fun q hq => by
      have := h p hp q hq
      simp only [decide_eq_true_eq]
      omega
    rw [this, List.append_nil, List.nil_append]
  · have : xs.filter (fun q => decide (q.1 = c)) = [] := List.filter_eq_nil_iff.2 fun q hq => by
      simp only [decide_eq_true_eq]
      exact fun e => hx ⟨q, hq, e⟩
    rw [this, List.append_nil, List.nil_append]
theorem StEq.mem {xs ys : List (Int × Int)} (h : StEq xs ys) (p : Int × Int) : p ∈ xs ↔ p ∈ ys := by
  have := h p.1
  constructor
  · intro hp
    have h1 : p ∈ xs.filter (fun q => decide (q.1 = p.1)) := List.mem_filter.2 ⟨hp, by simp⟩
    rw [this] at h1
    exact (List.mem_filter.1 h1).1
  · intro hp
    have h1 : p ∈ ys.filter (fun q => decide (q.1 = p.1)) := List.mem_filter.2 ⟨hp, by simp⟩
    rw [← this] at h1
    exact (List.mem_filter.1 h1).1
theorem atL_filter (d : Int) (xs : List (Int × Int)) (c : Int) : atL d xs c = atL d (xs.filter fun p => decide (p.1 = c)) c := by
  induction xs with
  | nil => rfl
  | cons p xs ih =>
    by_cases h : p.1 = c
    · rw [List.filter_cons_of_pos (by simpa using h), atL_cons, atL_cons, if_pos h, if_pos h]
    · rw [List.filter_cons_of_neg (by simpa using h), atL_cons, if_neg h, ih]
theorem StEq.last {xs ys : List (Int × Int)} (h : StEq xs ys) (d c : Int) : atL d xs.reverse c = atL d ys.reverse c := by
  rw [atL_filter, atL_filter d ys.reverse, List.filter_reverse, List.filter_reverse, h c]
/-- Categories do not fall. -/
def Nd (xs : List (Int × Int)) : Prop := xs.Pairwise fun p q => p.1 ≤ q.1
theorem Nd.nil : Nd [] := List.Pairwise.nil
/-- An element is put into its place, behind its equals. -/
theorem nd_ins {S1 S2 : List (Int × Int)} {x : Int × Int} (h : Nd (S1 ++ S2)) (h1 : ∀ p ∈ S1, p.1 ≤ x.1) (h2 : ∀ p ∈ S2, x.1 < p.1) : Nd (S1 ++ x :: S2) := by
  unfold Nd at h ⊢
  rw [List.pairwise_append] at h ⊢
  refine ⟨h.1, List.pairwise_cons.2 ⟨fun p hp => by have := h2 p hp; omega, h.2.1⟩, fun p hp q hq => ?_⟩
  rcases List.mem_cons.1 hq with rfl | hq
  · exact h1 p hp
  · exact h.2.2 p hp q hq
theorem steq_ins {S1 S2 : List (Int × Int)} {x : Int × Int} (h2 : ∀ p ∈ S2, x.1 < p.1) : StEq (S1 ++ x :: S2) (S1 ++ S2 ++ [x]) := by
  rw [List.append_assoc]
  refine (StEq.refl S1).append ?_
  exact StEq.comm (xs := [x]) fun p hp q hq => by
    simp at hp; subst hp
    have := h2 q hq; omega

/-- The last pairs of runs of one category, none of d. -/
def rhd (d : Int) (p : Int × Int) : List (Int × Int) → List (Int × Int)
  | [] => unl p.1 p.2 d
  | q :: _ => if q.1 = p.1 then [] else unl p.1 p.2 d
def runs (d : Int) : List (Int × Int) → List (Int × Int)
  | [] => []
  | p :: L => rhd d p L ++ runs d L
theorem runs_mem (d : Int) (xs : List (Int × Int)) : ∀ p ∈ runs d xs, p ∈ xs ∧ p.2 ≠ d := by
  induction xs with
  | nil => simp [runs]
  | cons x L ih =>
    intro p hp
    rw [runs, List.mem_append] at hp
    rcases hp with hp | hp
    · have hu : p ∈ unl x.1 x.2 d := by
        cases L with
        | nil => exact hp
        | cons q L =>
          simp only [rhd] at hp
          split at hp
          · simp at hp
          · exact hp
      unfold unl at hu
      split at hu
      · simp at hu
      · simp at hu; subst hu; exact ⟨by simp, by assumption⟩
    · exact ⟨by simp [(ih p hp).1], (ih p hp).2⟩
theorem atL_indep (d e : Int) {L : List (Int × Int)} {c : Int} (h : ∃ q ∈ L, q.1 = c) : atL d L c = atL e L c := by
  induction L with
  | nil => simp at h
  | cons p L ih =>
    rw [atL_cons, atL_cons]
    by_cases hp : p.1 = c
    · rw [if_pos hp, if_pos hp]
    · rw [if_neg hp, if_neg hp]
      refine ih ?_
      obtain ⟨q, hq, e⟩ := h
      rcases List.mem_cons.1 hq with rfl | hq
      · exact absurd e hp
      · exact ⟨q, hq, e⟩
theorem atL_app (d : Int) (A L : List (Int × Int)) (c : Int) : atL d (A ++ L) c = atL (atL d L c) A c := by
  induction A with
  | nil => rfl
  | cons p A ih => rw [List.cons_append, atL_cons, atL_cons, ih]
theorem runs_ok (d : Int) {xs : List (Int × Int)} (h : Nd xs) : UpL (runs d xs) ∧ ∀ c, atL d (runs d xs) c = atL d xs.reverse c := by
  induction xs with
  | nil => exact ⟨List.Pairwise.nil, fun _ => rfl⟩
  | cons p L ih =>
    have hp := List.pairwise_cons.1 h
    obtain ⟨i1, i2⟩ := ih hp.2
    have key : ∀ c, atL d (p :: L).reverse c = atL (if p.1 = c then p.2 else d) L.reverse c := fun c => by
      rw [List.reverse_cons, atL_app]; rfl
    have tailcase : (∀ q ∈ L, p.1 < q.1) → UpL (unl p.1 p.2 d ++ runs d L) ∧ ∀ c, atL d (unl p.1 p.2 d ++ runs d L) c = atL d (p :: L).reverse c := by
      intro hlt
      have hr : ∀ q ∈ runs d L, p.1 < q.1 := fun q hq => hlt q (runs_mem d L q hq).1
      refine ⟨?_, fun c => ?_⟩
      · unfold unl
        split
        · exact i1
        · exact List.pairwise_cons.2 ⟨fun q hq => hr q hq, i1⟩
      · rw [key]
        unfold unl
        by_cases hc : p.1 = c
        · subst hc
          rw [if_pos rfl, atL_off _ L.reverse _ (fun q hq => by have := hlt q (by simpa using hq); omega)]
          split
          · rename_i e; rw [List.nil_append, atL_off d _ _ (fun q hq => by have := hr q hq; omega), e]
          · rw [List.singleton_append, atL_cons, if_pos rfl]
        · rw [if_neg hc, ← i2]
          split
          · rfl
          · rw [List.singleton_append, atL_cons, if_neg hc]
    cases L with
    | nil => exact (by simpa [runs, rhd] using tailcase (fun q hq => by simp at hq))
    | cons q L =>
      rw [runs]
      by_cases hq : q.1 = p.1
      · simp only [rhd, if_pos hq, List.nil_append]
        refine ⟨i1, fun c => ?_⟩
        rw [i2, key]
        by_cases hc : p.1 = c
        · exact atL_indep _ _ ⟨q, by simp, by omega⟩
        · rw [if_neg hc]
      · simp only [rhd, if_neg hq]
        refine tailcase fun q' hq' => ?_
        have h1 := hp.1 q (by simp)
        rcases List.mem_cons.1 hq' with rfl | hq'
        · omega
        · have := (List.pairwise_cons.1 hp.2).1 q' hq'; omega
theorem runs_len (d : Int) (xs : List (Int × Int)) : (runs d xs).length ≤ xs.length := by
  induction xs with
  | nil => simp [runs]
  | cons p L ih =>
    rw [runs, List.length_append]
    have : (rhd d p L).length ≤ 1 := by
      cases L with
      | nil => simp only [rhd]; unfold unl; split <;> simp
      | cons q L =>
        simp only [rhd]
        split
        · simp
        · unfold unl; split <;> simp
    simp only [List.length_cons]; omega
theorem runs_step (d : Int) {xs : List (Int × Int)} {i : Nat} {x y : Int} (hx : xs[i]? = some (x, y)) :
    runs d (xs.drop i) = rhd d (x, y) (xs.drop (i + 1)) ++ runs d (xs.drop (i + 1)) := by
  obtain ⟨h1, h2⟩ := List.getElem?_eq_some_iff.1 hx
  rw [List.drop_eq_getElem_cons h1, h2, runs]
theorem rhd_end (d : Int) {xs : List (Int × Int)} {i : Nat} (x y : Int) (h : xs.length = i + 1) : rhd d (x, y) (xs.drop (i + 1)) = unl x y d := by rw [List.drop_of_length_le (by omega)]; rfl
theorem rhd_next (d : Int) {xs : List (Int × Int)} {i : Nat} (x y : Int) {x' y' : Int} (h : xs[i + 1]? = some (x', y')) : rhd d (x, y) (xs.drop (i + 1)) = if x' = x then [] else unl x y d := by
  obtain ⟨h1, h2⟩ := List.getElem?_eq_some_iff.1 h
  rw [List.drop_eq_getElem_cons h1, h2]; rfl

theorem flat_set (xs : List (Int × Int)) (i : Nat) (x y : Int) (hi : i < xs.length) : PE.flat (xs.set i (x, y)) = ((PE.flat xs).set (i * 2) (.int .u16 x)).set (i * 2 + 1) (.int .u8 y) := by
  induction xs generalizing i with
  | nil => simp at hi
  | cons p xs ih =>
    have hc : ∀ (p : Int × Int) (xs : List (Int × Int)), PE.flat (p :: xs) = Value.int .u16 p.1 :: Value.int .u8 p.2 :: PE.flat xs := fun _ _ => rfl
    cases i with
    | zero => rw [List.set_cons_zero, hc, hc]; rfl
    | succ i =>
      rw [List.set_cons_succ, hc, hc, ih i (by simpa using hi)]
      rw [show (i + 1) * 2 = i * 2 + 1 + 1 by omega]
      rfl
/-- An element of a row of the call's own is written. -/
theorem OwnG.set_pair {e : TypeId} {w : World} {B g n cap : Nat} {xs : List (Int × Int)} (h : OwnG PE e w B (some ⟨g, 0, none⟩) n cap xs) (i : Nat) (hi : i < n) (x y : Int) (hxy : PE.ok (x, y)) :
    OwnG PE e ((w.setCell ⟨g, i * 2, none⟩ (.int .u16 x)).setCell ⟨g, i * 2 + 1, none⟩ (.int .u8 y)) B (some ⟨g, 0, none⟩) n cap (xs.set i (x, y)) := by
  refine ⟨by simpa using h.1, fun p hp => (List.mem_or_eq_of_mem_set hp).elim (h.2.1 p) (fun e => e ▸ hxy), ?_⟩
  rw [flat_set xs i x y (by have := h.1; omega)]
  exact ((h.2.2.stored (i * 2) (.int .u16 x)).1.stored (i * 2 + 1) (.int .u8 y)).1
theorem grown_set (w : World) (g i : Nat) (v : Value) : w.grownBy (w.setCell ⟨g, i, none⟩ v) (some g) := ⟨rfl, rfl, rfl, by simp [World.setCell], fun k _ hk => Below.heap_setCell _ _ _ _ (fun e => hk (by rw [e]))⟩
theorem OwnG.fz {α : Type} {E : Enc α} {e : TypeId} {w : World} {B g n cap : Nat} {xs : List α} (h : OwnG E e w B (some ⟨g, 0, none⟩) n cap xs) (i : Nat) : w.frozen? ⟨g, i, none⟩ = false := h.2.2.frozenAt i
end Go.Proofs.Ytdoemkncgfgkhaa
