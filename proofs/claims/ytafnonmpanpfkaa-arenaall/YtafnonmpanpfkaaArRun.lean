/- A run of the two arenas: where it stands, and what a put, a drop and a copy make of it. -/
import Derived.Test.YtafnonmpanpfkaaArRefPut
import Derived.Test.YtafnonmpanpfkaaArRefDrop
import Derived.Test.YtafnonmpanpfkaaArDup
import Derived.Test.YtafnonmpanpfkaaArDrop
namespace Go.Proofs.Ytafnonmpanpfkaa
open Go.RowKit
set_option maxRecDepth 100000
set_option linter.unusedVariables false

/-- Both arenas say ls; each lies apart, since w0. -/
def St (w0 w : World) (pa pr : Nat) (v : Int) (T : Tx) (ls : List (Int × List Int)) (N : Nat) : Prop := ∃ Sa Sr, Ar w Sa pa v T N ∧ Lst T ls ∧ RM w Sr pr v (ls.map Prod.fst) (ls.map Prod.snd) ∧ (∀ b, Sa b → ¬ Sr b) ∧ (∀ b, Sa b → w0.heap.size ≤ b) ∧ (∀ b, Sr b → w0.heap.size ≤ b) ∧ Below w0.heap.size w0 w
section
variable {w0 w w' : World} {pa pr N : Nat} {v : Int} {T : Tx} {ls : List (Int × List Int)}
theorem St.below (h : St w0 w pa pr v T ls N) (hb : Below w.heap.size w w') : St w0 w' pa pr v T ls N := by
  obtain ⟨Sa, Sr, h1, h2, h3, h4, h5, h6, h7⟩ := h
  exact ⟨Sa, Sr, h1.below hb, h2, h3.below hb, h4, h5, h6, h7.trans (hb.mono h7.size)⟩
theorem St.new (h : St w0 w pa pr v T ls N) : Below w0.heap.size w0 w := by
  obtain ⟨Sa, Sr, h1, h2, h3, h4, h5, h6, h7⟩ := h
  exact h7
theorem St.ids (h : St w0 w pa pr v T ls N) : Lst T ls := by
  obtain ⟨Sa, Sr, h1, h2, _⟩ := h
  exact h2
theorem St.recs (h : St w0 w pa pr v T ls N) : ∀ q ∈ ls, Rec v q.2 := by
  obtain ⟨Sa, Sr, ⟨x, _, _, hi⟩, h2, _⟩ := h
  exact fun q hq => hi.good q.1 q.2 ((h2.mem _ _).1 hq)
/-- A place among the names. -/
theorem fst_at {k : Nat} {i : Int} : (ls.map Prod.fst)[k]? = some i ↔ ∃ xs, ls[k]? = some (i, xs) := by
  rw [List.getElem?_map]
  cases h : ls[k]? with
  | none => simp
  | some q =>
    obtain ⟨a, b⟩ := q
    simp only [Option.map_some, Option.some.injEq, Prod.mk.injEq]
    exact ⟨fun e => ⟨b, e, rfl⟩, fun ⟨_, e, _⟩ => e⟩
theorem Lst.put (h : Lst T ls) {k : Nat} {i : Int} (xs : List Int) (hlo : ∀ t x, (ls.map Prod.fst)[t]? = some x → t < k → x < i) (hhi : ∀ x, (ls.map Prod.fst)[k]? = some x → i ≤ x) (hno : (ls.map Prod.fst)[k]? ≠ some i) :
    Lst (upT T i (some xs)) (ls.take k ++ (i, xs) :: ls.drop k) := by
  have hA : ∀ q ∈ ls.take k, q.1 < i := fun q hq => by
    obtain ⟨t, ht, rfl⟩ := List.getElem_of_mem hq
    have hl : t < k ∧ t < ls.length := by simp at ht; omega
    refine hlo t _ ?_ hl.1
    rw [List.getElem_take, List.getElem?_map, List.getElem?_eq_getElem hl.2]
    rfl
  have hD : ∀ q ∈ ls.drop k, i < q.1 := fun q hq => by
    obtain ⟨t, ht, rfl⟩ := List.getElem_of_mem hq
    have hl : k + t < ls.length := by simp at ht; omega
    rw [List.getElem_drop]
    have hkk : k < ls.length := by omega
    have e1 : (ls.map Prod.fst)[k]? = some ls[k].1 := by rw [List.getElem?_map, List.getElem?_eq_getElem hkk]; rfl
    have h1 := hhi _ e1
    have h2 : ls[k].1 ≠ i := fun c => hno (by rw [e1, c])
    by_cases h0 : t = 0
    · subst h0
      show i < ls[k].1
      omega
    · have := List.pairwise_iff_getElem.1 h.up k (k + t) hkk hl (by omega)
      omega
  have hm : ∀ q, q ∈ ls ↔ q ∈ ls.take k ∨ q ∈ ls.drop k := fun q => by rw [← List.mem_append, List.take_append_drop]
  refine ⟨?_, fun j ys => ?_⟩
  · have hp := h.up
    rw [← List.take_append_drop k ls, List.pairwise_append] at hp
    rw [List.pairwise_append, List.pairwise_cons]
    refine ⟨hp.1, ⟨hD, hp.2.1⟩, fun x hx y hy => ?_⟩
    simp only [List.mem_cons] at hy
    rcases hy with rfl | hy
    · exact hA x hx
    · exact hp.2.2 x hx y hy
  · simp only [List.mem_append, List.mem_cons, Prod.mk.injEq]
    by_cases e : j = i
    · subst e
      rw [upT_same]
      simp only [true_and, Option.some.injEq]
      constructor
      · rintro (hq | hq | hq)
        · have := hA _ hq; simp at this
        · exact hq.symm
        · have := hD _ hq; simp at this
      · intro hq
        exact .inr (.inl hq.symm)
    · rw [upT_other _ _ e, ← h.mem, hm]
      simp [e]
theorem Lst.set (h : Lst T ls) {k : Nat} {i : Int} (xs : List Int) (hk : (ls.map Prod.fst)[k]? = some i) :
    Lst (upT T i (some xs)) (ls.set k (i, xs)) ∧ (ls.set k (i, xs)).map Prod.fst = ls.map Prod.fst ∧ (ls.set k (i, xs)).map Prod.snd = (ls.map Prod.snd).set k xs := by
  obtain ⟨x0, hx0⟩ := fst_at.1 hk
  obtain ⟨hkl, hke⟩ := List.getElem?_eq_some_iff.1 hx0
  have hf : (ls.set k (i, xs)).map Prod.fst = ls.map Prod.fst := by
    rw [List.map_set]
    refine List.ext_getElem? fun t => ?_
    rw [List.getElem?_set]
    by_cases e : k = t
    · subst e
      rw [if_pos rfl, if_pos (by simpa using hkl), List.getElem?_map, hx0]
      rfl
    · rw [if_neg e]
  have hup : (ls.set k (i, xs)).Pairwise (fun p q => p.1 < q.1) := by
    have h1 := h.up
    rw [← List.pairwise_map (f := Prod.fst) (R := (· < ·))] at h1 ⊢
    rw [hf]
    exact h1
  refine ⟨⟨hup, fun j ys => ?_⟩, hf, by rw [List.map_set]⟩
  by_cases e : j = i
  · subst e
    rw [upT_same]
    have hin : (j, xs) ∈ ls.set k (j, xs) := by
      rw [List.mem_iff_getElem?]
      exact ⟨k, by rw [List.getElem?_set_self (by simpa using hkl)]⟩
    constructor
    · intro hq
      have hj : (j, ys) = (j, xs) := by
        by_cases hne : ys = xs
        · rw [hne]
        · obtain ⟨t, ht, hte⟩ := List.getElem_of_mem hq
          by_cases htk : t = k
          · subst htk
            rw [List.getElem_set_self] at hte
            exact hte.symm
          · rw [List.getElem_set_ne (by omega)] at hte
            have hl : t < ls.length := by simpa using ht
            have ha := List.pairwise_iff_getElem.1 h.up
            rcases Nat.lt_or_ge t k with hlt | hge
            · have := ha t k hl hkl hlt
              rw [hte, hke] at this
              simp at this
            · have := ha k t hkl hl (by omega)
              rw [hte, hke] at this
              simp at this
      rw [(Prod.mk.inj hj).2]
    · intro hq
      rw [← Option.some.inj hq]
      exact hin
  · rw [upT_other _ _ e, ← h.mem]
    constructor
    · intro hq
      rcases List.mem_or_eq_of_mem_set hq with hq | hq
      · exact hq
      · exact absurd (Prod.mk.inj hq).1 e
    · intro hq
      obtain ⟨t, ht, hte⟩ := List.getElem_of_mem hq
      have htk : t ≠ k := fun c => by
        subst c
        rw [hke] at hte
        exact e (Prod.mk.inj hte).1.symm
      rw [List.mem_iff_getElem?]
      exact ⟨t, by rw [List.getElem?_set_ne (by omega), List.getElem?_eq_getElem ht, hte]⟩
theorem Lst.drop (h : Lst T ls) {k : Nat} {i : Int} (hk : (ls.map Prod.fst)[k]? = some i) : Lst (upT T i none) (ls.take k ++ ls.drop (k + 1)) := by
  obtain ⟨x0, hx0⟩ := fst_at.1 hk
  obtain ⟨hkl, hke⟩ := List.getElem?_eq_some_iff.1 hx0
  have e1 : ls = ls.take k ++ (i, x0) :: ls.drop (k + 1) := by
    rw [← hke, List.getElem_cons_drop, List.take_append_drop]
  obtain ⟨A, hA⟩ : ∃ A, A = ls.take k := ⟨_, rfl⟩
  obtain ⟨D, hD⟩ : ∃ D, D = ls.drop (k + 1) := ⟨_, rfl⟩
  rw [← hA, ← hD] at e1
  rw [← hA, ← hD]
  have hup := h.up
  rw [e1, List.pairwise_append, List.pairwise_cons] at hup
  obtain ⟨p1, ⟨p2, p3⟩, p4⟩ := hup
  refine ⟨?_, fun j ys => ?_⟩
  · rw [List.pairwise_append]
    exact ⟨p1, p3, fun x hx y hy => p4 x hx y (by simp [hy])⟩
  · by_cases e : j = i
    · subst e
      rw [upT_same]
      simp only [List.mem_append, reduceCtorEq, iff_false, not_or]
      exact ⟨fun hq => by have := p4 _ hq (j, x0) (by simp); simp at this, fun hq => by have := p2 _ hq; simp at this⟩
    · rw [upT_other _ _ e, ← h.mem, e1]
      simp [e]
end
end Go.Proofs.Ytafnonmpanpfkaa
