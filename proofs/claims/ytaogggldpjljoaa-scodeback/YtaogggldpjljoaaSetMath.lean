/- Sets of categories: what the merges hold, and which three sets make a label. No program of the seat is named here. -/
import Derived.Test.YtaogggldpjljoaaSets
namespace Go.Proofs.Ytaogggldpjljoaa

theorem or_mem {A B : List Int} (hA : Srt A) (hB : Srt B) (z : Int) : z ∈ mrg true true true A B ↔ z ∈ A ∨ z ∈ B := by
  rw [mrg_mem _ _ _ _ _ hA hB]
  by_cases h1 : z ∈ A <;> by_cases h2 : z ∈ B <;> simp [h1, h2]
theorem and_mem {A B : List Int} (hA : Srt A) (hB : Srt B) (z : Int) : z ∈ mrg false true false A B ↔ z ∈ A ∧ z ∈ B := by
  rw [mrg_mem _ _ _ _ _ hA hB]
  by_cases h1 : z ∈ A <;> by_cases h2 : z ∈ B <;> simp [h1, h2]
theorem less_mem {A B : List Int} (hA : Srt A) (hB : Srt B) (z : Int) : z ∈ mrg true false false A B ↔ z ∈ A ∧ z ∉ B := by
  rw [mrg_mem _ _ _ _ _ hA hB]
  by_cases h1 : z ∈ A <;> by_cases h2 : z ∈ B <;> simp [h1, h2]
theorem and_eq {A B : List Int} (hA : Srt A) (hB : Srt B) : mrg false true false A B = A.filter fun x => decide (x ∈ B) == true :=
  srt_unique (mrg_srt _ _ _ _ _ hA hB) (hA.filter _) fun x => by rw [mrg_mem _ _ _ _ _ hA hB, List.mem_filter]; simp
theorem less_eq {A B : List Int} (hA : Srt A) (hB : Srt B) : mrg true false false A B = A.filter fun x => decide (x ∈ B) == false :=
  srt_unique (mrg_srt _ _ _ _ _ hA hB) (hA.filter _) fun x => by rw [mrg_mem _ _ _ _ _ hA hB, List.mem_filter]; simp
theorem or_eq {A B Z : List Int} (hA : Srt A) (hB : Srt B) (hZ : Srt Z) (hm : ∀ x, x ∈ Z ↔ x ∈ A ++ B) : mrg true true true A B = Z :=
  srt_unique (mrg_srt _ _ _ _ _ hA hB) hZ fun x => by
    rw [mrg_mem _ _ _ _ _ hA hB, hm, List.mem_append]
    by_cases h1 : x ∈ A <;> by_cases h2 : x ∈ B <;> simp [h1, h2]
theorem mrg_sum (a b : List Int) : (mrg true true true a b).length + (mrg false true false a b).length = a.length + b.length := by
  induction a, b using mrg_ind with
  | case1 b => simp [mrg_nil_left]
  | case2 x a => simp [mrg_nil_right]
  | case3 x a y b h ih => rw [mrg_lt _ _ _ h, mrg_lt _ _ _ h]; simp at ih ⊢; omega
  | case4 x a y b h h' ih => rw [mrg_gt _ _ _ h', mrg_gt _ _ _ h']; simp at ih ⊢; omega
  | case5 x a y b h h' ih => rw [mrg_eq _ _ _ (by omega), mrg_eq _ _ _ (by omega)]; simp at ih ⊢; omega
theorem srt_one (c : Int) : Srt [c] := List.pairwise_singleton _ _

theorem and_nil {A B : List Int} (hA : Srt A) (hB : Srt B) : mrg false true false A B = [] ↔ ∀ z, z ∈ A → z ∉ B := by
  rw [List.eq_nil_iff_forall_not_mem]
  exact ⟨fun h z h1 h2 => h z ((and_mem hA hB z).2 ⟨h1, h2⟩), fun h z hz => h z ((and_mem hA hB z).1 hz).1 ((and_mem hA hB z).1 hz).2⟩
theorem less_nil {A B : List Int} (hA : Srt A) (hB : Srt B) : mrg true false false A B = [] ↔ ∀ z, z ∈ A → z ∈ B := by
  rw [List.eq_nil_iff_forall_not_mem]
  exact ⟨fun h z h1 => Classical.byContradiction fun h2 => h z ((less_mem hA hB z).2 ⟨h1, h2⟩), fun h z hz => ((less_mem hA hB z).1 hz).2 (h z ((less_mem hA hB z).1 hz).1)⟩
theorem filter_nil {A B : List Int} : (A.filter fun x => decide (x ∈ B) == false) = [] ↔ ∀ z, z ∈ A → z ∈ B := by
  rw [List.filter_eq_nil_iff]
  exact ⟨fun h z hz => by simpa using h z hz, fun h z hz => by simpa using h z hz⟩

/-- Are these three a label of sets? -/
def MayP (A B C : List Int) : Prop := (Srt A ∧ Srt B ∧ Srt C) ∧ ((∀ z, z ∈ A → z ∉ B) ∧ (∀ z, z ∈ A → z ∉ C) ∧ ∀ z, z ∈ B → z ∉ C) ∧ A.length + B.length + C.length ≤ 16
/-- No category is in both. -/
def apB (A B : List Int) : Bool := decide (mrg false true false A B = [])
def mayS' (xs : List Int) : Bool := decide (xs.length ≤ 16) && asc xs
theorem mayS'_iff (xs : List Int) : mayS' xs = true ↔ xs.length ≤ 16 ∧ Srt xs := by unfold mayS'; rw [Bool.and_eq_true, decide_eq_true_eq, asc_iff]
/-- The same, as a test. -/
def mayB (A B C : List Int) : Bool := (mayS' A && mayS' B && mayS' C) && (apB A B && apB A C && apB B C) && decide (A.length + B.length + C.length ≤ 16)
theorem mayB_iff (A B C : List Int) : mayB A B C = true ↔ MayP A B C := by
  unfold mayB MayP
  simp only [Bool.and_eq_true, mayS'_iff, decide_eq_true_eq]
  constructor
  · rintro ⟨⟨⟨⟨hA, hB⟩, hC⟩, ⟨h1, h2⟩, h3⟩, h4⟩
    exact ⟨⟨hA.2, hB.2, hC.2⟩, ⟨(and_nil hA.2 hB.2).1 (by simpa [apB] using h1), (and_nil hA.2 hC.2).1 (by simpa [apB] using h2), (and_nil hB.2 hC.2).1 (by simpa [apB] using h3)⟩, h4⟩
  · rintro ⟨⟨hA, hB, hC⟩, ⟨h1, h2, h3⟩, h4⟩
    exact ⟨⟨⟨⟨⟨by omega, hA⟩, by omega, hB⟩, by omega, hC⟩, ⟨by simpa [apB] using (and_nil hA hB).2 h1, by simpa [apB] using (and_nil hA hC).2 h2⟩, by simpa [apB] using (and_nil hB hC).2 h3⟩, h4⟩
/-- How many there are in all tells whether one is in two of them. -/
theorem or_count {A B C Y Z : List Int} (hA : Srt A) (hB : Srt B) (hC : Srt C) (hY : Srt Y) (hZ : Srt Z) (hy : ∀ x, x ∈ Y ↔ x ∈ A ++ B) (hz : ∀ x, x ∈ Z ↔ x ∈ Y ++ C) :
    Z.length = A.length + B.length + C.length ↔ apB A B = true ∧ apB A C = true ∧ apB B C = true := by
  have e1 := or_eq hA hB hY hy
  have e2 := or_eq hY hC hZ hz
  have s1 := mrg_sum A B
  have s2 := mrg_sum Y C
  rw [e1] at s1
  rw [e2] at s2
  have n1 : (mrg false true false A B).length = 0 ↔ apB A B = true := by rw [List.length_eq_zero_iff]; simp [apB]
  have n2 : (mrg false true false Y C).length = 0 ↔ apB A C = true ∧ apB B C = true := by
    rw [List.length_eq_zero_iff, and_nil hY hC]
    simp only [apB, decide_eq_true_eq, and_nil hA hC, and_nil hB hC]
    constructor
    · exact fun h => ⟨fun z h1 => h z ((hy z).2 (by simp [h1])), fun z h1 => h z ((hy z).2 (by simp [h1]))⟩
    · rintro ⟨h1, h2⟩ z h3
      rcases List.mem_append.1 ((hy z).1 h3) with h4 | h4
      · exact h1 z h4
      · exact h2 z h4
  rw [← n1, ← n2]
  omega
theorem mayB_or {A B C Y Z : List Int} (hA : mayS' A = true) (hB : mayS' B = true) (hC : mayS' C = true) (hY : Srt Y) (hZ : Srt Z) (hy : ∀ x, x ∈ Y ↔ x ∈ A ++ B) (hz : ∀ x, x ∈ Z ↔ x ∈ Y ++ C) :
    mayB A B C = (decide (Z.length = A.length + B.length + C.length) && decide (Z.length ≤ 16)) := by
  have h := or_count ((mayS'_iff _).1 hA).2 ((mayS'_iff _).1 hB).2 ((mayS'_iff _).1 hC).2 hY hZ hy hz
  unfold mayB
  rw [hA, hB, hC]
  by_cases hl : Z.length = A.length + B.length + C.length
  · obtain ⟨h1, h2, h3⟩ := h.1 hl
    rw [h1, h2, h3, hl]
    simp
  · have : (apB A B && apB A C && apB B C) = false := by
      cases h1 : apB A B && apB A C && apB B C
      · rfl
      · simp only [Bool.and_eq_true] at h1
        exact absurd (h.2 ⟨h1.1.1, h1.1.2, h1.2⟩) hl
    rw [this, decide_eq_false hl]
    simp
/-- What flows. -/
def FlS (A B A' B' : List Int) : Prop := (∀ z, z ∈ A → z ∈ A') ∧ ∀ z, z ∈ B' → z ∈ B
end Go.Proofs.Ytaogggldpjljoaa
