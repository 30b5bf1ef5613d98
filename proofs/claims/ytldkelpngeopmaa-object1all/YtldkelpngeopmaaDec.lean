/- What is put is taken: plainly, of the bytes of a set. -/
import Derived.Test.YtldkelpngeopmaaTakeSet
namespace Go.Proofs.Ytldkelpngeopmaa
set_option maxRecDepth 100000

theorem encS_cons (x : Int) (l : List Int) : encS (x :: l) = putB x 2 ++ encS l := rfl
theorem encS_drop : ∀ (i : Nat) (l : List Int), (encS l).drop (2 * i) = encS (l.drop i)
  | 0, l => by simp
  | i + 1, [] => by simp [encS]
  | i + 1, x :: l => by
    rw [encS_cons, List.drop_succ_cons, show 2 * (i + 1) = 2 * i + 1 + 1 by omega]
    exact encS_drop i l
theorem num_two (x : Int) (h : 0 ≤ x ∧ x < 65536) : num (putB x 2) = x := by
  rw [num_putB, show (256 : Int) ^ 2 = 65536 from rfl]; omega
theorem decW_enc (c : Int) (l more : List Int) (hw : Wrd l) : decW (c :: (encS l ++ more)) l.length = l := by
  apply List.ext_getElem (by simp [decW_len])
  intro i h1 h2
  simp only [decW, List.getElem_map, List.getElem_range]
  rw [show 1 + 2 * i = 2 * i + 1 by omega, List.drop_succ_cons, List.drop_append_of_le_length (by rw [encS_len]; omega), encS_drop]
  have : l.drop i = l[i] :: l.drop (i + 1) := List.drop_eq_getElem_cons h2
  rw [this, encS_cons, List.append_assoc, List.take_append_of_le_length (by simp [putB_len]), List.take_of_length_le (by simp [putB_len])]
  exact num_two _ (hw _ (List.getElem_mem h2))
theorem putB_one (m : Nat) (h : m ≤ 255) : putB m 1 = [(m : Int)] := by
  simp only [putB, Int.pow_zero, Int.ediv_one]
  rw [Int.emod_eq_of_lt (by omega) (by omega)]
/-- Bytes that are a count and so many categories, and more. -/
theorem ts_enc (l more : List Int) (hw : Wrd l) (h : l.length ≤ 255) :
    cnt ((l.length : Int) :: (encS l ++ more)) = l.length ∧ isShort ((l.length : Int) :: (encS l ++ more)) = false ∧ decW ((l.length : Int) :: (encS l ++ more)) (cnt ((l.length : Int) :: (encS l ++ more))) = l := by
  have hc : cnt ((l.length : Int) :: (encS l ++ more)) = l.length := by simp [cnt]
  refine ⟨hc, ?_, by rw [hc]; exact decW_enc _ l more hw⟩
  simp only [isShort, decide_eq_false_iff_not, hc, List.length_cons, List.length_append, encS_len]
  omega
theorem ts_ok (l more : List Int) (hw : Wrd l) (h : mayS l = true) :
    tsE ((l.length : Int) :: (encS l ++ more)) = 0 ∧ tsN ((l.length : Int) :: (encS l ++ more)) = 1 + 2 * (l.length : Int) ∧ tsY ((l.length : Int) :: (encS l ++ more)) = l := by
  have hl : l.length ≤ 255 := by
    simp only [mayS, Bool.and_eq_true, decide_eq_true_eq] at h; omega
  obtain ⟨h1, h2, h3⟩ := ts_enc l more hw hl
  have h4 : tsOk ((l.length : Int) :: (encS l ++ more)) = true := by rw [tsOk, h2, h3, h]; rfl
  refine ⟨?_, ?_, ?_⟩
  · rw [tsE, h2, h3, h]; rfl
  · rw [tsN, h4, h1]; rfl
  · rw [tsY, h4, h3]; rfl
theorem ts_form (l more : List Int) (hw : Wrd l) (h : mayS l = false) (hl : l.length ≤ 255) :
    tsE ((l.length : Int) :: (encS l ++ more)) = 2 ∧ tsN ((l.length : Int) :: (encS l ++ more)) = 0 ∧ tsY ((l.length : Int) :: (encS l ++ more)) = [] := by
  obtain ⟨h1, h2, h3⟩ := ts_enc l more hw hl
  have h4 : tsOk ((l.length : Int) :: (encS l ++ more)) = false := by rw [tsOk, h2, h3, h]; rfl
  refine ⟨?_, ?_, ?_⟩
  · rw [tsE, h2, h3, h]; rfl
  · rw [tsN, h4]; rfl
  · rw [tsY, h4]; rfl
end Go.Proofs.Ytldkelpngeopmaa
