/- What is put is taken, and cut off it is short: of the bytes alone. -/
import Derived.Test.YtldkelpngeopmaaRgPut
import Derived.Test.YtldkelpngeopmaaRgTake
namespace Go.Proofs.Ytldkelpngeopmaa
open Go.RowKit
set_option maxRecDepth 100000
set_option linter.unusedVariables false

/-- Where letter j stands. -/
def atRg (ls : List (List Int)) (j : Nat) : Nat := 1 + (letsB (ls.take j)).length
theorem atRg_all (ls : List (List Int)) : atRg ls ls.length = (ringB ls).length := by
  unfold atRg; rw [List.take_of_length_le (Nat.le_refl _), ringB_len]
theorem atR_zero (ls : List (List Int)) : atRg ls 0 = 1 := by simp [atRg, letsB]
theorem atR_succ {ls : List (List Int)} {j : Nat} {l : List Int} (h : ls[j]? = some l) : atRg ls (j + 1) = atRg ls j + 2 + l.length := by
  unfold atRg
  rw [List.take_add_one, h]
  simp only [Option.toList_some]
  rw [letsB_snoc, List.length_append, letB_len]; omega
theorem letsB_split (ls : List (List Int)) (j : Nat) : letsB ls = letsB (ls.take j) ++ letsB (ls.drop j) := by
  unfold letsB; rw [← List.flatMap_append, List.take_append_drop]
theorem drop_letsB (ls : List (List Int)) (more : List Int) (j : Nat) : (ringB ls ++ more).drop (atRg ls j) = letsB (ls.drop j) ++ more := by
  have e : ringB ls ++ more = (putB ls.length 1 ++ letsB (ls.take j)) ++ (letsB (ls.drop j) ++ more) := by
    unfold ringB; rw [letsB_split ls j]; simp
  have hlen : (putB (ls.length : Int) 1 ++ letsB (ls.take j)).length = atRg ls j := by simp [putB_len, atRg]
  rw [e, ← hlen, List.drop_left]
theorem head_letsB {ls : List (List Int)} {j : Nat} {l : List Int} (h : ls[j]? = some l) : letsB (ls.drop j) = letB l ++ letsB (ls.drop (j + 1)) := by
  obtain ⟨hj, e⟩ := List.getElem?_eq_some_iff.1 h
  rw [List.drop_eq_getElem_cons hj, e]; simp [letsB]
theorem num2 (l : List Int) (h : l.length ≤ 16) : num (putB (l.length : Int) 2) = (l.length : Int) := by
  rw [num_putB]
  have : (256 : Int) ^ 2 = 65536 := by decide
  rw [this]; omega
/-- The head of a letter's bytes, cut behind c. -/
theorem cut_head (l rest : List Int) (c : Nat) (hc : 2 ≤ c) : ((letB l ++ rest).take c).take 2 = putB l.length 2 := by
  rw [List.take_take, Nat.min_eq_left hc]
  unfold letB
  rw [List.append_assoc, List.take_append_of_le_length (by simp [putB_len]), List.take_of_length_le (by simp [putB_len])]
theorem cut_ok (l rest : List Int) (c : Nat) (hl : l.length ≤ 16) (hc : 2 + l.length ≤ c) : okRg ((letB l ++ rest).take c) = true ∧ szL ((letB l ++ rest).take c) = l.length ∧ leL ((letB l ++ rest).take c) = l := by
  have h1 := cut_head l rest c (by omega)
  have h2 := num2 l hl
  have hs : szL ((letB l ++ rest).take c) = l.length := by unfold szL; rw [h1, h2]; omega
  refine ⟨?_, hs, ?_⟩
  · unfold okRg
    rw [h1, h2]
    apply decide_eq_true
    simp only [List.length_take, List.length_append, letB_len]
    omega
  · unfold leL
    rw [hs, List.drop_take, List.take_take, Nat.min_eq_left (by omega)]
    unfold letB
    rw [List.append_assoc, List.drop_append_of_le_length (by simp [putB_len]), List.drop_of_length_le (by simp [putB_len]), List.nil_append, List.take_left]
theorem cut_no (l rest : List Int) (c : Nat) (hl : l.length ≤ 16) (hc : c < 2 + l.length) : okRg ((letB l ++ rest).take c) = false := by
  unfold okRg
  apply decide_eq_false
  intro ⟨g1, g2⟩
  have hlen : ((letB l ++ rest).take c).length ≤ c := by simp; omega
  rw [cut_head l rest c (by omega), num2 l hl] at g2
  omega
section
variable {ls : List (List Int)} {more : List Int} {c : Nat}
theorem tkP_at (h16 : ∀ l ∈ ls, l.length ≤ 16) : ∀ (j : Nat), j ≤ ls.length → atRg ls j ≤ c → tkP ((ringB ls ++ more).take c) j = some (ls.take j, atRg ls j)
  | 0, _, _ => by simp [tkP, atR_zero]
  | j + 1, hj, hc => by
    obtain ⟨l, hl⟩ : ∃ l, ls[j]? = some l := ⟨_, List.getElem?_eq_getElem (by omega)⟩
    have hs := atR_succ hl
    have h0 := h16 l (List.mem_of_getElem? hl)
    obtain ⟨k1, k2, k3⟩ := cut_ok l (letsB (ls.drop (j + 1)) ++ more) (c - atRg ls j) h0 (by omega)
    have e : ((ringB ls ++ more).take c).drop (atRg ls j) = (letB l ++ (letsB (ls.drop (j + 1)) ++ more)).take (c - atRg ls j) := by
      rw [List.drop_take, drop_letsB, head_letsB hl, List.append_assoc]
    simp only [tkP]
    rw [tkP_at h16 j (by omega) (by omega)]
    simp only
    rw [e, k2, k3, if_pos k1, List.take_add_one, hl, hs]
    simp
theorem tkP_cut (h16 : ∀ l ∈ ls, l.length ≤ 16) : ∀ (j : Nat), j ≤ ls.length → 1 ≤ c → c < atRg ls j → tkP ((ringB ls ++ more).take c) j = none
  | 0, _, h1, hc => by rw [atR_zero] at hc; omega
  | j + 1, hj, h1, hc => by
    by_cases h : c < atRg ls j
    · simp only [tkP]; rw [tkP_cut h16 j (by omega) h1 h]
    · obtain ⟨l, hl⟩ : ∃ l, ls[j]? = some l := ⟨_, List.getElem?_eq_getElem (by omega)⟩
      have hs := atR_succ hl
      have h0 := h16 l (List.mem_of_getElem? hl)
      have k1 := cut_no l (letsB (ls.drop (j + 1)) ++ more) (c - atRg ls j) h0 (by omega)
      have e : ((ringB ls ++ more).take c).drop (atRg ls j) = (letB l ++ (letsB (ls.drop (j + 1)) ++ more)).take (c - atRg ls j) := by
        rw [List.drop_take, drop_letsB, head_letsB hl, List.append_assoc]
      simp only [tkP]
      rw [tkP_at h16 j (by omega) (by omega)]
      simp only
      rw [e, k1]
      simp
end
theorem count_cut (ls : List (List Int)) (more : List Int) (c : Nat) (h4 : ls.length ≤ 4) (hc : 1 ≤ c) : (num (((ringB ls ++ more).take c).take 1)).toNat = ls.length := by
  rw [List.take_take, Nat.min_eq_left hc]
  unfold ringB
  rw [List.append_assoc, List.take_append_of_le_length (by simp [putB_len]), List.take_of_length_le (by simp [putB_len]), num_putB]
  have : (256 : Int) ^ 1 = 256 := by decide
  rw [this]; omega
theorem tkR_put (ls : List (List Int)) (more : List Int) (h : mayT ls = true) : tkR (ringB ls ++ more) = some (ls, (ringB ls).length) := by
  obtain ⟨h4, h16⟩ := (mayT_iff _).1 h
  have hl := ringB_len ls
  have e : ringB ls ++ more = (ringB ls ++ more).take (ringB ls ++ more).length := (List.take_of_length_le (Nat.le_refl _)).symm
  unfold tkR
  rw [if_neg (fun h0 => by have := congrArg List.length h0; rw [List.length_append, hl, List.length_nil] at this; omega)]
  rw [e, count_cut ls more _ h4 (by rw [List.length_append, hl]; omega), tkP_at h16 ls.length (Nat.le_refl _) (by rw [atRg_all, List.length_append]; omega), atRg_all, List.take_of_length_le (Nat.le_refl _)]
theorem tkR_cut (ls : List (List Int)) (c : Nat) (h : mayT ls = true) (hc : c < (ringB ls).length) : tkR ((ringB ls).take c) = none := by
  obtain ⟨h4, h16⟩ := (mayT_iff _).1 h
  by_cases h0 : c = 0
  · subst h0; rfl
  · have e : ringB ls = ringB ls ++ [] := by simp
    have hl := ringB_len ls
    unfold tkR
    rw [if_neg (fun h1 => by have := congrArg List.length h1; rw [List.length_take, List.length_nil] at this; omega)]
    rw [e, count_cut ls [] _ h4 (by omega)]
    exact tkP_cut h16 ls.length (Nat.le_refl _) (by omega) (by rw [atRg_all]; exact hc)
end Go.Proofs.Ytldkelpngeopmaa
