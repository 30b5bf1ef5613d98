/- The bytes of a label of sets, and which label of sets bytes are: plainly. -/
import Derived.Test.YtkmpmljohjelhaaJSet
import Derived.Test.YtkmpmljohjelhaaJSets
namespace Go.Proofs.Ytkmpmljohjelhaa
open Go.RowKit
set_option maxRecDepth 100000

/-- What is cut off is short. -/
theorem ts_cut (A : List Int) (hl : A.length ≤ 255) (k : Nat) (hk : k < 1 + 2 * A.length) : tsE ((putB A.length 1 ++ encS A).take k) = 3 := by
  have h1 : isShort ((putB A.length 1 ++ encS A).take k) = true := by
    rw [putB_one _ hl]
    simp only [isShort, decide_eq_true_eq, List.length_take, List.length_append, List.length_singleton, encS_len]
    rcases Nat.eq_zero_or_pos k with rfl | h0
    · exact .inl (by omega)
    · refine .inr ?_
      have : cnt (([(A.length : Int)] ++ encS A).take k) = A.length := by
        obtain ⟨j, rfl⟩ : ∃ j, k = j + 1 := ⟨k - 1, by omega⟩
        simp [cnt]
      rw [this]
      omega
  rw [tsE, h1]
  rfl
theorem encS_snoc (l : List Int) (x : Int) : encS (l ++ [x]) = encS l ++ putB x 2 := by simp [encS]
theorem putB_two (p q : Int) (hp : 0 ≤ p ∧ p < 256) (hq : 0 ≤ q ∧ q < 256) : putB (num [p, q]) 2 = [p, q] := by
  have h1 : num [p, q] = p * 256 + q := by simp [num]
  rw [h1]
  simp only [putB, Int.pow_zero, Int.ediv_one, Int.pow_succ, Int.one_mul]
  rw [show (p * 256 + q) / 256 % 256 = p by omega, show (p * 256 + q) % 256 = q by omega]
theorem enc_dec (bs : List Int) (hb : Byt bs) : ∀ k, 1 + 2 * k ≤ bs.length → encS (decW bs k) = (bs.drop 1).take (2 * k)
  | 0, _ => by simp [decW, encS]
  | k + 1, h => by
    rw [decW_succ, encS_snoc, enc_dec bs hb k (by omega)]
    have h1 : (bs.drop (1 + 2 * k)).take 2 = [bs.getD (1 + 2 * k) 0, bs.getD (1 + 2 * k + 1) 0] := by
      rw [List.drop_eq_getElem_cons (show 1 + 2 * k < bs.length by omega), List.drop_eq_getElem_cons (show 1 + 2 * k + 1 < bs.length by omega)]
      rw [List.take_succ_cons, List.take_succ_cons, List.take_zero, getD_eq (show 1 + 2 * k < bs.length by omega), getD_eq (show 1 + 2 * k + 1 < bs.length by omega)]
    rw [h1, putB_two _ _ (hb.get _) (hb.get _), ← h1, show 2 * (k + 1) = 2 * k + 2 by omega, List.take_add, List.drop_drop]
/-- What is taken is put as it was. -/
theorem ts_back (bs : List Int) (hb : Byt bs) (h : tsE bs = 0) : mayS (tsY bs) = true ∧ ∃ K : Nat, tsN bs = (K : Int) ∧ K ≤ bs.length ∧ K = 1 + 2 * (tsY bs).length ∧ putB (tsY bs).length 1 ++ encS (tsY bs) = bs.take K := by
  have hs : isShort bs = false := by
    cases hs : isShort bs
    · rfl
    · rw [tsE, hs] at h; simp at h
  have hm : mayS (decW bs (cnt bs)) = true := by
    cases hm : mayS (decW bs (cnt bs))
    · rw [tsE, hs, hm] at h; simp at h
    · rfl
  have hok : tsOk bs = true := by rw [tsOk, hs, hm]; rfl
  have hy : tsY bs = decW bs (cnt bs) := by rw [tsY, hok]; rfl
  have hn : tsN bs = 1 + 2 * (cnt bs : Int) := by rw [tsN, hok]; rfl
  have hl : 1 + 2 * cnt bs ≤ bs.length ∧ 1 ≤ bs.length := by
    simp only [isShort, decide_eq_false_iff_not] at hs
    omega
  refine ⟨by rw [hy]; exact hm, 1 + 2 * cnt bs, by rw [hn]; omega, hl.1, by rw [hy, decW_len], ?_⟩
  rw [hy, decW_len, enc_dec bs hb _ hl.1]
  have hc : putB (cnt bs) 1 = bs.take 1 := by
    have hg := hb.get 0
    have h0 : ((cnt bs : Nat) : Int) = bs.getD 0 0 := by unfold cnt; omega
    rw [putB_one _ (by unfold cnt; omega), h0]
    cases bs with
    | nil => simp at hl
    | cons x l => simp
  rw [hc, List.take_add]

/-- The bytes of a set, and of three. -/
def encW (l : List Int) : List Int := putB l.length 1 ++ encS l
def encV (A B C : List Int) : List Int := encW A ++ (encW B ++ encW C)
theorem encW_len (l : List Int) : (encW l).length = 1 + 2 * l.length := by simp [encW, putB_len, encS_len]
theorem encV_len (A B C : List Int) : (encV A B C).length = 3 + 2 * (A.length + B.length + C.length) := by simp [encV, encW_len]; omega
theorem encW_byt (l : List Int) : Byt (encW l) := (putB_byt _ _).append (encS_byt _)
theorem encV_byt (A B C : List Int) : Byt (encV A B C) := (encW_byt _).append ((encW_byt _).append (encW_byt _))
/-- How many bytes are read when one set was taken, two, three. -/
def k1 (bs : List Int) : Nat := (tsN bs).toNat
def k2 (bs : List Int) : Nat := k1 bs + (tsN (bs.drop (k1 bs))).toNat
def k3 (bs : List Int) : Nat := k2 bs + (tsN (bs.drop (k2 bs))).toNat
/-- Which error is told: each set's own, one by one; then that they may not be together. -/
def svE (bs : List Int) : Int :=
  if tsE bs = 0 then (if tsE (bs.drop (k1 bs)) = 0 then (if tsE (bs.drop (k2 bs)) = 0 then (if mayV (tsY bs) (tsY (bs.drop (k1 bs))) (tsY (bs.drop (k2 bs))) = true then 0 else 2) else tsE (bs.drop (k2 bs))) else tsE (bs.drop (k1 bs))) else tsE bs
def svN (bs : List Int) : Int := if svE bs = 0 then (k3 bs : Int) else 0
def svX (bs : List Int) : List Int := if svE bs = 0 then tsY bs else []
def svY (bs : List Int) : List Int := if svE bs = 0 then tsY (bs.drop (k1 bs)) else []
def svZ (bs : List Int) : List Int := if svE bs = 0 then tsY (bs.drop (k2 bs)) else []
theorem sv_bad {bs : List Int} {E : Int} (h : svE bs = E) (hE : E ≠ 0) : svE bs = E ∧ svN bs = 0 ∧ svX bs = [] ∧ svY bs = [] ∧ svZ bs = [] := by
  have h0 : ¬ svE bs = 0 := by rw [h]; exact hE
  exact ⟨h, by rw [svN, if_neg h0], by rw [svX, if_neg h0], by rw [svY, if_neg h0], by rw [svZ, if_neg h0]⟩
theorem sv_one {bs : List Int} (h : tsE bs ≠ 0) : svE bs = tsE bs := by rw [svE, if_neg h]
theorem sv_two {bs : List Int} (h1 : tsE bs = 0) (h : tsE (bs.drop (k1 bs)) ≠ 0) : svE bs = tsE (bs.drop (k1 bs)) := by rw [svE, if_pos h1, if_neg h]
theorem sv_three {bs : List Int} (h1 : tsE bs = 0) (h2 : tsE (bs.drop (k1 bs)) = 0) (h : tsE (bs.drop (k2 bs)) ≠ 0) : svE bs = tsE (bs.drop (k2 bs)) := by rw [svE, if_pos h1, if_pos h2, if_neg h]
theorem sv_not {bs : List Int} (h1 : tsE bs = 0) (h2 : tsE (bs.drop (k1 bs)) = 0) (h3 : tsE (bs.drop (k2 bs)) = 0) (h : mayV (tsY bs) (tsY (bs.drop (k1 bs))) (tsY (bs.drop (k2 bs))) = false) : svE bs = 2 := by rw [svE, if_pos h1, if_pos h2, if_pos h3, if_neg (by rw [h]; simp)]
theorem sv_good {bs : List Int} (h1 : tsE bs = 0) (h2 : tsE (bs.drop (k1 bs)) = 0) (h3 : tsE (bs.drop (k2 bs)) = 0) (h : mayV (tsY bs) (tsY (bs.drop (k1 bs))) (tsY (bs.drop (k2 bs))) = true) :
    svE bs = 0 ∧ svN bs = (k3 bs : Int) ∧ svX bs = tsY bs ∧ svY bs = tsY (bs.drop (k1 bs)) ∧ svZ bs = tsY (bs.drop (k2 bs)) := by
  have h0 : svE bs = 0 := by rw [svE, if_pos h1, if_pos h2, if_pos h3, if_pos h]
  exact ⟨h0, by rw [svN, if_pos h0], by rw [svX, if_pos h0], by rw [svY, if_pos h0], by rw [svZ, if_pos h0]⟩
theorem sv_zero {bs : List Int} (h : svE bs = 0) : tsE bs = 0 ∧ tsE (bs.drop (k1 bs)) = 0 ∧ tsE (bs.drop (k2 bs)) = 0 ∧ mayV (tsY bs) (tsY (bs.drop (k1 bs))) (tsY (bs.drop (k2 bs))) = true := by
  by_cases h1 : tsE bs = 0
  · by_cases h2 : tsE (bs.drop (k1 bs)) = 0
    · by_cases h3 : tsE (bs.drop (k2 bs)) = 0
      · refine ⟨h1, h2, h3, ?_⟩
        cases hm : mayV (tsY bs) (tsY (bs.drop (k1 bs))) (tsY (bs.drop (k2 bs)))
        · rw [sv_not h1 h2 h3 hm] at h; simp at h
        · rfl
      · exact absurd (sv_three h1 h2 h3 ▸ h) h3
    · exact absurd (sv_two h1 h2 ▸ h) h2
  · exact absurd (sv_one h1 ▸ h) h1
theorem mayB_parts {A B C : List Int} (h : mayV A B C = true) : mayS A = true ∧ mayS B = true ∧ mayS C = true := by
  unfold mayV at h
  simp only [Bool.and_eq_true] at h
  exact ⟨h.1.1.1.1, h.1.1.1.2, h.1.1.2⟩
theorem mayB_len {A B C : List Int} (h : mayV A B C = true) : A.length + B.length + C.length ≤ 16 := ((mayV_iff A B C).1 h).2.2
theorem mayS_255 {l : List Int} (h : mayS l = true) : l.length ≤ 255 := by
  simp only [mayS, Bool.and_eq_true, decide_eq_true_eq] at h; omega
/-- A set's bytes, and more. -/
theorem ts_encW (l more : List Int) (hw : Wrd l) (h : mayS l = true) : tsE (encW l ++ more) = 0 ∧ tsN (encW l ++ more) = ((1 + 2 * l.length : Nat) : Int) ∧ tsY (encW l ++ more) = l := by
  have e : encW l ++ more = (l.length : Int) :: (encS l ++ more) := by rw [encW, putB_one _ (mayS_255 h)]; rfl
  obtain ⟨h1, h2, h3⟩ := ts_ok l more hw h
  rw [e]
  exact ⟨h1, by rw [h2]; omega, h3⟩
theorem ts_drop (l more : List Int) : (encW l ++ more).drop (1 + 2 * l.length) = more := by rw [← encW_len]; simp
theorem sv_at (A B more : List Int) (hA : Wrd A) (hB : Wrd B) (h : mayS A = true ∧ mayS B = true) :
    tsE (encW A ++ (encW B ++ more)) = 0 ∧ k1 (encW A ++ (encW B ++ more)) = 1 + 2 * A.length ∧ (encW A ++ (encW B ++ more)).drop (k1 (encW A ++ (encW B ++ more))) = encW B ++ more ∧ k2 (encW A ++ (encW B ++ more)) = 1 + 2 * A.length + (1 + 2 * B.length) ∧ (encW A ++ (encW B ++ more)).drop (k2 (encW A ++ (encW B ++ more))) = more ∧ tsY (encW A ++ (encW B ++ more)) = A := by
  obtain ⟨a1, a2, a3⟩ := ts_encW A (encW B ++ more) hA h.1
  obtain ⟨b1, b2, b3⟩ := ts_encW B more hB h.2
  have e1 : k1 (encW A ++ (encW B ++ more)) = 1 + 2 * A.length := by rw [k1, a2, Int.toNat_natCast]
  have d1 : (encW A ++ (encW B ++ more)).drop (k1 (encW A ++ (encW B ++ more))) = encW B ++ more := by rw [e1, ts_drop]
  have e2 : k2 (encW A ++ (encW B ++ more)) = 1 + 2 * A.length + (1 + 2 * B.length) := by rw [k2, d1, e1, b2, Int.toNat_natCast]
  refine ⟨a1, e1, d1, e2, ?_, a3⟩
  rw [e2, ← List.drop_drop, ts_drop, ts_drop]
/-- What is put is taken, whatever stands behind. -/
theorem sv_enc (A B C more : List Int) (hA : Wrd A) (hB : Wrd B) (hC : Wrd C) (h : mayV A B C = true) :
    svE (encV A B C ++ more) = 0 ∧ svN (encV A B C ++ more) = ((encV A B C).length : Int) ∧ svX (encV A B C ++ more) = A ∧ svY (encV A B C ++ more) = B ∧ svZ (encV A B C ++ more) = C := by
  have hp := mayB_parts h
  have e : encV A B C ++ more = encW A ++ (encW B ++ (encW C ++ more)) := by simp [encV]
  obtain ⟨a1, e1, d1, e2, d2, a3⟩ := sv_at A B (encW C ++ more) hA hB ⟨hp.1, hp.2.1⟩
  obtain ⟨b1, b2, b3⟩ := ts_encW B (encW C ++ more) hB hp.2.1
  obtain ⟨c1, c2, c3⟩ := ts_encW C more hC hp.2.2
  rw [e]
  obtain ⟨g1, g2, g3, g4, g5⟩ := sv_good (bs := encW A ++ (encW B ++ (encW C ++ more))) a1 (by rw [d1]; exact b1) (by rw [d2]; exact c1) (by rw [d1, d2, a3, b3, c3]; exact h)
  refine ⟨g1, ?_, by rw [g3, a3], by rw [g4, d1, b3], by rw [g5, d2, c3]⟩
  rw [g2, k3, d2, e2, c2, encV_len]
  omega
/-- What is cut off is short. -/
theorem sv_cut (A B C : List Int) (hA : Wrd A) (hB : Wrd B) (h : mayV A B C = true) (M : Nat) (hM : M < 3 + 2 * (A.length + B.length + C.length)) : svE ((encV A B C).take M) = 3 := by
  have hp := mayB_parts h
  by_cases h1 : M < 1 + 2 * A.length
  · have e : (encV A B C).take M = (encW A).take M := by rw [encV, List.take_append_of_le_length (by rw [encW_len]; omega)]
    have := ts_cut A (mayS_255 hp.1) M h1
    rw [e, sv_one (by rw [encW, this]; simp)]
    exact this
  · obtain ⟨M1, rfl⟩ : ∃ M1, M = 1 + 2 * A.length + M1 := ⟨M - (1 + 2 * A.length), by omega⟩
    have e : (encV A B C).take (1 + 2 * A.length + M1) = encW A ++ (encW B ++ encW C).take M1 := by
      rw [encV, ← encW_len, List.take_length_add_append]
    by_cases h2 : M1 < 1 + 2 * B.length
    · have e2 : (encW B ++ encW C).take M1 = (encW B).take M1 := by rw [List.take_append_of_le_length (by rw [encW_len]; omega)]
      obtain ⟨a1, a2, a3⟩ := ts_encW A ((encW B).take M1) hA hp.1
      have d1 : (encW A ++ (encW B).take M1).drop (k1 (encW A ++ (encW B).take M1)) = (encW B).take M1 := by rw [k1, a2, Int.toNat_natCast, ts_drop]
      have := ts_cut B (mayS_255 hp.2.1) M1 h2
      rw [e, e2, sv_two a1 (by rw [d1, encW, this]; simp), d1]
      exact this
    · obtain ⟨M2, rfl⟩ : ∃ M2, M1 = 1 + 2 * B.length + M2 := ⟨M1 - (1 + 2 * B.length), by omega⟩
      have e2 : (encW B ++ encW C).take (1 + 2 * B.length + M2) = encW B ++ (encW C).take M2 := by rw [← encW_len, List.take_length_add_append]
      obtain ⟨a1, e1, d1, e2', d2, a3⟩ := sv_at A B ((encW C).take M2) hA hB ⟨hp.1, hp.2.1⟩
      obtain ⟨b1, _, _⟩ := ts_encW B ((encW C).take M2) hB hp.2.1
      have := ts_cut C (mayS_255 hp.2.2) M2 (by omega)
      rw [e, e2, sv_three a1 (by rw [d1]; exact b1) (by rw [d2, encW, this]; simp), d2]
      exact this
/-- How far one set reaches. -/
theorem ts_reach (bs : List Int) (hb : Byt bs) (k : Nat) (hk : k ≤ bs.length) (h : tsE (bs.drop k) = 0) : ∃ m : Nat, tsN (bs.drop k) = (m : Int) ∧ k + m ≤ bs.length ∧ encW (tsY (bs.drop k)) = (bs.drop k).take m ∧ 0 < m := by
  obtain ⟨_, K, h1, h2, h3, h4⟩ := ts_back _ (hb.drop k) h
  rw [List.length_drop] at h2
  exact ⟨K, h1, by omega, h4, by omega⟩
/-- What is taken is put as it was. -/
theorem sv_back (bs : List Int) (hb : Byt bs) (h : svE bs = 0) : ∃ m : Nat, svN bs = (m : Int) ∧ m ≤ bs.length ∧ encV (svX bs) (svY bs) (svZ bs) = bs.take m ∧ mayV (svX bs) (svY bs) (svZ bs) = true ∧ 0 < m := by
  obtain ⟨h1, h2, h3, h4⟩ := sv_zero h
  obtain ⟨_, g2, g3, g4, g5⟩ := sv_good h1 h2 h3 h4
  obtain ⟨m1, a1, a2, a3, a4⟩ := ts_reach bs hb 0 (by omega) (by simpa using h1)
  rw [List.drop_zero] at a1 a3
  have e1 : k1 bs = m1 := by rw [k1, a1]; simp
  obtain ⟨m2, b1, b2, b3, b4⟩ := ts_reach bs hb (k1 bs) (by omega) h2
  have e2 : k2 bs = m1 + m2 := by rw [k2, b1, e1]; simp
  obtain ⟨m3, c1, c2, c3, c4⟩ := ts_reach bs hb (k2 bs) (by omega) h3
  have e3 : k3 bs = m1 + m2 + m3 := by rw [k3, c1, e2]; simp
  refine ⟨k3 bs, g2, by omega, ?_, by rw [g3, g4, g5]; exact h4, by omega⟩
  rw [g3, g4, g5, encV, a3, b3, c3, e1, e2, e3, List.take_add, List.take_add, List.append_assoc, ← List.drop_drop, List.drop_drop]
theorem encV_inj {A B C A' B' C' : List Int} (hA : Wrd A) (hB : Wrd B) (hC : Wrd C) (hA' : Wrd A') (hB' : Wrd B') (hC' : Wrd C') (h : mayV A B C = true) (h' : mayV A' B' C' = true) (e : encV A B C = encV A' B' C') : A = A' ∧ B = B' ∧ C = C' := by
  obtain ⟨_, _, a1, a2, a3⟩ := sv_enc A B C [] hA hB hC h
  obtain ⟨_, _, b1, b2, b3⟩ := sv_enc A' B' C' [] hA' hB' hC' h'
  rw [e] at a1 a2 a3
  exact ⟨a1.symm.trans b1, a2.symm.trans b2, a3.symm.trans b3⟩
end Go.Proofs.Ytkmpmljohjelhaa
