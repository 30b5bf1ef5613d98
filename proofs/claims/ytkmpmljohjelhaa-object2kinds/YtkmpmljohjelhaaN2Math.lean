/- Objects of the new kernel as bytes, plainly: which ones may be, how one lies in bytes, which bytes are one, and that the one is the other's way back. -/
import Derived.Test.YtkmpmljohjelhaaOdMath
import Derived.Test.YtkmpmljohjelhaaSc
namespace Go.Proofs.Ytkmpmljohjelhaa
open Go.RowKit
set_option maxRecDepth 100000

/-- May these be an object's three sets? None is owned. -/
def mayQ (A B C : List Int) : Bool := mayV A B C && decide (C = [])
def mayD2 (o : Od) : Bool := isN o.i && isK o.k && mayQ o.va o.vb o.vc && mayW o
/-- The bytes of all of it. -/
def encD2 (o : Od) : List Int := 2 :: o.k :: (putB o.i 8 ++ (encV o.va o.vb o.vc ++ ownB o))
/-- What stands behind the sets of these bytes. -/
def restO2 (bs : List Int) : List Int := (bs.drop 10).drop (svN (bs.drop 10)).toNat
/-- The object that bytes say. -/
def tkO2 (bs : List Int) : Od :=
  ⟨num ((bs.drop 2).take 8), bs.getD 1 0, 0, [], svX (bs.drop 10), svY (bs.drop 10), svZ (bs.drop 10), owQ (bs.getD 1 0) (restO2 bs) 0, owQ (bs.getD 1 0) (restO2 bs) 2, owQ (bs.getD 1 0) (restO2 bs) 4,
    owX (bs.getD 1 0) (restO2 bs), owS (bs.getD 1 0) (restO2 bs), owL (bs.getD 1 0) (restO2 bs)⟩
/-- Are they one? 0: they are; 3: short; 2: not of the form. -/
def tE2 (bs : List Int) : Int :=
  if bs.length < 1 then 3 else if bs.getD 0 0 ≠ 2 then 2 else if bs.length < 2 then 3 else if isK (bs.getD 1 0) = false then 2 else if bs.length < 10 then 3 else
  if svE (bs.drop 10) ≠ 0 then svE (bs.drop 10) else if owE (bs.getD 1 0) (restO2 bs) ≠ 0 then owE (bs.getD 1 0) (restO2 bs) else
  if mayD2 (tkO2 bs) = true ∧ (restO2 bs).length ≤ owN (bs.getD 1 0) (restO2 bs) then 0 else 2
/-- Only what its kind has, and no label of levels. -/
def Od.own2 (o : Od) : Od :=
  ⟨o.i, o.k, 0, [], o.va, o.vb, o.vc, if o.k = 1 then o.q else 0, if o.k = 1 then o.u else 0, if o.k = 1 then o.n else 0, if o.k = 2 then o.xs else [], if o.k = 3 then o.cs else [], if o.k = 4 then o.ls else []⟩
theorem mayD2_iff {o : Od} : mayD2 o = true ↔ isN o.i = true ∧ isK o.k = true ∧ mayQ o.va o.vb o.vc = true ∧ mayW o = true := by simp [mayD2, and_assoc]
theorem mayQ_V {A B C : List Int} (h : mayQ A B C = true) : mayV A B C = true := by
  simp only [mayQ, Bool.and_eq_true] at h; exact h.1

theorem drop10N (o : Od) (more : List Int) : (encD2 o ++ more).drop 10 = encV o.va o.vb o.vc ++ (ownB o ++ more) := by
  simp only [encD2, List.cons_append, List.append_assoc]
  rw [List.drop_succ_cons, List.drop_succ_cons, List.drop_append_of_le_length (by simp [putB_len]), List.drop_of_length_le (by simp [putB_len]), List.nil_append]
theorem drop2N (o : Od) (more : List Int) : ((encD2 o ++ more).drop 2).take 8 = putB o.i 8 := by
  simp only [encD2, List.cons_append, List.append_assoc]
  rw [List.drop_succ_cons, List.drop_succ_cons, List.drop_zero, List.take_append_of_le_length (by simp [putB_len]), List.take_of_length_le (by simp [putB_len])]
theorem encD2_len (o : Od) : (encD2 o).length = 13 + 2 * (o.va.length + o.vb.length + o.vc.length) + (ownB o).length := by
  simp only [encD2, List.length_cons, List.length_append, putB_len, encV_len]; omega
theorem rest2_put (o : Od) (ok : o.Ok) (hp : mayQ o.va o.vb o.vc = true) (more : List Int) : restO2 (encD2 o ++ more) = ownB o ++ more := by
  have h := sv_enc o.va o.vb o.vc (ownB o ++ more) ok.va ok.vb ok.vc (mayQ_V hp)
  unfold restO2
  rw [drop10N, h.2.1, Int.toNat_natCast, List.drop_append_of_le_length (Nat.le_refl _), List.drop_of_length_le (Nat.le_refl _), List.nil_append]
/-- What is put is taken. -/
theorem tkO2_put (o : Od) (ok : o.Ok) (hm : mayD2 o = true) (more : List Int) : tkO2 (encD2 o ++ more) = o.own2 := by
  obtain ⟨_, hk, hp, hw⟩ := mayD2_iff.1 hm
  have hk' := isK_iff.1 hk
  have h := sv_enc o.va o.vb o.vc (ownB o ++ more) ok.va ok.vb ok.vc (mayQ_V hp)
  obtain ⟨_, _, w3, w4, w5, w6⟩ := ow_put o ok hk hw more
  unfold tkO2 Od.own2
  rw [rest2_put o ok hp, drop10N, drop2N, h.2.2.1, h.2.2.2.1, h.2.2.2.2, num_putB, mod8 _ ok.i]
  have e1 : (encD2 o ++ more).getD 1 0 = o.k := rfl
  rw [e1]
  obtain hc | hc | hc | hc : o.k = 1 ∨ o.k = 2 ∨ o.k = 3 ∨ o.k = 4 := by omega
  · rw [if_pos hc] at w3
    obtain ⟨q1, q2, q3⟩ := w3
    rw [q1, q2, q3, hc]; rfl
  · rw [w4 hc, hc]; rfl
  · rw [w5 hc, hc]; rfl
  · rw [w6 hc, hc]; rfl
theorem mayD2_own {o : Od} (hm : mayD2 o = true) : mayD2 o.own2 = true := by
  obtain ⟨hi, hk, hp, hw⟩ := mayD2_iff.1 hm
  have hk' := isK_iff.1 hk
  refine mayD2_iff.2 ⟨hi, hk, hp, ?_⟩
  obtain hc | hc | hc | hc : o.k = 1 ∨ o.k = 2 ∨ o.k = 3 ∨ o.k = 4 := by omega
  · refine (mayW1 (o := o.own2) hc).2 ?_
    simpa [Od.own2, hc] using (mayW1 hc).1 hw
  · refine (mayW2 (o := o.own2) hc).2 ?_
    simpa [Od.own2, hc] using (mayW2 hc).1 hw
  · rw [mayW3 (o := o.own2) hc]
    rw [mayW3 hc] at hw
    simpa [Od.own2, hc] using hw
  · rw [mayW4 (o := o.own2) hc]
    rw [mayW4 hc] at hw
    simpa [Od.own2, hc] using hw
theorem tE2_put (o : Od) (ok : o.Ok) (hm : mayD2 o = true) (more : List Int) : tE2 (encD2 o ++ more) = if more = [] then 0 else 2 := by
  obtain ⟨_, hk, hp, hw⟩ := mayD2_iff.1 hm
  have h := sv_enc o.va o.vb o.vc (ownB o ++ more) ok.va ok.vb ok.vc (mayQ_V hp)
  obtain ⟨w1, w2, _⟩ := ow_put o ok hk hw more
  have hl : 12 ≤ (encD2 o ++ more).length := by rw [List.length_append, encD2_len]; omega
  have e0 : (encD2 o ++ more).getD 0 0 = 2 := rfl
  have e1 : (encD2 o ++ more).getD 1 0 = o.k := rfl
  unfold tE2
  rw [if_neg (by omega), if_neg (by rw [e0]; exact fun h => h rfl), if_neg (by omega), e1, if_neg (by simp [hk]), if_neg (by omega), drop10N, if_neg (by simp [h.1]), rest2_put o ok hp, if_neg (by simp [w1]), tkO2_put o ok hm, w2, mayD2_own hm]
  cases more with
  | nil => simp
  | cons x l => simp
theorem tE2_cut (o : Od) (hm : mayD2 o = true) (c : Nat) (hc : c < (encD2 o).length) (ok : o.Ok) : tE2 ((encD2 o).take c) = 3 := by
  obtain ⟨_, hk, hp, hw⟩ := mayD2_iff.1 hm
  rw [encD2_len] at hc
  have hlc : ((encD2 o).take c).length = c := by rw [List.length_take, encD2_len]; omega
  by_cases c1 : c < 1
  · unfold tE2; rw [if_pos (by omega)]
  by_cases c2 : c < 2
  · have e0 : ((encD2 o).take c).getD 0 0 = 2 := by
      obtain ⟨j, rfl⟩ : ∃ j, c = j + 1 := ⟨c - 1, by omega⟩
      rfl
    unfold tE2; rw [if_neg (by omega), if_neg (by rw [e0]; exact fun h => h rfl), if_pos (by omega)]
  obtain ⟨j, rfl⟩ : ∃ j, c = j + 1 + 1 := ⟨c - 2, by omega⟩
  have e0 : ((encD2 o).take (j + 1 + 1)).getD 0 0 = 2 := rfl
  have e1 : ((encD2 o).take (j + 1 + 1)).getD 1 0 = o.k := rfl
  unfold tE2
  rw [if_neg (by omega), if_neg (by rw [e0]; exact fun h => h rfl), if_neg (by omega), e1, if_neg (by simp [hk])]
  by_cases c3 : j + 1 + 1 < 10
  · rw [if_pos (by omega)]
  rw [if_neg (by omega)]
  have ed : ((encD2 o).take (j + 1 + 1)).drop 10 = (encV o.va o.vb o.vc ++ ownB o).take (j + 1 + 1 - 10) := by
    have := drop10N o []
    rw [List.append_nil, List.append_nil] at this
    rw [List.drop_take, this]
  rw [ed]
  have hle := encV_len o.va o.vb o.vc
  by_cases c4 : j + 1 + 1 - 10 < 3 + 2 * (o.va.length + o.vb.length + o.vc.length)
  · have h := sv_cut o.va o.vb o.vc ok.va ok.vb (mayQ_V hp) (j + 1 + 1 - 10) c4
    rw [List.take_append_of_le_length (by omega), h]
    rfl
  · have h := sv_enc o.va o.vb o.vc ((ownB o).take (j + 1 + 1 - 10 - (encV o.va o.vb o.vc).length)) ok.va ok.vb ok.vc (mayQ_V hp)
    rw [List.take_append, List.take_of_length_le (by omega)]
    rw [if_neg (by rw [h.1]; exact fun h => h rfl)]
    have er : restO2 ((encD2 o).take (j + 1 + 1)) = (ownB o).take (j + 1 + 1 - 10 - (encV o.va o.vb o.vc).length) := by
      unfold restO2
      rw [ed, List.take_append, List.take_of_length_le (by omega), h.2.1, Int.toNat_natCast, List.drop_append_of_le_length (Nat.le_refl _), List.drop_of_length_le (Nat.le_refl _), List.nil_append]
    rw [er, ow_cut o hk hw _ (by omega)]
    rfl
/-- What is taken is put as it was. -/
theorem tE2_back (bs : List Int) (hb : Byt bs) (h : tE2 bs = 0) : encD2 (tkO2 bs) = bs ∧ mayD2 (tkO2 bs) = true := by
  unfold tE2 at h
  split at h
  · omega
  split at h
  · omega
  split at h
  · omega
  split at h
  · omega
  split at h
  · omega
  split at h
  · rename_i h1; exact absurd h h1
  split at h
  · rename_i h1; exact absurd h h1
  split at h
  case isFalse => omega
  rename_i h0 h1 h2 h3 h4 h5 h6 h7
  have e5 : svE (bs.drop 10) = 0 := by simpa using h5
  have e6 : owE (bs.getD 1 0) (restO2 bs) = 0 := by simpa using h6
  have hk : isK (bs.getD 1 0) = true := by simpa using h3
  refine ⟨?_, h7.1⟩
  obtain ⟨m, m1, m2, m3, _⟩ := sv_back (bs.drop 10) (hb.drop 10) e5
  have hbr : Byt (restO2 bs) := (hb.drop 10).drop _
  obtain ⟨o1, o2⟩ := ow_back (restO2 bs) hbr (tkO2 bs) hk e6 (fun h => ⟨congrArg (fun t => owQ t (restO2 bs) 0) h, congrArg (fun t => owQ t (restO2 bs) 2) h, congrArg (fun t => owQ t (restO2 bs) 4) h⟩) (fun h => congrArg (fun t => owX t (restO2 bs)) h)
    (fun h => congrArg (fun t => owS t (restO2 bs)) h) (fun h => congrArg (fun t => owL t (restO2 bs)) h)
  have hl8 : ((bs.drop 2).take 8).length = 8 := by simp; omega
  have hn := putB_num ((bs.drop 2).take 8) ((hb.drop 2).take 8)
  rw [hl8] at hn
  have er : restO2 bs = (bs.drop 10).drop m := by unfold restO2; rw [m1]; rfl
  have ho : ownB (tkO2 bs) = (bs.drop 10).drop m := by
    rw [o1, ← er]
    exact List.take_of_length_le h7.2
  unfold encD2
  rw [ho]
  show 2 :: bs.getD 1 0 :: (putB (num ((bs.drop 2).take 8)) 8 ++ (encV (svX (bs.drop 10)) (svY (bs.drop 10)) (svZ (bs.drop 10)) ++ (bs.drop 10).drop m)) = bs
  rw [hn, m3, List.take_append_drop]
  match bs, h2, h1 with
  | x :: y :: r, _, h1 =>
    have hx : x = 2 := by simpa using h1
    subst hx
    simp only [List.drop_succ_cons, List.drop_zero, List.getD_cons_succ, List.getD_cons_zero, List.take_append_drop]
end Go.Proofs.Ytkmpmljohjelhaa
