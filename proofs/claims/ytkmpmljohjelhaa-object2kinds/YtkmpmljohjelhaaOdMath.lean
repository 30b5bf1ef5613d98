/- Objects of either kernel, plainly: what one says, and how what its kind has lies in bytes, and is read. -/
import Derived.Test.YtkmpmljohjelhaaLab
import Derived.Test.YtkmpmljohjelhaaJSet
import Derived.Test.YtkmpmljohjelhaaJRing
import Derived.Test.YtkmpmljohjelhaaJName
namespace Go.Proofs.Ytkmpmljohjelhaa
open Go.RowKit
set_option maxRecDepth 100000

/-- What an object says: its name, kind, label of levels, label of sets, and what its kind has. -/
structure Od where
  i : Int
  k : Int
  d : Int
  ps : List (Int × Int)
  va : List Int
  vb : List Int
  vc : List Int
  q : Int
  u : Int
  n : Int
  xs : List Int
  cs : List Int
  ls : List (List Int)

def noStar (ps : List (Int × Int)) : Bool := ps.all fun p => decide (p.2 ≠ 0)
/-- May it be what its kind has? -/
def mayW (o : Od) : Bool :=
  if o.k = 1 then decide (0 ≤ o.u ∧ o.u ≤ o.q ∧ o.q ≤ 400 ∧ 1 ≤ o.n ∧ o.n ≤ 64) else if o.k = 2 then decide (o.xs.length ≤ 64) else if o.k = 3 then mayS o.cs else mayT o.ls
def isK (k : Int) : Bool := decide (1 ≤ k ∧ k ≤ 4)
/-- The bytes of what its kind has. -/
def ownB (o : Od) : List Int :=
  if o.k = 1 then putB o.q 2 ++ putB o.u 2 ++ putB o.n 2 else if o.k = 2 then letB o.xs else if o.k = 3 then putB o.cs.length 1 ++ encS o.cs else ringB o.ls

/-- What stands behind a label: whether it is all there and good, how many bytes it has, what it says. -/
def owE (k : Int) (z : List Int) : Int :=
  if k = 1 then (if z.length < 6 then 3 else 0) else if k = 2 then (if okRg z = true then 0 else 3) else if k = 3 then tsE z else
    match tkR z with
    | none => 3
    | some (ls, _) => if mayT ls = true then 0 else 2
def owN (k : Int) (z : List Int) : Nat :=
  if k = 1 then 6 else if k = 2 then 2 + szL z else if k = 3 then (tsN z).toNat else
    match tkR z with
    | none => 0
    | some (_, p) => p
def owQ (k : Int) (z : List Int) (j : Nat) : Int := if k = 1 then num ((z.drop j).take 2) else 0
def owX (k : Int) (z : List Int) : List Int := if k = 2 then leL z else []
def owS (k : Int) (z : List Int) : List Int := if k = 3 then tsY z else []
def owL (k : Int) (z : List Int) : List (List Int) :=
  if k = 4 then
    match tkR z with
    | none => []
    | some (ls, _) => ls
  else []

/-- Numbers of their widths. -/
structure Od.Ok (o : Od) : Prop where
  i : 0 ≤ o.i ∧ o.i < 18446744073709551616
  ps : PE.Ok o.ps
  va : Wrd o.va
  vb : Wrd o.vb
  vc : Wrd o.vc
  cs : Wrd o.cs

theorem isK_iff {k : Int} : isK k = true ↔ 1 ≤ k ∧ k ≤ 4 := by simp [isK]
theorem putB_num : ∀ (zs : List Int), Byt zs → putB (num zs) zs.length = zs := by
  suffices h : ∀ (ys : List Int), (∀ x ∈ ys, 0 ≤ x ∧ x < 256) → putB (num ys.reverse) ys.length = ys.reverse by
    intro zs hz
    have := h zs.reverse (fun x hx => hz x (by simpa using hx))
    simpa using this
  intro ys
  induction ys with
  | nil => intro _; rfl
  | cons y ys ih =>
    intro h
    have h1 := ih (fun x hx => h x (by simp [hx]))
    have h2 := h y (by simp)
    rw [List.reverse_cons, num_snoc, List.length_cons, putB_split, Int.pow_one, show (num ys.reverse * 256 + y) / 256 = num ys.reverse by omega, h1]
    simp only [putB, Int.pow_zero, Int.ediv_one]
    rw [show (num ys.reverse * 256 + y) % 256 = y by omega]
theorem putB_num2 (z : List Int) (hb : Byt z) (j : Nat) (h : j + 2 ≤ z.length) : putB (num ((z.drop j).take 2)) 2 = (z.drop j).take 2 := by
  have h1 := putB_num ((z.drop j).take 2) ((hb.drop _).take _)
  rwa [show ((z.drop j).take 2).length = 2 by simp; omega] at h1
theorem num2X (l : List Int) (h : l.length ≤ 65535) : num (putB (l.length : Int) 2) = (l.length : Int) := by
  rw [num_putB, show (256 : Int) ^ 2 = 65536 by decide]; omega
theorem letX_ok (l rest : List Int) (h : l.length ≤ 65535) : okRg (letB l ++ rest) = true ∧ szL (letB l ++ rest) = l.length ∧ leL (letB l ++ rest) = l := by
  have h1 : (letB l ++ rest).take 2 = putB l.length 2 := by
    unfold letB
    rw [List.append_assoc, List.take_append_of_le_length (by simp [putB_len]), List.take_of_length_le (by simp [putB_len])]
  have hs : szL (letB l ++ rest) = l.length := by unfold szL; rw [h1, num2X l h]; omega
  refine ⟨?_, hs, ?_⟩
  · unfold okRg
    rw [h1, num2X l h]
    apply decide_eq_true
    simp only [List.length_append, letB_len]
    omega
  · unfold leL
    rw [hs]
    unfold letB
    rw [List.append_assoc, List.drop_append_of_le_length (by simp [putB_len]), List.drop_of_length_le (by simp [putB_len]), List.nil_append, List.take_left]
theorem letX_no (l : List Int) (c : Nat) (h : l.length ≤ 65535) (hc : c < 2 + l.length) : okRg ((letB l).take c) = false := by
  unfold okRg
  apply decide_eq_false
  intro ⟨g1, g2⟩
  have hlen : ((letB l).take c).length ≤ c := by simp; omega
  have h1 : ((letB l).take c).take 2 = putB l.length 2 := by
    rw [List.take_take, Nat.min_eq_left (by omega)]
    unfold letB
    rw [List.take_append_of_le_length (by simp [putB_len]), List.take_of_length_le (by simp [putB_len])]
  rw [h1, num2X l h] at g2
  omega
theorem letX_back (z : List Int) (hb : Byt z) (h : okRg z = true) : letB (leL z) = z.take (2 + szL z) ∧ 2 + szL z ≤ z.length := by
  have h2 := of_decide_eq_true h
  have hn := (num_bd (z.take 2) (hb.take 2)).1
  have hs : (szL z : Int) = num (z.take 2) := by unfold szL; omega
  have hl : 2 + szL z ≤ z.length := by omega
  refine ⟨?_, hl⟩
  have hlen : (leL z).length = szL z := by unfold leL; simp; omega
  unfold letB
  rw [hlen, hs]
  have h3 := putB_num2 z hb 0 (by omega)
  rw [List.drop_zero] at h3
  rw [h3, List.take_add]; rfl
theorem tkP_back (z : List Int) (hb : Byt z) : ∀ (k : Nat) (ls : List (List Int)) (p : Nat), 1 ≤ z.length → tkP z k = some (ls, p) → z.take 1 ++ letsB ls = z.take p ∧ p ≤ z.length ∧ ls.length = k
  | 0, ls, p, hl, h => by
    simp only [tkP, Option.some.injEq, Prod.mk.injEq] at h
    obtain ⟨rfl, rfl⟩ := h
    exact ⟨by simp [letsB], hl, rfl⟩
  | k + 1, ls, p, hl, h => by
    simp only [tkP] at h
    cases e : tkP z k with
    | none => rw [e] at h; simp at h
    | some r =>
      obtain ⟨ms, r⟩ := r
      rw [e] at h
      simp only at h
      obtain ⟨i1, i2, i3⟩ := tkP_back z hb k ms r hl e
      split at h
      · rename_i ho
        simp only [Option.some.injEq, Prod.mk.injEq] at h
        obtain ⟨rfl, rfl⟩ := h
        obtain ⟨b1, b2⟩ := letX_back (z.drop r) (hb.drop r) ho
        rw [List.length_drop] at b2
        refine ⟨?_, by omega, by simp [i3]⟩
        rw [letsB_snoc, ← List.append_assoc, i1, b1, Nat.add_assoc]
        exact List.take_add.symm
      · simp at h
theorem tkR_back (z : List Int) (hb : Byt z) {ls : List (List Int)} {p : Nat} (h : tkR z = some (ls, p)) : ringB ls = z.take p ∧ p ≤ z.length := by
  unfold tkR at h
  split at h
  · simp at h
  · rename_i hne
    have hl : 1 ≤ z.length := by cases z with
      | nil => exact absurd rfl hne
      | cons => simp
    obtain ⟨h1, h2, h3⟩ := tkP_back z hb _ ls p hl h
    refine ⟨?_, h2⟩
    have hn := (num_bd (z.take 1) (hb.take 1)).1
    have h4 := putB_num (z.take 1) (hb.take 1)
    rw [show (z.take 1).length = 1 by simp; omega] at h4
    unfold ringB
    rw [show ((ls.length : Nat) : Int) = num (z.take 1) by omega, h4, h1]

theorem tsX_cut (A : List Int) (hl : A.length ≤ 255) (k : Nat) (hk : k < 1 + 2 * A.length) : tsE ((putB A.length 1 ++ encS A).take k) = 3 := by
  have h1 : isShort ((putB A.length 1 ++ encS A).take k) = true := by
    rw [putB_one _ hl]
    simp only [isShort, decide_eq_true_eq, List.length_take, List.length_append, List.length_singleton, encS_len]
    rcases Nat.eq_zero_or_pos k with rfl | h0
    · exact .inl (by omega)
    · refine .inr ?_
      have : cnt (([(A.length : Int)] ++ encS A).take k) = A.length := by
        obtain ⟨j, rfl⟩ : ∃ j, k = j + 1 := ⟨k - 1, by omega⟩
        simp [cnt]
      rw [this]
      omega
  rw [tsE, h1]
  rfl
theorem encX_dec (bs : List Int) (hb : Byt bs) : ∀ k, 1 + 2 * k ≤ bs.length → encS (decW bs k) = (bs.drop 1).take (2 * k)
  | 0, _ => by simp [decW, encS]
  | k + 1, h => by
    have h0 : encS (decW bs k ++ [num ((bs.drop (1 + 2 * k)).take 2)]) = encS (decW bs k) ++ putB (num ((bs.drop (1 + 2 * k)).take 2)) 2 := by simp [encS]
    rw [decW_succ, h0, encX_dec bs hb k (by omega), putB_num2 bs hb _ (by omega), show 2 * (k + 1) = 2 * k + 2 by omega, List.take_add, List.drop_drop]
theorem tsX_back (bs : List Int) (hb : Byt bs) (h : tsE bs = 0) : ∃ K : Nat, tsN bs = (K : Int) ∧ K ≤ bs.length ∧ putB (tsY bs).length 1 ++ encS (tsY bs) = bs.take K := by
  have hs : isShort bs = false := by
    cases hs : isShort bs
    · rfl
    · rw [tsE, hs] at h; simp at h
  have hm : mayS (decW bs (cnt bs)) = true := by
    cases hm : mayS (decW bs (cnt bs))
    · rw [tsE, hs, hm] at h; simp at h
    · rfl
  have hok : tsOk bs = true := by rw [tsOk, hs, hm]; rfl
  have hy : tsY bs = decW bs (cnt bs) := by rw [tsY, hok]; rfl
  have hn : tsN bs = 1 + 2 * (cnt bs : Int) := by rw [tsN, hok]; rfl
  have hl : 1 + 2 * cnt bs ≤ bs.length ∧ 1 ≤ bs.length := by
    simp only [isShort, decide_eq_false_iff_not] at hs
    omega
  refine ⟨1 + 2 * cnt bs, by rw [hn]; omega, hl.1, ?_⟩
  rw [hy, decW_len, encX_dec bs hb _ hl.1]
  have hc : putB (cnt bs) 1 = bs.take 1 := by
    have hg := hb.get 0
    have h0 : ((cnt bs : Nat) : Int) = bs.getD 0 0 := by unfold cnt; omega
    rw [putB_one _ (by unfold cnt; omega), h0]
    cases bs with
    | nil => simp at hl
    | cons x l => simp
  rw [hc, List.take_add]

theorem mayW1 {o : Od} (hk : o.k = 1) : mayW o = true ↔ 0 ≤ o.u ∧ o.u ≤ o.q ∧ o.q ≤ 400 ∧ 1 ≤ o.n ∧ o.n ≤ 64 := by unfold mayW; rw [if_pos hk]; simp
theorem mayW2 {o : Od} (hk : o.k = 2) : mayW o = true ↔ o.xs.length ≤ 64 := by unfold mayW; rw [if_neg (by omega), if_pos hk]; simp
theorem mayW3 {o : Od} (hk : o.k = 3) : mayW o = mayS o.cs := by unfold mayW; rw [if_neg (by omega), if_neg (by omega), if_pos hk]
theorem mayW4 {o : Od} (hk : o.k = 4) : mayW o = mayT o.ls := by unfold mayW; rw [if_neg (by omega), if_neg (by omega), if_neg (by omega)]
theorem ownB1 {o : Od} (hk : o.k = 1) : ownB o = putB o.q 2 ++ putB o.u 2 ++ putB o.n 2 := by unfold ownB; rw [if_pos hk]
theorem ownB2 {o : Od} (hk : o.k = 2) : ownB o = letB o.xs := by unfold ownB; rw [if_neg (by omega), if_pos hk]
theorem ownB3 {o : Od} (hk : o.k = 3) : ownB o = putB o.cs.length 1 ++ encS o.cs := by unfold ownB; rw [if_neg (by omega), if_neg (by omega), if_pos hk]
theorem ownB4 {o : Od} (hk : o.k = 4) : ownB o = ringB o.ls := by unfold ownB; rw [if_neg (by omega), if_neg (by omega), if_neg (by omega)]
theorem owE1 (z : List Int) : owE 1 z = if z.length < 6 then 3 else 0 := rfl
theorem owE2 (z : List Int) : owE 2 z = if okRg z = true then 0 else 3 := rfl
theorem owE3 (z : List Int) : owE 3 z = tsE z := rfl
theorem owE4_none {z : List Int} (h : tkR z = none) : owE 4 z = 3 := by simp [owE, h]
theorem owE4_some {z : List Int} {ls : List (List Int)} {p : Nat} (h : tkR z = some (ls, p)) : owE 4 z = if mayT ls = true then 0 else 2 := by simp [owE, h]
theorem owN4 {z : List Int} {ls : List (List Int)} {p : Nat} (h : tkR z = some (ls, p)) : owN 4 z = p := by simp [owN, h]
theorem owL4 {z : List Int} {ls : List (List Int)} {p : Nat} (h : tkR z = some (ls, p)) : owL 4 z = ls := by simp [owL, h]
theorem mayS_le16 {l : List Int} (h : mayS l = true) : l.length ≤ 16 := by
  simp only [mayS, Bool.and_eq_true, decide_eq_true_eq] at h; omega
theorem num_two' (x : Int) (h : 0 ≤ x ∧ x < 65536) (more : List Int) : num ((putB x 2 ++ more).take 2) = x := by
  rw [List.take_append_of_le_length (by simp [putB_len]), List.take_of_length_le (by simp [putB_len])]
  exact num_two x h

/-- What is put behind a label is taken. -/
theorem ow_put (o : Od) (ok : o.Ok) (hk : isK o.k = true) (hm : mayW o = true) (more : List Int) :
    owE o.k (ownB o ++ more) = 0 ∧ owN o.k (ownB o ++ more) = (ownB o).length ∧ (if o.k = 1 then owQ o.k (ownB o ++ more) 0 = o.q ∧ owQ o.k (ownB o ++ more) 2 = o.u ∧ owQ o.k (ownB o ++ more) 4 = o.n else True) ∧
      (o.k = 2 → owX o.k (ownB o ++ more) = o.xs) ∧ (o.k = 3 → owS o.k (ownB o ++ more) = o.cs) ∧ (o.k = 4 → owL o.k (ownB o ++ more) = o.ls) := by
  have hk' := isK_iff.1 hk
  obtain h | h | h | h : o.k = 1 ∨ o.k = 2 ∨ o.k = 3 ∨ o.k = 4 := by omega
  · have hw := (mayW1 h).1 hm
    rw [ownB1 h, h]
    refine ⟨?_, ?_, ?_, by omega, by omega, by omega⟩
    · rw [owE1, if_neg (by simp [putB_len]; omega)]
    · simp [owN, putB_len]
    · rw [if_pos rfl]
      refine ⟨?_, ?_, ?_⟩
      · simp only [owQ, if_true, List.drop_zero]
        rw [List.append_assoc, List.append_assoc]
        exact num_two' _ (by omega) _
      · simp only [owQ, if_true]
        rw [List.append_assoc, List.append_assoc, List.drop_append_of_le_length (by simp [putB_len]), List.drop_of_length_le (by simp [putB_len]), List.nil_append]
        exact num_two' _ (by omega) _
      · simp only [owQ, if_true]
        rw [List.append_assoc, List.drop_append_of_le_length (by simp [putB_len]), List.drop_of_length_le (by simp [putB_len]), List.nil_append]
        exact num_two' _ (by omega) _
  · have hw := (mayW2 h).1 hm
    rw [ownB2 h, h]
    obtain ⟨h1, h2, h3⟩ := letX_ok o.xs more (by omega)
    refine ⟨by rw [owE2, h1]; rfl, by simp [owN, h2, letB_len], by simp, fun _ => by simp [owX, h3], by omega, by omega⟩
  · have hw := hm
    rw [mayW3 h] at hw
    have hl := mayS_le16 hw
    rw [ownB3 h, h]
    have h1 := ts_ok o.cs more ok.cs hw
    have e : putB (o.cs.length : Int) 1 ++ encS o.cs ++ more = (o.cs.length : Int) :: (encS o.cs ++ more) := by rw [putB_one _ (by omega)]; rfl
    rw [e]
    refine ⟨by rw [owE3]; exact h1.1, ?_, by simp, by omega, fun _ => by simp [owS, h1.2.2], by omega⟩
    simp [owN, h1.2.1, putB_len, encS_len]
    omega
  · have hw := hm
    rw [mayW4 h] at hw
    rw [ownB4 h, h]
    have h1 := tkR_put o.ls more hw
    exact ⟨by rw [owE4_some h1, hw]; rfl, owN4 h1, by simp, by omega, by omega, fun _ => owL4 h1⟩
theorem ow_cut (o : Od) (hk : isK o.k = true) (hm : mayW o = true) (c : Nat) (hc : c < (ownB o).length) : owE o.k ((ownB o).take c) = 3 := by
  have hk' := isK_iff.1 hk
  obtain h | h | h | h : o.k = 1 ∨ o.k = 2 ∨ o.k = 3 ∨ o.k = 4 := by omega
  · rw [ownB1 h] at hc ⊢
    simp only [List.length_append, putB_len] at hc
    rw [h, owE1, if_pos (by simp only [List.length_take]; omega)]
  · have hw := (mayW2 h).1 hm
    rw [ownB2 h] at hc ⊢
    rw [letB_len] at hc
    rw [h, owE2, letX_no o.xs c (by omega) (by omega)]; rfl
  · have hw := hm
    rw [mayW3 h] at hw
    have hl := mayS_le16 hw
    rw [ownB3 h] at hc ⊢
    simp only [List.length_append, putB_len, encS_len] at hc
    rw [h, owE3]
    exact tsX_cut o.cs (by omega) c hc
  · have hw := hm
    rw [mayW4 h] at hw
    rw [ownB4 h] at hc ⊢
    rw [h]
    exact owE4_none (tkR_cut o.ls c hw hc)
theorem ow_back (z : List Int) (hb : Byt z) (o : Od) (hk : isK o.k = true) (he : owE o.k z = 0) (hq : o.k = 1 → o.q = owQ 1 z 0 ∧ o.u = owQ 1 z 2 ∧ o.n = owQ 1 z 4) (hx : o.k = 2 → o.xs = owX 2 z) (hs : o.k = 3 → o.cs = owS 3 z) (hl : o.k = 4 → o.ls = owL 4 z) :
    ownB o = z.take (owN o.k z) ∧ owN o.k z ≤ z.length := by
  have hk' := isK_iff.1 hk
  obtain h | h | h | h : o.k = 1 ∨ o.k = 2 ∨ o.k = 3 ∨ o.k = 4 := by omega
  · obtain ⟨q1, q2, q3⟩ := hq h
    rw [h, owE1] at he
    have h6 : 6 ≤ z.length := by split at he <;> omega
    rw [ownB1 h, h, q1, q2, q3]
    simp only [owQ, owN, if_true]
    rw [putB_num2 z hb 0 (by omega), putB_num2 z hb 2 (by omega), putB_num2 z hb 4 (by omega)]
    refine ⟨?_, h6⟩
    rw [show 6 = 2 + 2 + 2 by rfl, List.take_add (i := 2 + 2), List.take_add (i := 2)]
    rfl
  · rw [h, owE2] at he
    have ho : okRg z = true := by
      cases hz : okRg z
      · rw [hz] at he; simp at he
      · rfl
    rw [ownB2 h, h, hx h]
    exact letX_back z hb ho
  · rw [h, owE3] at he
    obtain ⟨K, h1, h2, h3⟩ := tsX_back z hb he
    rw [ownB3 h, h, hs h]
    have e : owN 3 z = K := by simp [owN, h1]
    have e2 : owS 3 z = tsY z := rfl
    rw [e, e2]
    exact ⟨h3, h2⟩
  · rw [h] at he
    cases ht : tkR z with
    | none => rw [owE4_none ht] at he; omega
    | some r =>
      obtain ⟨ls, p⟩ := r
      rw [ownB4 h, h, hl h, owL4 ht, owN4 ht]
      exact tkR_back z hb ht
end Go.Proofs.Ytkmpmljohjelhaa
