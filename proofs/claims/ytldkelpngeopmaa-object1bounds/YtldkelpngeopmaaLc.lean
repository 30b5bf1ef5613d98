/- Labels as bytes, plainly: how a label lies in bytes, which label bytes are, and that the one is the other's way back. -/
import Derived.Test.YtldkelpngeopmaaLabMay
import Derived.Test.YtldkelpngeopmaaJNum
namespace Go.Proofs.Ytldkelpngeopmaa
set_option maxRecDepth 100000

/-- Each pair: its category in two bytes, its level in one. -/
def encP (ps : List (Int × Int)) : List Int := ps.flatMap fun p => putB p.1 2 ++ putB p.2 1
theorem encP_cons (p : Int × Int) (l : List (Int × Int)) : encP (p :: l) = putB p.1 2 ++ putB p.2 1 ++ encP l := rfl
theorem encP_len (ps : List (Int × Int)) : (encP ps).length = 3 * ps.length := by
  induction ps with
  | nil => rfl
  | cons p ps ih => rw [encP_cons, List.length_append, List.length_append, putB_len, putB_len, ih, List.length_cons]; omega
theorem encP_snoc (ps : List (Int × Int)) (p : Int × Int) : encP (ps ++ [p]) = encP ps ++ (putB p.1 2 ++ putB p.2 1) := by
  simp [encP]
theorem encP_byt (ps : List (Int × Int)) : Byt (encP ps) := by
  intro x hx
  obtain ⟨p, _, hp⟩ := List.mem_flatMap.1 hx
  exact (putB_byt _ _).append (putB_byt _ _) x hp
/-- A label: Default, how many pairs, the pairs. -/
def encL (d : Int) (ps : List (Int × Int)) : List Int := putB d 1 ++ putB ps.length 1 ++ encP ps
theorem encL_len (d : Int) (ps : List (Int × Int)) : (encL d ps).length = 2 + 3 * ps.length := by
  rw [encL, List.length_append, List.length_append, putB_len, putB_len, encP_len]
theorem encL_byt (d : Int) (ps : List (Int × Int)) : Byt (encL d ps) := ((putB_byt _ _).append (putB_byt _ _)).append (encP_byt _)
theorem putB_one' (x : Int) (h : 0 ≤ x ∧ x < 256) : putB x 1 = [x] := by
  simp only [putB, Int.pow_zero, Int.ediv_one]
  rw [Int.emod_eq_of_lt (by omega) (by omega)]
theorem encL_eq (d : Int) (ps : List (Int × Int)) (h : 0 ≤ d ∧ d < 256) (hl : ps.length ≤ 255) : encL d ps = d :: (ps.length : Int) :: encP ps := by
  rw [encL, putB_one' d h, putB_one' _ (by omega)]; rfl

def cntL (bs : List Int) : Nat := (bs.getD 1 0).toNat
def decP (bs : List Int) (c : Nat) : List (Int × Int) := (List.range c).map fun k => (num ((bs.drop (2 + 3 * k)).take 2), (bs.drop (2 + 3 * k)).getD 2 0)
theorem decP_len (bs : List Int) (c : Nat) : (decP bs c).length = c := by simp [decP]
theorem decP_succ (bs : List Int) (c : Nat) : decP bs (c + 1) = decP bs c ++ [(num ((bs.drop (2 + 3 * c)).take 2), (bs.drop (2 + 3 * c)).getD 2 0)] := by
  simp [decP, List.range_succ]
def shortL (bs : List Int) : Bool := decide (bs.length < 2 + 3 * cntL bs)
def okL (bs : List Int) : Bool := !shortL bs && mayB (bs.getD 0 0) (decP bs (cntL bs))
def tlE (bs : List Int) : Int := if shortL bs = true then 3 else if mayB (bs.getD 0 0) (decP bs (cntL bs)) = true then 0 else 2
def tlN (bs : List Int) : Int := if okL bs = true then 2 + 3 * (cntL bs : Int) else 0
def tlD (bs : List Int) : Int := if okL bs = true then bs.getD 0 0 else 0
def tlP (bs : List Int) : List (Int × Int) := if okL bs = true then decP bs (cntL bs) else []

theorem encP_drop : ∀ (i : Nat) (l : List (Int × Int)), (encP l).drop (3 * i) = encP (l.drop i)
  | 0, l => by simp
  | i + 1, [] => by simp [encP]
  | i + 1, p :: l => by
    rw [encP_cons, List.drop_succ_cons, show 3 * (i + 1) = 3 * i + 1 + 1 + 1 by omega]
    exact encP_drop i l
theorem numL_two (x : Int) (h : 0 ≤ x ∧ x < 65536) : num (putB x 2) = x := by
  rw [num_putB, show (256 : Int) ^ 2 = 65536 from rfl]; omega
theorem decP_enc (d c : Int) (l : List (Int × Int)) (more : List Int) (hw : PE.Ok l) : decP (d :: c :: (encP l ++ more)) l.length = l := by
  apply List.ext_getElem (by simp [decP_len])
  intro i h1 h2
  simp only [decP, List.getElem_map, List.getElem_range]
  rw [show 2 + 3 * i = 3 * i + 1 + 1 by omega, List.drop_succ_cons, List.drop_succ_cons, List.drop_append_of_le_length (by rw [encP_len]; omega), encP_drop]
  have : l.drop i = l[i] :: l.drop (i + 1) := List.drop_eq_getElem_cons h2
  rw [this, encP_cons]
  have hb := hw _ (List.getElem_mem h2)
  obtain ⟨hb1, hb2⟩ : (0 ≤ l[i].1 ∧ l[i].1 < 65536) ∧ 0 ≤ l[i].2 ∧ l[i].2 < 256 := hb
  rw [putB_one' _ hb2]
  have e1 : (putB l[i].1 2 ++ [l[i].2] ++ encP (l.drop (i + 1)) ++ more).take 2 = putB l[i].1 2 := by
    rw [List.append_assoc, List.append_assoc, List.take_append_of_le_length (by simp [putB_len]), List.take_of_length_le (by simp [putB_len])]
  have e2 : (putB l[i].1 2 ++ [l[i].2] ++ encP (l.drop (i + 1)) ++ more).getD 2 0 = l[i].2 := rfl
  rw [e1, e2, numL_two _ hb1]
/-- What is put is taken. -/
theorem tl_enc (d : Int) (l : List (Int × Int)) (more : List Int) (hw : PE.Ok l) (h : mayB d l = true) :
    tlE (encL d l ++ more) = 0 ∧ tlN (encL d l ++ more) = 2 + 3 * (l.length : Int) ∧ tlD (encL d l ++ more) = d ∧ tlP (encL d l ++ more) = l := by
  have h' := mayB_iff.1 h
  have hd : 0 ≤ d ∧ d < 256 := by omega
  have hl : l.length ≤ 255 := by omega
  rw [encL_eq d l hd hl, List.cons_append, List.cons_append]
  have hc : cntL (d :: (l.length : Int) :: (encP l ++ more)) = l.length := by simp [cntL]
  have h2 : shortL (d :: (l.length : Int) :: (encP l ++ more)) = false := by
    simp only [shortL, decide_eq_false_iff_not, hc, List.length_cons, List.length_append, encP_len]
    omega
  have h3 : decP (d :: (l.length : Int) :: (encP l ++ more)) (cntL (d :: (l.length : Int) :: (encP l ++ more))) = l := by rw [hc]; exact decP_enc _ _ l more hw
  have h0 : (d :: (l.length : Int) :: (encP l ++ more)).getD 0 0 = d := rfl
  have h4 : okL (d :: (l.length : Int) :: (encP l ++ more)) = true := by rw [okL, h2, h3, h0, h]; rfl
  refine ⟨?_, ?_, ?_, ?_⟩
  · rw [tlE, h2, h3, h0, h]; rfl
  · rw [tlN, h4, hc]; rfl
  · rw [tlD, h4, h0]; rfl
  · rw [tlP, h4, h3]; rfl
/-- Cut off it is short. -/
theorem tl_cut (d : Int) (l : List (Int × Int)) (h : mayB d l = true) (k : Nat) (hk : k < 2 + 3 * l.length) : tlE ((encL d l).take k) = 3 := by
  have h' := mayB_iff.1 h
  have hd : 0 ≤ d ∧ d < 256 := by omega
  have hl : l.length ≤ 255 := by omega
  have : shortL ((encL d l).take k) = true := by
    simp only [shortL, decide_eq_true_eq, List.length_take, encL_len]
    by_cases h2 : k < 2
    · omega
    · have hc : cntL ((encL d l).take k) = l.length := by
        rw [encL_eq d l hd hl]
        obtain ⟨j, rfl⟩ : ∃ j, k = j + 2 := ⟨k - 2, by omega⟩
        simp [cntL]
      rw [hc]
      omega
  rw [tlE, this]; rfl
theorem three_bytes (zs : List Int) (hb : Byt zs) (h : 3 ≤ zs.length) : putB (num (zs.take 2)) 2 ++ putB (zs.getD 2 0) 1 = zs.take 3 := by
  match zs, h with
  | x :: y :: z :: r, _ =>
    have h1 := hb x (by simp)
    have h2 := hb y (by simp)
    have h3 := hb z (by simp)
    have e0 : num ([x, y] : List Int) = x * 256 + y := by simp [num]
    have e1 : (x :: y :: z :: r).getD 2 0 = z := rfl
    have e2 : (x :: y :: z :: r).take 2 = [x, y] := rfl
    have e3 : (x :: y :: z :: r).take 3 = [x, y, z] := rfl
    rw [e1, e2, e3, e0, putB_one' z h3]
    simp only [putB, Int.pow_zero, Int.ediv_one, show (256 : Int) ^ 1 = 256 from rfl]
    rw [show (x * 256 + y) / 256 % 256 = x by omega, show (x * 256 + y) % 256 = y by omega]
    rfl
theorem encP_dec (bs : List Int) (hb : Byt bs) : ∀ (c : Nat), 2 + 3 * c ≤ bs.length → encP (decP bs c) = (bs.drop 2).take (3 * c)
  | 0, _ => by simp [decP, encP]
  | c + 1, h => by
    rw [decP_succ, encP_snoc, encP_dec bs hb c (by omega), three_bytes _ (hb.drop _) (by rw [List.length_drop]; omega), show 3 * (c + 1) = 3 * c + 3 by omega, List.take_add, List.drop_drop]
/-- What is taken is put as it was. -/
theorem tl_back (bs : List Int) (hb : Byt bs) (h : tlE bs = 0) : ∃ m : Nat, tlN bs = (m : Int) ∧ m ≤ bs.length ∧ encL (tlD bs) (tlP bs) = bs.take m ∧ mayB (tlD bs) (tlP bs) = true := by
  have hs : shortL bs = false := by
    cases hx : shortL bs
    · rfl
    · rw [tlE, hx] at h; simp at h
  have hm : mayB (bs.getD 0 0) (decP bs (cntL bs)) = true := by
    cases hx : mayB (bs.getD 0 0) (decP bs (cntL bs))
    · rw [tlE, hs, hx] at h; simp at h
    · rfl
  have ho : okL bs = true := by rw [okL, hs, hm]; rfl
  have hl : 2 + 3 * cntL bs ≤ bs.length := by
    simp only [shortL, decide_eq_false_iff_not] at hs; omega
  refine ⟨2 + 3 * cntL bs, by rw [tlN, ho]; simp, hl, ?_, by rw [tlD, tlP, ho]; exact hm⟩
  rw [tlD, tlP, ho]
  simp only [if_true]
  rw [encL, encP_dec bs hb _ hl, decP_len]
  match bs, hl with
  | x :: y :: r, _ =>
    have h1 := hb x (by simp)
    have h2 := hb y (by simp)
    have e : ((cntL (x :: y :: r) : Nat) : Int) = y := by simp [cntL]; omega
    have e0 : (x :: y :: r).getD 0 0 = x := rfl
    rw [e, e0, putB_one' x h1, putB_one' y h2, show 2 + 3 * cntL (x :: y :: r) = 3 * cntL (x :: y :: r) + 1 + 1 by omega]
    rfl
/-- Two labels that may be have one text just if they are one. -/
theorem encL_inj (d : Int) (l : List (Int × Int)) (e : Int) (m : List (Int × Int)) (hl : PE.Ok l) (hm : PE.Ok m) (h : mayB d l = true) (h' : mayB e m = true) : encL d l = encL e m ↔ d = e ∧ l = m := by
  constructor
  · intro he
    have h1 := tl_enc d l [] hl h
    have h2 := tl_enc e m [] hm h'
    rw [he] at h1
    exact ⟨h1.2.2.1.symm.trans h2.2.2.1, h1.2.2.2.symm.trans h2.2.2.2⟩
  · rintro ⟨rfl, rfl⟩; rfl
end Go.Proofs.Ytldkelpngeopmaa
