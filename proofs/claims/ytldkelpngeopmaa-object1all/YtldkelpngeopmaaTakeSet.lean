/- What cats.Take and the document's TakeSet read: contracts, whatever the bytes. -/
import Derived.Test.YtldkelpngeopmaaPutSet
namespace Go.Proofs.Ytldkelpngeopmaa
open Go.RowKit
set_option maxRecDepth 100000

/-- The first k categories behind the count. -/
def decW (bs : List Int) (k : Nat) : List Int := (List.range k).map fun i => num ((bs.drop (1 + 2 * i)).take 2)
def cnt (bs : List Int) : Nat := (bs.getD 0 0).toNat
def isShort (bs : List Int) : Bool := decide (bs.length < 1 ∨ bs.length < 1 + 2 * cnt bs)
def tsOk (bs : List Int) : Bool := !isShort bs && mayS (decW bs (cnt bs))
def tsE (bs : List Int) : Int := if isShort bs = true then 3 else if mayS (decW bs (cnt bs)) = true then 0 else 2
def tsN (bs : List Int) : Int := if tsOk bs = true then 1 + 2 * (cnt bs : Int) else 0
def tsY (bs : List Int) : List Int := if tsOk bs = true then decW bs (cnt bs) else []

theorem decW_len (bs : List Int) (k : Nat) : (decW bs k).length = k := by simp [decW]
theorem decW_succ (bs : List Int) (k : Nat) : decW bs (k + 1) = decW bs k ++ [num ((bs.drop (1 + 2 * k)).take 2)] := by simp [decW, List.range_succ]
theorem num2_bd (bs : List Int) (h : Byt bs) (k : Nat) : 0 ≤ num ((bs.drop k).take 2) ∧ num ((bs.drop k).take 2) < 65536 := by
  have h1 := num_bd ((bs.drop k).take 2) ((h.drop k).take 2)
  have h2 : (256 : Int) ^ ((bs.drop k).take 2).length ≤ 65536 := by
    have hl : ((bs.drop k).take 2).length ≤ 2 := by simp; omega
    match ((bs.drop k).take 2).length, hl with
    | 0, _ => decide
    | 1, _ => decide
    | 2, _ => decide
  omega
theorem Row.tail {w : World} {b off n cap : Nat} {xs : List Int} (h : Row w (some ⟨b, off, none⟩) n cap xs) (k : Nat) (hk : k ≤ n) : Row w (some ⟨b, off + k, none⟩) (n - k) (cap - k) (xs.drop k) := by
  have h1 := h.sub k (n - k) (by omega)
  rwa [List.take_of_length_le (by simp [h.len])] at h1
theorem Byt.get {xs : List Int} (h : Byt xs) (i : Nat) : 0 ≤ xs.getD i 0 ∧ xs.getD i 0 < 256 := by
  by_cases hi : i < xs.length
  · rw [List.getD_eq_getElem?_getD, List.getElem?_eq_getElem hi]; exact h _ (List.getElem_mem hi)
  · rw [List.getD_eq_getElem?_getD, List.getElem?_eq_none (by omega)]; simp
theorem num_one (bs : List Int) (h : 0 < bs.length) : num (bs.take 1) = bs.getD 0 0 := by
  cases bs with
  | nil => simp at h
  | cons b bs => simp [num]

set_option maxHeartbeats 1000000 in
theorem takeSet_any (a : Option Addr) (n cap : Nat) (bs : List Int) (w : World) (hr : Row w a n cap bs) :
    Calls Try.prog 63 #[.slice a n cap] w fun e w' => ∃ so k co, e = .returned (.tuple #[.slice so k co, .int .i64 (tsN bs), .int .i64 (tsE bs)]) ∧ OwnW 42 w' w.heap.size so k co (tsY bs) ∧ Below w.heap.size w w' := by
  have hl : Hid (bs.length = n) := hr.len
  have hcap := hr.cap_le
  have hbd := hr.byt.get 0
  by_cases hn : n < 1
  · have e1 : takeV bs 1 = 0 := by unfold takeV; rw [if_pos (by rw [hl.out]; omega)]
    have e2 : takeE bs 1 = 3 := by unfold takeE; rw [if_neg (by omega), if_pos (by rw [hl.out]; omega)]
    have s1 : isShort bs = true := by simp [isShort, hl.out, hn]
    have s2 : tsOk bs = false := by simp [tsOk, s1]
    have s3 : Hid (tsE bs = 3 ∧ tsN bs = 0 ∧ tsY bs = []) := ⟨by simp [tsE, s1], by simp [tsN, s2], by simp [tsY, s2]⟩
    rw [s3.out.1, s3.out.2.1, s3.out.2.2]
    have ht := take_any a n cap 1 bs w hr
    rw [e1, e2] at ht
    clear e1 e2 s1 s2 s3
    go_enter Try.func63, Try.ntmps63
    go_wp2_with fail
    refine ht.mono ?_
    rintro e w1 ⟨rfl, rfl⟩
    go_wp2_with fail
    go_ret3
    exact ⟨none, 0, 0, rfl, OwnW.of_nil _ _ _, Below.refl _ _⟩
  · have e1 : takeV bs 1 = (cnt bs : Int) := by
      unfold takeV; rw [if_neg (by rw [hl.out]; omega)]
      rw [show (1 : Int).toNat = 1 from rfl, num_one bs (by rw [hl.out]; omega)]
      unfold cnt; omega
    have e2 : takeE bs 1 = 0 := by unfold takeE; rw [if_neg (by omega), if_neg (by rw [hl.out]; omega)]
    have ht := take_any a n cap 1 bs w hr
    rw [e1, e2] at ht
    have hc255 : cnt bs ≤ 255 := by unfold cnt; omega
    obtain ⟨c, hc⟩ : ∃ c, c = cnt bs := ⟨_, rfl⟩
    have HC : Hid (c = cnt bs) := hc
    rw [← hc] at ht hc255
    clear e1 e2 hc
    have hw : wrap64 (c : Int) = (c : Int) := by unfold wrap64; omega
    by_cases hshort : n < 1 + 2 * c
    · have s1 : isShort bs = true := by simp only [isShort, decide_eq_true_eq]; rw [hl.out, ← HC.out]; omega
      have s2 : tsOk bs = false := by simp [tsOk, s1]
      have s3 : Hid (tsE bs = 3 ∧ tsN bs = 0 ∧ tsY bs = []) := ⟨by simp [tsE, s1], by simp [tsN, s2], by simp [tsY, s2]⟩
      rw [s3.out.1, s3.out.2.1, s3.out.2.2]
      clear s1 s2 s3
      have hlt : (n : Int) < 1 + 2 * (c : Int) := by omega
      go_enter Try.func63, Try.ntmps63
      go_wp2_with fail
      refine ht.mono ?_
      rintro e w1 ⟨rfl, rfl⟩
      go_wp2_with fail
      go_ret3
      exact ⟨none, 0, 0, rfl, OwnW.of_nil _ _ _, Below.refl _ _⟩
    · have hlt : decide ((n : Int) < 1 + 2 * (c : Int)) = false := by simp; omega
      have s1 : isShort bs = false := by simp only [isShort, decide_eq_false_iff_not]; rw [hl.out, ← HC.out]; omega
      have s3 : Hid (tsE bs = (if mayS (decW bs c) = true then 0 else 2) ∧ tsN bs = (if mayS (decW bs c) = true then 1 + 2 * (c : Int) else 0) ∧ tsY bs = (if mayS (decW bs c) = true then decW bs c else [])) := by
        have s2 : tsOk bs = mayS (decW bs c) := by rw [tsOk, s1, ← HC.out]; rfl
        refine ⟨?_, ?_, ?_⟩
        · rw [tsE, s1, ← HC.out]; rfl
        · rw [tsN, s2, ← HC.out]
        · rw [tsY, s2, ← HC.out]
      obtain ⟨E, N, Y, hE, hN, hY, hENY⟩ : ∃ E N Y, tsE bs = E ∧ tsN bs = N ∧ tsY bs = Y ∧ ((mayS (decW bs c) = true ∧ E = 0 ∧ N = 1 + 2 * (c : Int) ∧ Y = decW bs c) ∨ (mayS (decW bs c) = false ∧ E = 2 ∧ N = 0 ∧ Y = [])) := by
        cases hmm : mayS (decW bs c)
        · exact ⟨2, 0, [], by rw [s3.out.1, hmm]; rfl, by rw [s3.out.2.1, hmm]; rfl, by rw [s3.out.2.2, hmm]; rfl, .inr ⟨rfl, rfl, rfl, rfl⟩⟩
        · exact ⟨0, 1 + 2 * (c : Int), decW bs c, by rw [s3.out.1, hmm]; rfl, by rw [s3.out.2.1, hmm]; rfl, by rw [s3.out.2.2, hmm]; rfl, .inl ⟨rfl, rfl, rfl, rfl⟩⟩
      have HENY : Hid ((mayS (decW bs c) = true ∧ E = 0 ∧ N = 1 + 2 * (c : Int) ∧ Y = decW bs c) ∨ (mayS (decW bs c) = false ∧ E = 2 ∧ N = 0 ∧ Y = [])) := hENY
      rw [hE, hN, hY]
      clear s1 s3 hE hN hY hENY
      obtain ⟨b, off, rfl, hcell⟩ := hr.at (by omega)
      clear hcell
      go_enter Try.func63, Try.ntmps63
      go_wp2_with fail
      refine ht.mono ?_
      rintro e w1 ⟨rfl, rfl⟩
      go_wp2_with fail
      go_loopw [2, 7] (fun o iv wr => ∃ (i : Nat) (so : Option Addr) (co : Nat), i ≤ c ∧ iv = .int .i64 ((1 + 2 * i : Nat) : Int) ∧ o = .slice so i co ∧ OwnW 42 wr w1.heap.size so i co (decW bs i) ∧ Below w1.heap.size w1 wr) (fun _ i _ => 1 + 2 * c - (intOf i).toNat)
      case atStart => exact ⟨0, none, 0, by omega, rfl, rfl, OwnW.of_nil _ _ _, Below.refl _ _⟩
      case round =>
        obtain ⟨i, so, co, hi, rfl, rfl, ho, hb⟩ := hrel
        by_cases hic : i < c
        · have p1 : ((1 + 2 * i : Nat) : Int) < 1 + 2 * (c : Int) := by omega
          have p2 : ((1 + 2 * i : Nat) : Int) ≤ (n : Int) := by omega
          have p3 : ¬ cap = 1 + 2 * i := by omega
          have hX := num2_bd bs hr.byt (1 + 2 * i)
          have hrow := (hr.below hb).tail (1 + 2 * i) (by omega)
          have ht2 := take_any _ _ _ 2 _ _ hrow
          have f1 : takeV (bs.drop (1 + 2 * i)) 2 = num ((bs.drop (1 + 2 * i)).take 2) := by
            unfold takeV; rw [if_neg (by rw [List.length_drop, hl.out]; omega)]; rfl
          have f2 : takeE (bs.drop (1 + 2 * i)) 2 = 0 := by unfold takeE; rw [if_neg (by omega), if_neg (by rw [List.length_drop, hl.out]; omega)]
          rw [f1, f2] at ht2
          have HS : Hid (decW bs (i + 1) = decW bs i ++ [num ((bs.drop (1 + 2 * i)).take 2)]) := decW_succ bs i
          generalize num ((bs.drop (1 + 2 * i)).take 2) = X at hX ht2 HS
          have hu : IntKind.u16.wrap X = X := by rw [IntKind.wrap_u16]; omega
          clear f1 f2 hrow
          generalize hat : 1 + 2 * i = at_ at p1 p2 p3 ht2 ⊢
          have hsz := hb.size
          go_wp2_with fail
          refine ht2.mono ?_
          rintro e w2 ⟨rfl, rfl⟩
          go_wp2_with (at_builtin; refine wp_append_words _ rfl (.tmp 38) (.tmp 41) 26 rfl 42 Try.underlying26 info27 w1.heap.size i co so _ rfl (ho.below (below_alloc _ _)) _ 1 1 [X] rfl (roww_lit w2 42 [X] 1 rfl (by omega) (Wrd.one hX)) (by omega) (by simp; omega) w1 (hb.alloc hsz _) ?_; intro so' cap' w3 o3 b3)
          go_roundw
          case rel =>
            refine ⟨i + 1, so', cap', by omega, ?_, rfl, by rw [HS.out]; exact o3, b3⟩
            rw [show ((1 + 2 * (i + 1) : Nat) : Int) = (at_ : Int) + 2 by omega]
          case measure => simp [intOf]; omega
        · obtain rfl : i = c := by omega
          have p1 : decide (((1 + 2 * i : Nat) : Int) < 1 + 2 * (i : Int)) = false := by simp
          have hmc := may_any so i co _ wr ho.row
          rcases HENY.out with ⟨hmay, rfl, rfl, rfl⟩ | ⟨hmay, rfl, rfl, rfl⟩
          · rw [hmay] at hmc
            go_wp2_with fail
            refine hmc.mono ?_
            rintro e w2 ⟨rfl, hb2⟩
            go_wp2_with fail
            go_ret3
            exact ⟨so, i, co, rfl, ho.below hb2, ext_trans hb hb2⟩
          · rw [hmay] at hmc
            go_wp2_with fail
            refine hmc.mono ?_
            rintro e w2 ⟨rfl, hb2⟩
            go_wp2_with fail
            go_ret3
            exact ⟨none, 0, 0, rfl, OwnW.of_nil _ _ _, ext_trans hb hb2⟩

end Go.Proofs.Ytldkelpngeopmaa
