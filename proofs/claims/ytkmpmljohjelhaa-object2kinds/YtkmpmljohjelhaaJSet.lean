/- What cats.Put and the document's PutSet write: contracts. What cats.Take and the document's TakeSet read: contracts, whatever the bytes. What is put is taken: plainly, of the bytes of a set. -/
import Derived.Test.YtkmpmljohjelhaaConcat
import Derived.Test.YtkmpmljohjelhaaJNum
import Derived.Test.YtkmpmljohjelhaaReads
namespace Go.Proofs.Ytkmpmljohjelhaa
open Go.RowKit
set_option maxRecDepth 100000

/-- Each category in two bytes. -/
def encS (xs : List Int) : List Int := xs.flatMap (fun c => putB c 2)
theorem encS_len (xs : List Int) : (encS xs).length = 2 * xs.length := by
  induction xs with
  | nil => rfl
  | cons x xs ih => simp only [encS, List.flatMap_cons, List.length_append, putB_len, List.length_cons] at ih ⊢; omega
theorem encS_take {xs : List Int} {i : Nat} (hi : i < xs.length) : encS (xs.take (i + 1)) = encS (xs.take i) ++ putB (xs.getD i 0) 2 := by
  rw [List.take_succ_eq_append_getElem hi, encS, List.flatMap_append, getD_eq hi]
  simp [encS]
theorem encS_byt (xs : List Int) : Byt (encS xs) := by
  intro x hx
  obtain ⟨c, _, hc⟩ := List.mem_flatMap.1 hx
  exact putB_byt _ _ x hc

set_option maxHeartbeats 1000000 in
theorem putSet_any (a b : Option Addr) (n cap m cap2 : Nat) (bs xs : List Int) (w : World) (hr : Row w a n cap bs) (hs : RowW w b m cap2 xs) (hm : mayS xs = true) (hbd : n ≤ 1000000000) :
    Calls Try.prog 30 #[.slice a n cap, .slice b m cap2] w fun e w' => ∃ g c, e = .returned (.slice (some ⟨g, 0, none⟩) (n + (1 + 2 * m)) c) ∧ Own 5 w' w.heap.size g (n + (1 + 2 * m)) c (bs ++ (putB m 1 ++ encS xs)) ∧ Below w.heap.size w w' := by
  have hl : Hid (xs.length = m) := hs.len
  have hm16 : m ≤ 16 := by
    have := hl.out
    simp only [mayS, Bool.and_eq_true, decide_eq_true_eq] at hm
    omega
  have hu : IntKind.u64.wrap (m : Int) = (m : Int) := by rw [IntKind.wrap_u64]; omega
  have hmc := may_any b m cap2 xs w hs
  rw [hm] at hmc
  have HM : Hid (mayS xs = true) := hm
  clear hm
  go_enter Try.func30, Try.ntmps30
  go_wp2_with fail
  refine hmc.mono ?_
  rintro e w1 ⟨rfl, hb1⟩
  clear hmc
  go_wp2_with fail
  refine (put_any none 0 0 m 1 [] _ (Row.nil _) (by omega)).mono ?_
  rintro e w2 ⟨g2, c2, rfl, o2, hb2⟩
  rw [show wid 1 = 1 from rfl, Nat.zero_add, List.nil_append] at o2
  rw [show wid 1 = 1 from rfl, Nat.zero_add]
  have hb12 := ext_trans hb1 hb2
  replace o2 := o2.mono hb1.size
  go_wp2_with fail
  go_loopw [5, 19] (fun o iv wr => ∃ i g c : Nat, i ≤ m ∧ iv = .int .i64 i ∧ o = .slice (some ⟨g, 0, none⟩) (1 + 2 * i) c ∧ Own 5 wr w.heap.size g (1 + 2 * i) c (putB m 1 ++ encS (xs.take i)) ∧ Below w.heap.size w wr) (fun _ i _ => m - (intOf i).toNat)
  case atStart => exact ⟨0, g2, c2, by omega, rfl, rfl, by simpa [encS] using o2, hb12⟩
  case round =>
    obtain ⟨i, g, c, hi, rfl, rfl, ho, hb⟩ := hrel
    by_cases hlt : i < m
    · have hp : (i : Int) < (m : Int) := by omega
      obtain ⟨b1, off, rfl, hc⟩ := (hs.below hb).at (by omega)
      have c1 := hc i hlt
      generalize hX : xs.getD i 0 = X at c1
      have HX : Hid (xs.getD i 0 = X) := hX
      have HXb : 0 ≤ X ∧ X < 65536 := by rw [← hX]; exact hs.wrd.get i
      have hu2 : IntKind.u64.wrap X = X := by rw [IntKind.wrap_u64]; omega
      clear hX hc
      go_wp2_with fail
      refine (put_any _ (1 + 2 * i) c X 2 _ _ ho.row (by omega)).mono ?_
      rintro e w3 ⟨g3, c3, rfl, o3, hb3⟩
      rw [show wid 2 = 2 from rfl] at o3 ⊢
      go_wp2_with fail
      go_roundw
      case rel =>
        refine ⟨i + 1, g3, c3, by omega, by go_num, ?_, ?_, ext_trans hb hb3⟩
        · rw [show 1 + 2 * (i + 1) = 1 + 2 * i + 2 by omega]
        · rw [encS_take (by rw [hl.out]; exact hlt), HX.out, ← List.append_assoc, show 1 + 2 * (i + 1) = 1 + 2 * i + 2 by omega]
          exact o3.mono hb.size
      case measure => simp [intOf]; omega
    · obtain rfl : i = m := by omega
      rw [List.take_of_length_le (by rw [hl.out]; exact Nat.le_refl _)] at ho
      go_wp2_with fail
      refine (concat_two wr.heap.size a (some ⟨g, 0, none⟩) n cap (1 + 2 * i) c bs (putB i 1 ++ encS xs) _ ?_ ?_ ((hr.below hb).below (below_alloc _ _)) (ho.row.below (below_alloc _ _)) (by omega) (by omega)).mono ?_
      · simp
      · simp
      rintro e w3 ⟨g3, c3, rfl, o3, hb3⟩
      go_wp2_with fail
      go_ret
      have hb4 := ext_trans hb (ext_trans (below_alloc wr _) hb3)
      refine ⟨g3, c3, rfl, o3.mono ?_, hb4⟩
      have := hb.size
      simp; omega

set_option maxHeartbeats 1000000 in
theorem refPutSet_any (a b : Option Addr) (n cap m cap2 : Nat) (bs xs : List Int) (w : World) (hr : Row w a n cap bs) (hs : RowW w b m cap2 xs) (hm16 : m ≤ 255) (hbd : n ≤ 1000000000) :
    Calls Try.prog 35 #[.slice a n cap, .slice b m cap2] w fun e w' => ∃ g c, e = .returned (.slice (some ⟨g, 0, none⟩) (n + (1 + 2 * m)) c) ∧ Own 5 w' w.heap.size g (n + (1 + 2 * m)) c (bs ++ (putB m 1 ++ encS xs)) ∧ Below w.heap.size w w' := by
  have hl : Hid (xs.length = m) := hs.len
  have hu : IntKind.u8.wrap (m : Int) = (m : Int) := by rw [IntKind.wrap_u8]; omega
  have hpb : Hid (putB m 1 = [(m : Int)]) := by
    show _ = _
    simp only [putB, Int.pow_zero, Int.ediv_one]
    rw [Int.emod_eq_of_lt (by omega) (by omega)]
  go_enter Try.func35, Try.ntmps35
  go_wp2_with (first | (at_builtin; refine wp_append_bytes _ rfl (.tmp 6) (.tmp 7) 29 rfl 5 Try.underlying29 info5 w.heap.size w.heap.size 0 0 [] rfl (own_lit w 5 [] 0 rfl (by omega) Byt.nil) a n cap bs rfl (hr.below (below_alloc _ _)) (by omega) (by simp) w (below_alloc _ _) ?_; intro g1 c1 w1 o1 b1; rw [Nat.zero_add, List.nil_append] at o1) | (at_builtin; refine wp_append_bytes _ rfl (.tmp 8) (.tmp 12) 29 rfl 5 Try.underlying29 info5 w.heap.size g1 n c1 bs rfl (o1.below (below_alloc _ _)) (some ⟨w1.heap.size, 0, none⟩) 1 1 [(m : Int)] rfl (row_lit w1 5 [_] 1 rfl (by omega) (Byt.one (by omega))) (by omega) (by have := b1.size; simp; omega) w (b1.alloc b1.size _) ?_; intro g2 c2 w2 o2 b2) | fail)
  go_loopw [0, 5] (fun o iv wr => ∃ i g c : Nat, i ≤ m ∧ iv = .int .i64 i ∧ o = .slice (some ⟨g, 0, none⟩) (n + (1 + 2 * i)) c ∧ Own 5 wr w.heap.size g (n + (1 + 2 * i)) c (bs ++ (putB m 1 ++ encS (xs.take i))) ∧ Below w.heap.size w wr) (fun _ i _ => m - (intOf i).toNat)
  case atStart => exact ⟨0, g2, c2, by omega, rfl, rfl, by rw [hpb.out]; simpa [encS] using o2, b2⟩
  case round =>
    obtain ⟨i, g, c, hi, rfl, rfl, ho, hb⟩ := hrel
    by_cases hlt : i < m
    · have hp : (i : Int) < (m : Int) := by omega
      obtain ⟨b1, off, rfl, hc⟩ := (hs.below hb).at (by omega)
      have c1 := hc i hlt
      generalize hX : xs.getD i 0 = X at c1
      have HX : Hid (xs.getD i 0 = X) := hX
      have HXb : 0 ≤ X ∧ X < 65536 := by rw [← hX]; exact hs.wrd.get i
      have hu2 : IntKind.u64.wrap X = X := by rw [IntKind.wrap_u64]; omega
      clear hX hc
      go_wp2_with fail
      refine (refPut_any _ (n + (1 + 2 * i)) c X 2 _ _ ho.row (by omega)).mono ?_
      rintro e w3 ⟨g3, c3, rfl, o3, hb3⟩
      rw [show wid 2 = 2 from rfl] at o3 ⊢
      go_wp2_with fail
      go_roundw
      case rel =>
        refine ⟨i + 1, g3, c3, by omega, by go_num, ?_, ?_, ext_trans hb hb3⟩
        · rw [show n + (1 + 2 * (i + 1)) = n + (1 + 2 * i) + 2 by omega]
        · rw [encS_take (by rw [hl.out]; exact hlt), HX.out, ← List.append_assoc, ← List.append_assoc, show n + (1 + 2 * (i + 1)) = n + (1 + 2 * i) + 2 by omega]
          rw [← List.append_assoc] at o3
          exact o3.mono hb.size
      case measure => simp [intOf]; omega
    · obtain rfl : i = m := by omega
      rw [List.take_of_length_le (by rw [hl.out]; exact Nat.le_refl _)] at ho
      go_wp2_with fail
      go_ret
      exact ⟨g, c, rfl, ho, hb⟩
end Go.Proofs.Ytkmpmljohjelhaa

namespace Go.Proofs.Ytkmpmljohjelhaa
open Go.RowKit
set_option maxRecDepth 100000

/-- The first k categories behind the count. -/
def decW (bs : List Int) (k : Nat) : List Int := (List.range k).map fun i => num ((bs.drop (1 + 2 * i)).take 2)
def cnt (bs : List Int) : Nat := (bs.getD 0 0).toNat
def isShort (bs : List Int) : Bool := decide (bs.length < 1 ∨ bs.length < 1 + 2 * cnt bs)
def tsOk (bs : List Int) : Bool := !isShort bs && mayS (decW bs (cnt bs))
def tsE (bs : List Int) : Int := if isShort bs = true then 3 else if mayS (decW bs (cnt bs)) = true then 0 else 2
def tsN (bs : List Int) : Int := if tsOk bs = true then 1 + 2 * (cnt bs : Int) else 0
def tsY (bs : List Int) : List Int := if tsOk bs = true then decW bs (cnt bs) else []

theorem decW_len (bs : List Int) (k : Nat) : (decW bs k).length = k := by simp [decW]
theorem decW_succ (bs : List Int) (k : Nat) : decW bs (k + 1) = decW bs k ++ [num ((bs.drop (1 + 2 * k)).take 2)] := by simp [decW, List.range_succ]
theorem num2_bd (bs : List Int) (h : Byt bs) (k : Nat) : 0 ≤ num ((bs.drop k).take 2) ∧ num ((bs.drop k).take 2) < 65536 := by
  have h1 := num_bd ((bs.drop k).take 2) ((h.drop k).take 2)
  have h2 : (256 : Int) ^ ((bs.drop k).take 2).length ≤ 65536 := by
    have hl : ((bs.drop k).take 2).length ≤ 2 := by simp; omega
    match ((bs.drop k).take 2).length, hl with
    | 0, _ => decide
    | 1, _ => decide
    | 2, _ => decide
  omega
theorem Row.tail {w : World} {b off n cap : Nat} {xs : List Int} (h : Row w (some ⟨b, off, none⟩) n cap xs) (k : Nat) (hk : k ≤ n) : Row w (some ⟨b, off + k, none⟩) (n - k) (cap - k) (xs.drop k) := by
  have h1 := h.sub k (n - k) (by omega)
  rwa [List.take_of_length_le (by simp [h.len])] at h1
theorem Byt.get {xs : List Int} (h : Byt xs) (i : Nat) : 0 ≤ xs.getD i 0 ∧ xs.getD i 0 < 256 := by
  by_cases hi : i < xs.length
  · rw [List.getD_eq_getElem?_getD, List.getElem?_eq_getElem hi]; exact h _ (List.getElem_mem hi)
  · rw [List.getD_eq_getElem?_getD, List.getElem?_eq_none (by omega)]; simp
theorem num_one (bs : List Int) (h : 0 < bs.length) : num (bs.take 1) = bs.getD 0 0 := by
  cases bs with
  | nil => simp at h
  | cons b bs => simp [num]

set_option maxHeartbeats 1000000 in
theorem takeSet_any (a : Option Addr) (n cap : Nat) (bs : List Int) (w : World) (hr : Row w a n cap bs) :
    Calls Try.prog 55 #[.slice a n cap] w fun e w' => ∃ so k co, e = .returned (.tuple #[.slice so k co, .int .i64 (tsN bs), .int .i64 (tsE bs)]) ∧ OwnW 42 w' w.heap.size so k co (tsY bs) ∧ Below w.heap.size w w' := by
  have hl : Hid (bs.length = n) := hr.len
  have hcap := hr.cap_le
  have hbd := hr.byt.get 0
  by_cases hn : n < 1
  · have e1 : takeV bs 1 = 0 := by unfold takeV; rw [if_pos (by rw [hl.out]; omega)]
    have e2 : takeE bs 1 = 3 := by unfold takeE; rw [if_neg (by omega), if_pos (by rw [hl.out]; omega)]
    have s1 : isShort bs = true := by simp [isShort, hl.out, hn]
    have s2 : tsOk bs = false := by simp [tsOk, s1]
    have s3 : Hid (tsE bs = 3 ∧ tsN bs = 0 ∧ tsY bs = []) := ⟨by simp [tsE, s1], by simp [tsN, s2], by simp [tsY, s2]⟩
    rw [s3.out.1, s3.out.2.1, s3.out.2.2]
    have ht := take_any a n cap 1 bs w hr
    rw [e1, e2] at ht
    clear e1 e2 s1 s2 s3
    go_enter Try.func55, Try.ntmps55
    go_wp2_with fail
    refine ht.mono ?_
    rintro e w1 ⟨rfl, rfl⟩
    go_wp2_with fail
    go_ret3
    exact ⟨none, 0, 0, rfl, OwnW.of_nil _ _ _, Below.refl _ _⟩
  · have e1 : takeV bs 1 = (cnt bs : Int) := by
      unfold takeV; rw [if_neg (by rw [hl.out]; omega)]
      rw [show (1 : Int).toNat = 1 from rfl, num_one bs (by rw [hl.out]; omega)]
      unfold cnt; omega
    have e2 : takeE bs 1 = 0 := by unfold takeE; rw [if_neg (by omega), if_neg (by rw [hl.out]; omega)]
    have ht := take_any a n cap 1 bs w hr
    rw [e1, e2] at ht
    have hc255 : cnt bs ≤ 255 := by unfold cnt; omega
    obtain ⟨c, hc⟩ : ∃ c, c = cnt bs := ⟨_, rfl⟩
    have HC : Hid (c = cnt bs) := hc
    rw [← hc] at ht hc255
    clear e1 e2 hc
    have hw : wrap64 (c : Int) = (c : Int) := by unfold wrap64; omega
    by_cases hshort : n < 1 + 2 * c
    · have s1 : isShort bs = true := by simp only [isShort, decide_eq_true_eq]; rw [hl.out, ← HC.out]; omega
      have s2 : tsOk bs = false := by simp [tsOk, s1]
      have s3 : Hid (tsE bs = 3 ∧ tsN bs = 0 ∧ tsY bs = []) := ⟨by simp [tsE, s1], by simp [tsN, s2], by simp [tsY, s2]⟩
      rw [s3.out.1, s3.out.2.1, s3.out.2.2]
      clear s1 s2 s3
      have hlt : (n : Int) < 1 + 2 * (c : Int) := by omega
      go_enter Try.func55, Try.ntmps55
      go_wp2_with fail
      refine ht.mono ?_
      rintro e w1 ⟨rfl, rfl⟩
      go_wp2_with fail
      go_ret3
      exact ⟨none, 0, 0, rfl, OwnW.of_nil _ _ _, Below.refl _ _⟩
    · have hlt : decide ((n : Int) < 1 + 2 * (c : Int)) = false := by simp; omega
      have s1 : isShort bs = false := by simp only [isShort, decide_eq_false_iff_not]; rw [hl.out, ← HC.out]; omega
      have s3 : Hid (tsE bs = (if mayS (decW bs c) = true then 0 else 2) ∧ tsN bs = (if mayS (decW bs c) = true then 1 + 2 * (c : Int) else 0) ∧ tsY bs = (if mayS (decW bs c) = true then decW bs c else [])) := by
        have s2 : tsOk bs = mayS (decW bs c) := by rw [tsOk, s1, ← HC.out]; rfl
        refine ⟨?_, ?_, ?_⟩
        · rw [tsE, s1, ← HC.out]; rfl
        · rw [tsN, s2, ← HC.out]
        · rw [tsY, s2, ← HC.out]
      obtain ⟨E, N, Y, hE, hN, hY, hENY⟩ : ∃ E N Y, tsE bs = E ∧ tsN bs = N ∧ tsY bs = Y ∧ ((mayS (decW bs c) = true ∧ E = 0 ∧ N = 1 + 2 * (c : Int) ∧ Y = decW bs c) ∨ (mayS (decW bs c) = false ∧ E = 2 ∧ N = 0 ∧ Y = [])) := by
        cases hmm : mayS (decW bs c)
        · exact ⟨2, 0, [], by rw [s3.out.1, hmm]; rfl, by rw [s3.out.2.1, hmm]; rfl, by rw [s3.out.2.2, hmm]; rfl, .inr ⟨rfl, rfl, rfl, rfl⟩⟩
        · exact ⟨0, 1 + 2 * (c : Int), decW bs c, by rw [s3.out.1, hmm]; rfl, by rw [s3.out.2.1, hmm]; rfl, by rw [s3.out.2.2, hmm]; rfl, .inl ⟨rfl, rfl, rfl, rfl⟩⟩
      have HENY : Hid ((mayS (decW bs c) = true ∧ E = 0 ∧ N = 1 + 2 * (c : Int) ∧ Y = decW bs c) ∨ (mayS (decW bs c) = false ∧ E = 2 ∧ N = 0 ∧ Y = [])) := hENY
      rw [hE, hN, hY]
      clear s1 s3 hE hN hY hENY
      obtain ⟨b, off, rfl, hcell⟩ := hr.at (by omega)
      clear hcell
      go_enter Try.func55, Try.ntmps55
      go_wp2_with fail
      refine ht.mono ?_
      rintro e w1 ⟨rfl, rfl⟩
      go_wp2_with fail
      go_loopw [2, 7] (fun o iv wr => ∃ (i : Nat) (so : Option Addr) (co : Nat), i ≤ c ∧ iv = .int .i64 ((1 + 2 * i : Nat) : Int) ∧ o = .slice so i co ∧ OwnW 42 wr w1.heap.size so i co (decW bs i) ∧ Below w1.heap.size w1 wr) (fun _ i _ => 1 + 2 * c - (intOf i).toNat)
      case atStart => exact ⟨0, none, 0, by omega, rfl, rfl, OwnW.of_nil _ _ _, Below.refl _ _⟩
      case round =>
        obtain ⟨i, so, co, hi, rfl, rfl, ho, hb⟩ := hrel
        by_cases hic : i < c
        · have p1 : ((1 + 2 * i : Nat) : Int) < 1 + 2 * (c : Int) := by omega
          have p2 : ((1 + 2 * i : Nat) : Int) ≤ (n : Int) := by omega
          have p3 : ¬ cap = 1 + 2 * i := by omega
          have hX := num2_bd bs hr.byt (1 + 2 * i)
          have hrow := (hr.below hb).tail (1 + 2 * i) (by omega)
          have ht2 := take_any _ _ _ 2 _ _ hrow
          have f1 : takeV (bs.drop (1 + 2 * i)) 2 = num ((bs.drop (1 + 2 * i)).take 2) := by
            unfold takeV; rw [if_neg (by rw [List.length_drop, hl.out]; omega)]; rfl
          have f2 : takeE (bs.drop (1 + 2 * i)) 2 = 0 := by unfold takeE; rw [if_neg (by omega), if_neg (by rw [List.length_drop, hl.out]; omega)]
          rw [f1, f2] at ht2
          have HS : Hid (decW bs (i + 1) = decW bs i ++ [num ((bs.drop (1 + 2 * i)).take 2)]) := decW_succ bs i
          generalize num ((bs.drop (1 + 2 * i)).take 2) = X at hX ht2 HS
          have hu : IntKind.u16.wrap X = X := by rw [IntKind.wrap_u16]; omega
          clear f1 f2 hrow
          generalize hat : 1 + 2 * i = at_ at p1 p2 p3 ht2 ⊢
          have hsz := hb.size
          go_wp2_with fail
          refine ht2.mono ?_
          rintro e w2 ⟨rfl, rfl⟩
          go_wp2_with (at_builtin; refine wp_append_words _ rfl (.tmp 38) (.tmp 41) 26 rfl 42 Try.underlying26 info27 w1.heap.size i co so _ rfl (ho.below (below_alloc _ _)) _ 1 1 [X] rfl (roww_lit w2 42 [X] 1 rfl (by omega) (Wrd.one hX)) (by omega) (by simp; omega) w1 (hb.alloc hsz _) ?_; intro so' cap' w3 o3 b3)
          go_roundw
          case rel =>
            refine ⟨i + 1, so', cap', by omega, ?_, rfl, by rw [HS.out]; exact o3, b3⟩
            rw [show ((1 + 2 * (i + 1) : Nat) : Int) = (at_ : Int) + 2 by omega]
          case measure => simp [intOf]; omega
        · obtain rfl : i = c := by omega
          have p1 : decide (((1 + 2 * i : Nat) : Int) < 1 + 2 * (i : Int)) = false := by simp
          have hmc := may_any so i co _ wr ho.row
          rcases HENY.out with ⟨hmay, rfl, rfl, rfl⟩ | ⟨hmay, rfl, rfl, rfl⟩
          · rw [hmay] at hmc
            go_wp2_with fail
            refine hmc.mono ?_
            rintro e w2 ⟨rfl, hb2⟩
            go_wp2_with fail
            go_ret3
            exact ⟨so, i, co, rfl, ho.below hb2, ext_trans hb hb2⟩
          · rw [hmay] at hmc
            go_wp2_with fail
            refine hmc.mono ?_
            rintro e w2 ⟨rfl, hb2⟩
            go_wp2_with fail
            go_ret3
            exact ⟨none, 0, 0, rfl, OwnW.of_nil _ _ _, ext_trans hb hb2⟩

end Go.Proofs.Ytkmpmljohjelhaa

namespace Go.Proofs.Ytkmpmljohjelhaa
set_option maxRecDepth 100000

theorem encS_cons (x : Int) (l : List Int) : encS (x :: l) = putB x 2 ++ encS l := rfl
theorem encS_drop : ∀ (i : Nat) (l : List Int), (encS l).drop (2 * i) = encS (l.drop i)
  | 0, l => by simp
  | i + 1, [] => by simp [encS]
  | i + 1, x :: l => by
    rw [encS_cons, List.drop_succ_cons, show 2 * (i + 1) = 2 * i + 1 + 1 by omega]
    exact encS_drop i l
theorem num_two (x : Int) (h : 0 ≤ x ∧ x < 65536) : num (putB x 2) = x := by
  rw [num_putB, show (256 : Int) ^ 2 = 65536 from rfl]; omega
theorem decW_enc (c : Int) (l more : List Int) (hw : Wrd l) : decW (c :: (encS l ++ more)) l.length = l := by
  apply List.ext_getElem (by simp [decW_len])
  intro i h1 h2
  simp only [decW, List.getElem_map, List.getElem_range]
  rw [show 1 + 2 * i = 2 * i + 1 by omega, List.drop_succ_cons, List.drop_append_of_le_length (by rw [encS_len]; omega), encS_drop]
  have : l.drop i = l[i] :: l.drop (i + 1) := List.drop_eq_getElem_cons h2
  rw [this, encS_cons, List.append_assoc, List.take_append_of_le_length (by simp [putB_len]), List.take_of_length_le (by simp [putB_len])]
  exact num_two _ (hw _ (List.getElem_mem h2))
theorem putB_one (m : Nat) (h : m ≤ 255) : putB m 1 = [(m : Int)] := by
  simp only [putB, Int.pow_zero, Int.ediv_one]
  rw [Int.emod_eq_of_lt (by omega) (by omega)]
/-- Bytes that are a count and so many categories, and more. -/
theorem ts_enc (l more : List Int) (hw : Wrd l) (h : l.length ≤ 255) :
    cnt ((l.length : Int) :: (encS l ++ more)) = l.length ∧ isShort ((l.length : Int) :: (encS l ++ more)) = false ∧ decW ((l.length : Int) :: (encS l ++ more)) (cnt ((l.length : Int) :: (encS l ++ more))) = l := by
  have hc : cnt ((l.length : Int) :: (encS l ++ more)) = l.length := by simp [cnt]
  refine ⟨hc, ?_, by rw [hc]; exact decW_enc _ l more hw⟩
  simp only [isShort, decide_eq_false_iff_not, hc, List.length_cons, List.length_append, encS_len]
  omega
theorem ts_ok (l more : List Int) (hw : Wrd l) (h : mayS l = true) :
    tsE ((l.length : Int) :: (encS l ++ more)) = 0 ∧ tsN ((l.length : Int) :: (encS l ++ more)) = 1 + 2 * (l.length : Int) ∧ tsY ((l.length : Int) :: (encS l ++ more)) = l := by
  have hl : l.length ≤ 255 := by
    simp only [mayS, Bool.and_eq_true, decide_eq_true_eq] at h; omega
  obtain ⟨h1, h2, h3⟩ := ts_enc l more hw hl
  have h4 : tsOk ((l.length : Int) :: (encS l ++ more)) = true := by rw [tsOk, h2, h3, h]; rfl
  refine ⟨?_, ?_, ?_⟩
  · rw [tsE, h2, h3, h]; rfl
  · rw [tsN, h4, h1]; rfl
  · rw [tsY, h4, h3]; rfl
theorem ts_form (l more : List Int) (hw : Wrd l) (h : mayS l = false) (hl : l.length ≤ 255) :
    tsE ((l.length : Int) :: (encS l ++ more)) = 2 ∧ tsN ((l.length : Int) :: (encS l ++ more)) = 0 ∧ tsY ((l.length : Int) :: (encS l ++ more)) = [] := by
  obtain ⟨h1, h2, h3⟩ := ts_enc l more hw hl
  have h4 : tsOk ((l.length : Int) :: (encS l ++ more)) = false := by rw [tsOk, h2, h3, h]; rfl
  refine ⟨?_, ?_, ?_⟩
  · rw [tsE, h2, h3, h]; rfl
  · rw [tsN, h4]; rfl
  · rw [tsY, h4]; rfl
end Go.Proofs.Ytkmpmljohjelhaa
