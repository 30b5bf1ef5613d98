/- What the functions that only read lists of letters answer: contracts. What ring's letters, Push and Pop and the document's Copy answer: contracts. The bytes of a list of letters, and what ring.Put answers of one that may be: a contract. Which bytes are a list of letters, and what ring.Take answers: a contract, for every slice of bytes. What is put is taken, and cut off it is short: of the bytes alone. -/
import Derived.Test.YtkmpmljohjelhaaRings
import Derived.Test.YtkmpmljohjelhaaJNum
import Derived.Test.YtkmpmljohjelhaaRegion
import Derived.BigQuiet
import Derived.Test.YtkmpmljohjelhaaConcat
namespace Go.Proofs.Ytkmpmljohjelhaa
open Go.RowKit
set_option maxRecDepth 100000
set_option linter.unusedVariables false

/-- What 'string(b)' of bytes is. -/
theorem strR : Hid (∀ (W : World) (ao : Option Addr) (n c : Nat) (zs : List Int), Row W ao n c zs → (convert 29 9 (.slice ao n c)).run Try.prog W = .ok (.string (strOfNums zs)) W) := fun W ao n c zs hrow => run_str (P := Try.prog) W 29 9 5 Try.underlying29 Try.underlying5 Try.underlying9 ao n c zs hrow
theorem bytesOfR_inj : ∀ {xs ys : List Int}, Byt xs → Byt ys → Lib.bytesOf xs = Lib.bytesOf ys → xs = ys
  | [], [], _, _, _ => rfl
  | [], _ :: _, _, _, h => by simp [Lib.bytesOf] at h
  | _ :: _, [], _, _, h => by simp [Lib.bytesOf] at h
  | x :: xs, y :: ys, hx, hy, h => by
    simp only [Lib.bytesOf, List.map_cons, List.cons.injEq] at h
    have h1 := hx x (by simp)
    have h2 := hy y (by simp)
    have h3 := congrArg UInt8.toNat h.1
    rw [UInt8.toNat_ofNat', UInt8.toNat_ofNat'] at h3
    have h4 : x = y := by omega
    rw [h4, bytesOfR_inj (fun z hz => hx z (by simp [hz])) (fun z hz => hy z (by simp [hz])) h.2]
theorem strR_inj {xs ys : List Int} (hx : Byt xs) (hy : Byt ys) (h : (strOfNums xs).toList = (strOfNums ys).toList) : xs = ys := by
  rw [Lib.strOfNums_toList, Lib.strOfNums_toList] at h
  exact bytesOfR_inj hx hy h

/-- Are these not too many letters, none too long? -/
def mayT (ls : List (List Int)) : Bool := decide (ls.length ≤ 4) && ls.all fun l => decide (l.length ≤ 16)
theorem mayT_iff (ls : List (List Int)) : mayT ls = true ↔ ls.length ≤ 4 ∧ ∀ l ∈ ls, l.length ≤ 16 := by simp [mayT]
theorem RowR.le16 {w : World} {a : Option Addr} {n cap : Nat} {ps : List Le} (h : RowR w a n cap ps) : (∀ l ∈ txt ps, l.length ≤ 16) ↔ ∀ p ∈ ps, p.n ≤ 16 := by
  constructor
  · intro g p hp
    have := g p.xs (List.mem_map.2 ⟨p, hp, rfl⟩)
    rw [(h.2 p hp).len] at this; exact this
  · intro g l hl
    obtain ⟨p, hp, rfl⟩ := List.mem_map.1 hl
    rw [(h.2 p hp).len]; exact g p hp

theorem isLong_any (a : Option Addr) (n c : Nat) (w : World) : Calls Try.prog 63 #[.slice a n c] w fun e w' => e = .returned (.bool (decide (16 < n))) ∧ w' = w := by
  by_cases h : 16 < n
  · have h' : (16 : Int) < (n : Int) := by omega
    rw [decide_eq_true h]
    go_enter Try.func63, Try.ntmps63
    go_wp2_with fail
    go_ret
    exact ⟨rfl, rfl⟩
  · have h' : ¬ (16 : Int) < (n : Int) := by omega
    rw [decide_eq_false h]
    go_enter Try.func63, Try.ntmps63
    go_wp2_with fail
    go_ret
    exact ⟨rfl, rfl⟩

set_option maxHeartbeats 1000000 in
theorem indexLong_any (a : Option Addr) (n c : Nat) (ps : List Le) (w : World) (hr : RowR w a n c ps) (L : Bool) (hL : L = true ↔ ∀ p ∈ ps, p.n ≤ 16) :
    Calls Try.prog 66 #[.slice a n c, .func (.func 63) #[] #[]] w fun e w' => ∃ k : Int, e = .returned (.int .i64 k) ∧ (if L = true then k = -1 else 0 ≤ k) ∧ w' = w := by
  have hl : Hid (ps.length = n) := hr.len
  have hcap := hr.cap_le
  have HL : Hid (L = true ↔ ∀ p ∈ ps, p.n ≤ 16) := hL
  clear hL
  go_enter Try.func66, Try.ntmps66
  go_wp2_with fail
  go_loopw [5, 8] (fun s5 i wr => ∃ j : Nat, j ≤ n ∧ (∃ z : Value, s5 = z) ∧ i = .int .i64 j ∧ (∀ t p, t < j → ps[t]? = some p → p.n ≤ 16) ∧ wr = w) (fun _ i _ => n - (intOf i).toNat)
  case atStart => exact ⟨0, by omega, ⟨_, rfl⟩, rfl, fun t p h => by omega, rfl⟩
  case round =>
    obtain ⟨j, hj, ⟨z, rfl⟩, rfl, hlo, rfl⟩ := hrel
    have HLO : Hid (∀ t p, t < j → ps[t]? = some p → p.n ≤ 16) := hlo
    clear hlo
    by_cases h : j < n
    · have h1 : (j : Int) < (n : Int) := by omega
      obtain ⟨b, off, rfl, hr'⟩ := hr.at (by omega)
      obtain ⟨p, hp⟩ := hr.get j h
      obtain ⟨c1, _⟩ := hr'.cell hp
      have HP : Hid (ps[j]? = some p) := hp
      clear hp hr'
      go_wp2_with fail
      refine (isLong_any p.a p.n p.c _).mono ?_
      rintro e w1 ⟨rfl, rfl⟩
      by_cases hp16 : 16 < p.n
      · rw [decide_eq_true hp16]
        have hLf : L = false := by
          cases hc : L with
          | false => rfl
          | true => have := HL.out.1 hc p (List.mem_of_getElem? HP.out); omega
        subst hLf
        go_wp2_with fail
        go_ret
        exact ⟨_, rfl, by simp, rfl⟩
      · rw [decide_eq_false hp16]
        go_wp2
        go_roundw
        case rel =>
          refine ⟨j + 1, by omega, ⟨_, rfl⟩, by go_num, fun t q ht hq => ?_, by first | rfl | trivial⟩
          by_cases htj : t < j
          · exact HLO.out t q htj hq
          · obtain rfl : t = j := by omega
            have := HP.out; rw [hq] at this; simp at this; subst this; omega
        case measure => simp [intOf]; omega
    · have h1 : ¬ (j : Int) < (n : Int) := by omega
      have hLt : L = true := HL.out.2 fun p hp => by
        obtain ⟨t, ht, e⟩ := List.mem_iff_getElem.1 hp
        exact HLO.out t p (by have := hl.out; omega) (by rw [List.getElem?_eq_getElem ht, e])
      subst hLt
      go_wp2_with fail
      go_ret
      exact ⟨_, rfl, by simp, rfl⟩
theorem containsLong_any (a : Option Addr) (n c : Nat) (ps : List Le) (w : World) (hr : RowR w a n c ps) (L : Bool) (hL : L = true ↔ ∀ p ∈ ps, p.n ≤ 16) :
    Calls Try.prog 62 #[.slice a n c, .func (.func 63) #[] #[]] w fun e w' => e = .returned (.bool (!L)) ∧ w' = w := by
  have hq := indexLong_any a n c ps w hr L hL
  clear hL
  go_enter Try.func62, Try.ntmps62
  go_wp2_with fail
  refine hq.mono ?_
  rintro e w1 ⟨k, rfl, hk, rfl⟩
  cases L with
  | true =>
    simp only [if_true] at hk
    subst hk
    go_wp2_with fail
    go_ret
    exact ⟨rfl, rfl⟩
  | false =>
    simp only [Bool.false_eq_true, if_false] at hk
    have h1 : decide (k ≥ 0) = true := by simpa using hk
    go_wp2_with fail
    go_ret
    exact ⟨rfl, rfl⟩
theorem may_anyR (a : Option Addr) (n c : Nat) (ps : List Le) (w : World) (hr : RowR w a n c ps) : Calls Try.prog 49 #[.slice a n c] w fun e w' => e = .returned (.bool (mayT (txt ps))) ∧ w' = w := by
  have hlen := hr.len
  obtain ⟨L, hL⟩ : ∃ L : Bool, L = true ↔ ∀ p ∈ ps, p.n ≤ 16 := ⟨decide (∀ p ∈ ps, p.n ≤ 16), by simp⟩
  have hq := containsLong_any a n c ps w hr L hL
  have h16 := hr.le16
  by_cases h : n ≤ 4
  · have h1 : (n : Int) ≤ 4 := by omega
    have he : mayT (txt ps) = L := by
      rw [Bool.eq_iff_iff, mayT_iff, hL, h16, txt_len, hlen]; simp [h]
    rw [he]
    clear h16 he hL
    go_enter Try.func49, Try.ntmps49
    go_wp2_with fail
    refine hq.mono ?_
    rintro e w1 ⟨rfl, rfl⟩
    cases L
    · go_wp2_with fail
      go_ret
      exact ⟨rfl, rfl⟩
    · go_wp2_with fail
      go_ret
      exact ⟨rfl, rfl⟩
  · have h1 : ¬ (n : Int) ≤ 4 := by omega
    have he : mayT (txt ps) = false := by
      cases hc : mayT (txt ps) with
      | false => rfl
      | true => have := (mayT_iff _).1 hc; rw [txt_len] at this; omega
    rw [he]
    clear h16 he hL hq
    go_enter Try.func49, Try.ntmps49
    go_wp2_with fail
    go_ret
    exact ⟨rfl, rfl⟩

set_option maxHeartbeats 1000000 in
theorem mayRing_any (a : Option Addr) (n c : Nat) (ps : List Le) (w : World) (hr : RowR w a n c ps) : Calls Try.prog 39 #[.slice a n c] w fun e w' => e = .returned (.bool (mayT (txt ps))) ∧ w' = w := by
  have hl : Hid (ps.length = n) := hr.len
  have hcap := hr.cap_le
  obtain ⟨M, hM⟩ : ∃ M, M = mayT (txt ps) := ⟨_, rfl⟩
  rw [← hM]
  have HM0 : M = true ↔ n ≤ 4 ∧ ∀ p ∈ ps, p.n ≤ 16 := by rw [hM, mayT_iff, hr.le16, txt_len, hr.len]
  have HM : Hid (M = true ↔ n ≤ 4 ∧ ∀ p ∈ ps, p.n ≤ 16) := HM0
  clear HM0
  clear hM
  go_enter Try.func39, Try.ntmps39
  go_wp2_with fail
  go_loopw [3] (fun i wr => ∃ j : Nat, j ≤ n ∧ i = .int .i64 j ∧ (∀ t p, t < j → ps[t]? = some p → p.n ≤ 16) ∧ wr = w) (fun i _ => n - (intOf i).toNat)
  case atStart => exact ⟨0, by omega, rfl, fun t p h => by omega, rfl⟩
  case round =>
    obtain ⟨j, hj, rfl, hlo, rfl⟩ := hrel
    have HLO : Hid (∀ t p, t < j → ps[t]? = some p → p.n ≤ 16) := hlo
    clear hlo
    by_cases h : j < n
    · have h1 : (j : Int) < (n : Int) := by omega
      obtain ⟨b, off, rfl, hr'⟩ := hr.at (by omega)
      obtain ⟨p, hp⟩ := hr.get j h
      obtain ⟨c1, _⟩ := hr'.cell hp
      have HP : Hid (ps[j]? = some p) := hp
      clear hp hr'
      by_cases hp16 : 16 < p.n
      · have h2 : (16 : Int) < (p.n : Int) := by omega
        have hLf : M = false := by
          cases hc : M with
          | false => rfl
          | true => have := (HM.out.1 hc).2 p (List.mem_of_getElem? HP.out); omega
        subst hLf
        go_wp2_with fail
        go_ret
        exact ⟨rfl, rfl⟩
      · have h2 : ¬ (16 : Int) < (p.n : Int) := by omega
        go_wp2
        go_roundw
        case rel =>
          refine ⟨j + 1, by omega, by go_num, fun t q ht hq => ?_, by first | rfl | trivial⟩
          by_cases htj : t < j
          · exact HLO.out t q htj hq
          · obtain rfl : t = j := by omega
            have := HP.out; rw [hq] at this; simp at this; subst this; omega
        case measure => simp [intOf]; omega
    · have h1 : ¬ (j : Int) < (n : Int) := by omega
      have hLt : M = decide (n ≤ 4) := by
        rw [Bool.eq_iff_iff, HM.out]
        simp
        intro _ p hp
        obtain ⟨t, ht, e⟩ := List.mem_iff_getElem.1 hp
        exact HLO.out t p (by have := hl.out; omega) (by rw [List.getElem?_eq_getElem ht, e])
      subst hLt
      by_cases h4 : n ≤ 4
      · have h4' : (n : Int) ≤ 4 := by omega
        go_wp2_with fail
        go_ret
        exact ⟨by simp, rfl⟩
      · have h4' : ¬ (n : Int) ≤ 4 := by omega
        go_wp2_with fail
        go_ret
        exact ⟨by simp, rfl⟩
end Go.Proofs.Ytkmpmljohjelhaa

namespace Go.Proofs.Ytkmpmljohjelhaa
open Go.RowKit
set_option maxRecDepth 100000
set_option linter.unusedVariables false

/-- bytes.Clone of whatever bytes. -/
theorem cloneR_any (a : Option Addr) (n c : Nat) (xs : List Int) (w : World) (hr : Row w a n c xs) (hbd : n ≤ 140737488351232) :
    Calls Try.prog 51 #[.slice a n c] w fun e w' => ∃ a' c', e = .returned (.slice a' n c') ∧ LeO w' w.heap.size ⟨a', n, c', xs⟩ ∧ Below w.heap.size w w' := by
  cases a with
  | some x =>
    refine (clone_some x n c xs w hr hbd).mono ?_
    rintro e w1 ⟨g, c', rfl, ho, hb⟩
    exact ⟨_, c', rfl, LeO.made ho, hb⟩
  | none =>
    obtain ⟨rfl, rfl⟩ := hr.2.2.2.2.1 rfl
    have hnil : xs = [] := List.eq_nil_of_length_eq_zero hr.len
    subst hnil
    have hq := fun W => Lib.run_eql_slice_nil (P := Try.prog) W 29 5 none 0 0 0 0 Try.underlying29
    go_enter Try.func51, Try.ntmps51
    go_wp2_with fail
    go_ret
    exact ⟨none, 0, by simp, LeO.nil _ _, Below.refl _ _⟩

end Go.Proofs.Ytkmpmljohjelhaa

namespace Go.Proofs.Ytkmpmljohjelhaa
open Go.RowKit
set_option maxRecDepth 100000
set_option linter.unusedVariables false

/-- The bytes of one letter, of letters, of a list. -/
def letB (l : List Int) : List Int := putB l.length 2 ++ l
def letsB (ls : List (List Int)) : List Int := ls.flatMap letB
def ringB (ls : List (List Int)) : List Int := putB ls.length 1 ++ letsB ls
theorem letB_len (l : List Int) : (letB l).length = 2 + l.length := by simp [letB, putB_len]
theorem letsB_snoc (ls : List (List Int)) (l : List Int) : letsB (ls ++ [l]) = letsB ls ++ letB l := by simp [letsB]
theorem ringB_len (ls : List (List Int)) : (ringB ls).length = 1 + (letsB ls).length := by simp [ringB, putB_len]
theorem letsB_le : ∀ (ls : List (List Int)), (∀ l ∈ ls, l.length ≤ 16) → (letsB ls).length ≤ 18 * ls.length
  | [], _ => by simp [letsB]
  | l :: ls, h => by
    have := letsB_le ls (fun x hx => h x (by simp [hx]))
    have hl := h l (by simp)
    have e : letsB (l :: ls) = letB l ++ letsB ls := by simp [letsB]
    rw [e, List.length_append, letB_len, List.length_cons]; omega

set_option maxHeartbeats 4000000 in
theorem put_okR (b : Option Addr) (m d : Nat) (ys : List Int) (a : Option Addr) (n c : Nat) (ps : List Le) (w : World) (hs : Row w b m d ys) (hr : RowR w a n c ps) (hm : mayT (txt ps) = true) (hb : m ≤ 1000000) :
    Calls Try.prog 31 #[.slice b m d, .slice a n c] w fun e w' => ∃ g k c', e = .returned (.slice (some ⟨g, 0, none⟩) k c') ∧ Own 5 w' w.heap.size g k c' (ys ++ ringB (txt ps)) ∧ Below w.heap.size w w' := by
  have hl := hr.len
  have hcap := hr.cap_le
  have hmi := (mayT_iff _).1 hm
  have h16 := hr.le16.1 hmi.2
  have hn4 : n ≤ 4 := by have := hmi.1; rw [txt_len] at this; omega
  have HL : Hid (∀ j, j ≤ n → (letsB ((txt ps).take j)).length ≤ 18 * j) := fun j hj => by
    have := letsB_le ((txt ps).take j) (fun l hl => hmi.2 l (List.mem_of_mem_take hl))
    simp [txt_len] at this; omega
  clear hmi
  go_enter Try.func31, Try.ntmps31
  go_wp2_with fail
  refine (may_anyR a n c ps _ hr).mono ?_
  rintro e w ⟨rfl, rfl⟩
  rw [hm]
  have hwr : IntKind.u64.wrap (n : Int) = (n : Int) := by rw [IntKind.wrap_u64]; omega
  go_wp2_with fail
  refine (put_any none 0 0 n 1 [] _ (Row.nil _) (by omega)).mono ?_
  rintro e w1 ⟨g1, c1, rfl, o1, b1⟩
  have hw1 : wid 1 = 1 := by decide
  rw [hw1] at o1
  rw [hw1]
  go_wp2_with fail
  go_loopw [5, 7, 19] (fun s5 s7 i wr => ∃ (j g c L : Nat), j ≤ n ∧ s5 = .slice (some ⟨g, 0, none⟩) L c ∧ (∃ z : Value, s7 = z) ∧ i = .int .i64 j ∧ Own 5 wr w.heap.size g L c (putB n 1 ++ letsB ((txt ps).take j)) ∧ L ≤ 1 + 18 * j ∧ Below w.heap.size w wr) (fun _ _ i _ => n - (intOf i).toNat)
  case atStart => exact ⟨0, g1, c1, 1, by omega, rfl, ⟨_, rfl⟩, rfl, by simpa [letsB] using o1, by omega, b1⟩
  case round =>
    obtain ⟨j, g, cc, L, hj, rfl, ⟨z, rfl⟩, rfl, ho, hL, hbel⟩ := hrel
    by_cases h : j < n
    · have h1 : (j : Int) < (n : Int) := by omega
      obtain ⟨gb, off, rfl, hr'⟩ := (hr.below hbel).at (by omega)
      obtain ⟨p, hp1⟩ := hr.get j h
      obtain ⟨k1, r1⟩ := hr'.cell hp1
      have HP : Hid (ps[j]? = some p) := hp1
      have hpn := h16 p (List.mem_of_getElem? hp1)
      have hpl := r1.len
      clear hr' hp1
      go_wp2_with fail
      refine (putBytes_any _ L cc _ p.a p.n p.c p.xs _ ho.row r1 (by omega) (by omega)).mono ?_
      rintro e w2 ⟨g2, c2, rfl, o2, b2⟩
      have b2' := hbel.trans (b2.mono hbel.size)
      go_wp2_with fail
      go_roundw
      case rel =>
        refine ⟨j + 1, g2, c2, L + 2 + p.n, by omega, rfl, ⟨_, rfl⟩, by go_num, ?_, by omega, b2'⟩
        have e1 : (txt ps).take (j + 1) = (txt ps).take j ++ [p.xs] := by
          rw [List.take_add_one]; congr 1
          have := HP.out
          simp [txt, this]
        rw [e1, letsB_snoc, ← List.append_assoc]
        have o3 := o2.mono hbel.size
        rw [List.append_assoc (putB (n : Int) 1 ++ _)] at o3
        unfold letB
        rw [hpl]
        exact o3
      case measure => simp [intOf]; omega
    · have h1 : ¬ (j : Int) < (n : Int) := by omega
      obtain rfl : j = n := by omega
      have hp0 : 0 < L := by have := ho.1; simp [putB_len] at this; omega
      rw [List.take_of_length_le (by rw [txt_len]; omega)] at ho
      go_wp2_with fail
      refine (concat_two _ b (some ⟨g, 0, none⟩) m d L cc ys _ _ (by simp) (by simp) ((hs.below hbel).below (below_alloc _ _)) (ho.row.below (below_alloc _ _)) (by omega) (by omega)).mono ?_
      rintro e w3 ⟨g3, c3, rfl, o3, b3⟩
      go_wp2_with fail
      go_ret
      refine ⟨g3, m + L, c3, rfl, ?_, ?_⟩
      · have := o3.mono (B' := w.heap.size) (by have := hbel.size; simp; omega)
        unfold ringB
        rw [txt_len, hl]
        exact this
      · exact (hbel.alloc hbel.size _).trans (b3.mono (by have := hbel.size; simp; omega))
end Go.Proofs.Ytkmpmljohjelhaa

namespace Go.Proofs.Ytkmpmljohjelhaa
open Go.RowKit
set_option maxRecDepth 100000
set_option linter.unusedVariables false

/-- Is there a letter at the head of these bytes? How long is it? Which? -/
def okRg (xs : List Int) : Bool := decide (2 ≤ xs.length ∧ num (xs.take 2) + 2 ≤ xs.length)
def szL (xs : List Int) : Nat := (num (xs.take 2)).toNat
def leL (xs : List Int) : List Int := (xs.drop 2).take (szL xs)
/-- k letters behind the first byte, and where the next one would stand. -/
def tkP (xs : List Int) : Nat → Option (List (List Int) × Nat)
  | 0 => some ([], 1)
  | k + 1 => match tkP xs k with
    | none => none
    | some (ls, p) => if okRg (xs.drop p) = true then some (ls ++ [leL (xs.drop p)], p + 2 + szL (xs.drop p)) else none
/-- All the letters that bytes say. -/
def tkR (xs : List Int) : Option (List (List Int) × Nat) := if xs = [] then none else tkP xs (num (xs.take 1)).toNat
theorem tkP_none {xs : List Int} {j k : Nat} (h : tkP xs j = none) (hk : j ≤ k) : tkP xs k = none := by
  induction k with
  | zero => obtain rfl : j = 0 := by omega
            exact h
  | succ k ih =>
    by_cases e : j = k + 1
    · subst e; exact h
    · simp [tkP, ih (by omega)]
theorem tkP_le {xs : List Int} (hx : 1 ≤ xs.length) : ∀ {k : Nat} {ls : List (List Int)} {p : Nat}, tkP xs k = some (ls, p) → 1 ≤ p ∧ p ≤ xs.length ∧ ls.length = k
  | 0, ls, p, h => by simp [tkP] at h; obtain ⟨rfl, rfl⟩ := h; exact ⟨by omega, hx, rfl⟩
  | k + 1, ls, p, h => by
    simp only [tkP] at h
    cases e : tkP xs k with
    | none => rw [e] at h; simp at h
    | some q =>
      obtain ⟨ms, r⟩ := q
      rw [e] at h
      simp only at h
      have ih := tkP_le hx e
      split at h
      · rename_i ho
        simp at h
        obtain ⟨rfl, rfl⟩ := h
        have h2 := of_decide_eq_true ho
        unfold szL
        simp only [List.length_drop] at h2
        refine ⟨by omega, by omega, by simp; omega⟩
      · simp at h
theorem Row.fromR {w : World} {b off n cap : Nat} {xs : List Int} (h : Row w (some ⟨b, off, none⟩) n cap xs) (k : Nat) (hk : k ≤ n) : Row w (some ⟨b, off + k, none⟩) (n - k) (cap - k) (xs.drop k) := by
  have h1 := h.sub k (n - k) (by omega)
  rwa [List.take_of_length_le (by simp [h.len])] at h1

/-- num.TakeBytes where there is a letter, and where there is none. -/
theorem takeL_ok (b off n c : Nat) (xs : List Int) (w : World) (hr : Row w (some ⟨b, off, none⟩) n c xs) (hbd : n ≤ 140737488351232) (h : okRg xs = true) :
    Calls Try.prog 58 #[.slice (some ⟨b, off, none⟩) n c] w fun e w' => ∃ g c', e = .returned (.tuple #[.slice (some ⟨g, 0, none⟩) (szL xs) c', .int .i64 (2 + szL xs), .int .i64 0]) ∧ Own 5 w' w.heap.size g (szL xs) c' (leL xs) ∧ Below w.heap.size w w' := by
  have h2 := of_decide_eq_true h
  have hl := hr.len
  have hnn := (num_bd (xs.take 2) (hr.byt.take 2)).1
  have hm : num (xs.take 2) = (szL xs : Int) := by unfold szL; omega
  exact takeBytes_in b off n c xs w hr hbd (by omega) (szL xs) hm (by omega)
theorem takeL_no (a : Option Addr) (n c : Nat) (xs : List Int) (w : World) (hr : Row w a n c xs) (h : okRg xs = false) :
    Calls Try.prog 58 #[.slice a n c] w fun e w' => e = .returned (.tuple #[.slice none 0 0, .int .i64 0, .int .i64 3]) ∧ w' = w := by
  have h2 := of_decide_eq_false h
  have hl := hr.len
  exact takeBytes_short a n c xs w hr (by omega)

set_option maxHeartbeats 4000000 in
theorem takeR_any (a : Option Addr) (n c : Nat) (xs : List Int) (w : World) (hr : Row w a n c xs) (hbd : n ≤ 140737488351232) :
    Calls Try.prog 59 #[.slice a n c] w fun e w' => ∃ (so : Option Addr) (k co : Nat) (p E : Int), e = .returned (.tuple #[.slice so k co, .int .i64 p, .int .i64 E]) ∧ Below w.heap.size w w' ∧
      ((∃ (qs : List Le) (q : Nat), E = 0 ∧ p = q ∧ tkR xs = some (txt qs, q) ∧ mayT (txt qs) = true ∧ OwnR w' w.heap.size so k co qs) ∨ (E = 2 ∧ so = none ∧ k = 0 ∧ co = 0 ∧ p = 0 ∧ ∃ ls q, tkR xs = some (ls, q) ∧ mayT ls = false) ∨ (E = 3 ∧ so = none ∧ k = 0 ∧ co = 0 ∧ p = 0 ∧ tkR xs = none)) := by
  have hl := hr.len
  have hcap := hr.cap_le
  have ht := take_any a n c 1 xs w hr
  by_cases hn : n = 0
  · subst hn
    have hnil : xs = [] := List.eq_nil_of_length_eq_zero hl
    subst hnil
    have e1 : takeV [] 1 = 0 := rfl
    have e2 : takeE [] 1 = 3 := rfl
    rw [e1, e2] at ht
    clear e1 e2
    go_enter Try.func59, Try.ntmps59
    go_wp2_with fail
    refine ht.mono ?_
    rintro e w ⟨rfl, rfl⟩
    go_wp2_with fail
    go_ret3
    exact ⟨none, 0, 0, 0, 3, rfl, Below.refl _ _, .inr (.inr ⟨rfl, rfl, rfl, rfl, rfl, rfl⟩)⟩
  · have e1 : takeV xs 1 = num (xs.take 1) := by unfold takeV; rw [if_neg (by omega)]; rfl
    have e2 : takeE xs 1 = 0 := by unfold takeE; rw [if_neg (by omega), if_neg (by omega)]
    obtain ⟨K, hK⟩ : ∃ K : Nat, K = (num (xs.take 1)).toNat := ⟨_, rfl⟩
    have hnb := num_bd (xs.take 1) (hr.byt.take 1)
    have hK2 : num (xs.take 1) = (K : Int) := by omega
    have hK3 : K < 256 := by
      have : (xs.take 1).length = 1 := by simp; omega
      rw [this] at hnb; omega
    have HR : Hid (tkR xs = tkP xs K) := by
      have : xs ≠ [] := fun e => by subst e; simp at hl; omega
      show tkR xs = tkP xs K
      unfold tkR; rw [if_neg this, hK]
    have HX : Hid (1 ≤ xs.length) := show 1 ≤ xs.length by omega
    rw [e1, e2, hK2] at ht
    clear e1 e2 hK hnb hK2
    obtain ⟨b, off, rfl, _⟩ := hr.at (by omega)
    go_enter Try.func59, Try.ntmps59
    go_wp2_with fail
    refine ht.mono ?_
    rintro e w ⟨rfl, rfl⟩
    go_wp2_with fail
    go_loopw [2, 3, 6, 7, 8, 18] (fun s2 s3 s6 s7 s8 i wr => ∃ (j p : Nat) (so : Option Addr) (co : Nat) (qs : List Le), j ≤ K ∧ s2 = .slice so j co ∧ s3 = .int .i64 p ∧ (∃ z : Value, s6 = z) ∧ (∃ z : Value, s7 = z) ∧ (∃ z : Value, s8 = z) ∧ i = .int .u64 j ∧ OwnR wr w.heap.size so j co qs ∧ Hid (tkP xs j = some (txt qs, p)) ∧ Below w.heap.size w wr) (fun _ _ _ _ _ i _ => K - (intOf i).toNat)
    case atStart => exact ⟨0, 1, none, 0, [], by omega, rfl, rfl, ⟨_, rfl⟩, ⟨_, rfl⟩, ⟨_, rfl⟩, rfl, OwnR.nil _ _, rfl, Below.refl _ _⟩
    case round =>
      obtain ⟨j, p, so, co, qs, hj, rfl, rfl, ⟨z6, rfl⟩, ⟨z7, rfl⟩, ⟨z8, rfl⟩, rfl, ho, HT, hbel⟩ := hrel
      have hp := tkP_le HX.out HT.out
      have hpl : 1 ≤ p ∧ p ≤ n := by omega
      clear hp
      by_cases h : j < K
      · have h1 : (j : Int) < (K : Int) := by omega
        have hpn : (p : Int) ≤ (n : Int) := by omega
        by_cases hc : c = p
        · subst hc
          obtain rfl : c = n := by omega
          have hok : okRg (xs.drop c) = false := by
            rw [List.drop_eq_nil_iff.2 (by omega)]; rfl
          have hno : tkR xs = none := by
            rw [HR.out]
            refine tkP_none (j := j + 1) ?_ (by omega)
            simp only [tkP]; rw [HT.out]; simp [hok]
          have HNO : Hid (tkR xs = none) := hno
          have hs := takeL_no (some ⟨b, off, none⟩) 0 0 (xs.drop c) wr (by rw [List.drop_eq_nil_iff.2 (by omega)]; exact Row.none_of _ _ _ (by omega)) hok
          clear hok hno
          go_wp2_with fail
          refine hs.mono ?_
          rintro e wr ⟨rfl, rfl⟩
          go_wp2_with fail
          go_ret3
          exact ⟨none, 0, 0, 0, 3, rfl, hbel, .inr (.inr ⟨rfl, rfl, rfl, rfl, rfl, HNO.out⟩)⟩
        · have hrow := (hr.below hbel).fromR p hpl.2
          have hcp : ¬ (c : Int) = (p : Int) := by omega
          cases hok : okRg (xs.drop p) with
          | false =>
            have hno : tkR xs = none := by
              rw [HR.out]
              refine tkP_none (j := j + 1) ?_ (by omega)
              simp only [tkP]; rw [HT.out]; simp [hok]
            have HNO : Hid (tkR xs = none) := hno
            have hs := takeL_no (some ⟨b, off + p, none⟩) (n - p) (c - p) (xs.drop p) wr hrow hok
            clear hok hno hrow
            go_wp2_with fail
            refine hs.mono ?_
            rintro e wr ⟨rfl, rfl⟩
            go_wp2_with fail
            go_ret3
            exact ⟨none, 0, 0, 0, 3, rfl, hbel, .inr (.inr ⟨rfl, rfl, rfl, rfl, rfl, HNO.out⟩)⟩
          | true =>
            have hs := takeL_ok b (off + p) (n - p) (c - p) (xs.drop p) wr hrow (by omega) hok
            obtain ⟨S, hS⟩ : ∃ S, S = szL (xs.drop p) := ⟨_, rfl⟩
            have HT2 : Hid (tkP xs (j + 1) = some (txt qs ++ [leL (xs.drop p)], p + 2 + S)) := by
              show _ = _
              simp only [tkP]; rw [HT.out]; simp [hok, hS]
            have hS2 := (tkP_le HX.out HT2.out).2.1
            rw [← hS] at hs
            clear hok hrow hS
            go_wp2_with fail
            refine hs.mono ?_
            rintro e w2 ⟨g2, c2, rfl, o2, b2⟩
            have b2' := hbel.trans (b2.mono hbel.size)
            have hL2 := (LeO.made o2).mono hbel.size
            have ho2 := ho.below b2
            clear hs
            go_wp2_with (at_builtin; refine wp_append_letter _ rfl (.tmp 31) (.tmp 33) 30 rfl Try.underlying30 w.heap.size j co so qs rfl (ho2.below (below_alloc _ _)) _ 1 ⟨some ⟨g2, 0, none⟩, S, c2, leL (xs.drop p)⟩ rfl (lit_one _ ⟨some ⟨g2, 0, none⟩, S, c2, leL (xs.drop p)⟩) (hL2.below (below_alloc _ _)) (by omega) (by have := b2'.size; simp; omega) w (b2'.alloc b2'.size _) ?_; intro so' co' w3 o3 b3 _)
            go_roundw
            case rel =>
              refine ⟨j + 1, p + 2 + S, so', co', _, by omega, rfl, by go_num, ⟨_, rfl⟩, ⟨_, rfl⟩, ⟨_, rfl⟩, by go_num, o3, ?_, b3⟩
              rw [txt_append, txt_one]
              exact HT2
            case measure => simp [intOf]; omega
      · have h1 : ¬ (j : Int) < (K : Int) := by omega
        obtain rfl : j = K := by omega
        have hm := may_anyR so j co qs wr ho.row
        cases hq : mayT (txt qs) with
        | true =>
          rw [hq] at hm
          have HQ : Hid (mayT (txt qs) = true) := hq
          clear hq
          go_wp2_with fail
          refine hm.mono ?_
          rintro e wr ⟨rfl, rfl⟩
          go_wp2_with fail
          go_ret3
          exact ⟨so, j, co, p, 0, rfl, hbel, .inl ⟨qs, p, rfl, rfl, by rw [HR.out]; exact HT.out, HQ.out, ho⟩⟩
        | false =>
          rw [hq] at hm
          have HQ : Hid (mayT (txt qs) = false) := hq
          clear hq
          go_wp2_with fail
          refine hm.mono ?_
          rintro e wr ⟨rfl, rfl⟩
          go_wp2_with fail
          go_ret3
          exact ⟨none, 0, 0, 0, 2, rfl, hbel, .inr (.inl ⟨rfl, rfl, rfl, rfl, rfl, _, p, by rw [HR.out]; exact HT.out, HQ.out⟩)⟩
end Go.Proofs.Ytkmpmljohjelhaa

namespace Go.Proofs.Ytkmpmljohjelhaa
open Go.RowKit
set_option maxRecDepth 100000
set_option linter.unusedVariables false

/-- Where letter j stands. -/
def atRg (ls : List (List Int)) (j : Nat) : Nat := 1 + (letsB (ls.take j)).length
theorem atRg_all (ls : List (List Int)) : atRg ls ls.length = (ringB ls).length := by
  unfold atRg; rw [List.take_of_length_le (Nat.le_refl _), ringB_len]
theorem atR_zero (ls : List (List Int)) : atRg ls 0 = 1 := by simp [atRg, letsB]
theorem atR_succ {ls : List (List Int)} {j : Nat} {l : List Int} (h : ls[j]? = some l) : atRg ls (j + 1) = atRg ls j + 2 + l.length := by
  unfold atRg
  rw [List.take_add_one, h]
  simp only [Option.toList_some]
  rw [letsB_snoc, List.length_append, letB_len]; omega
theorem letsB_split (ls : List (List Int)) (j : Nat) : letsB ls = letsB (ls.take j) ++ letsB (ls.drop j) := by
  unfold letsB; rw [← List.flatMap_append, List.take_append_drop]
theorem drop_letsB (ls : List (List Int)) (more : List Int) (j : Nat) : (ringB ls ++ more).drop (atRg ls j) = letsB (ls.drop j) ++ more := by
  have e : ringB ls ++ more = (putB ls.length 1 ++ letsB (ls.take j)) ++ (letsB (ls.drop j) ++ more) := by
    unfold ringB; rw [letsB_split ls j]; simp
  have hlen : (putB (ls.length : Int) 1 ++ letsB (ls.take j)).length = atRg ls j := by simp [putB_len, atRg]
  rw [e, ← hlen, List.drop_left]
theorem head_letsB {ls : List (List Int)} {j : Nat} {l : List Int} (h : ls[j]? = some l) : letsB (ls.drop j) = letB l ++ letsB (ls.drop (j + 1)) := by
  obtain ⟨hj, e⟩ := List.getElem?_eq_some_iff.1 h
  rw [List.drop_eq_getElem_cons hj, e]; simp [letsB]
theorem num2 (l : List Int) (h : l.length ≤ 16) : num (putB (l.length : Int) 2) = (l.length : Int) := by
  rw [num_putB]
  have : (256 : Int) ^ 2 = 65536 := by decide
  rw [this]; omega
/-- The head of a letter's bytes, cut behind c. -/
theorem cut_head (l rest : List Int) (c : Nat) (hc : 2 ≤ c) : ((letB l ++ rest).take c).take 2 = putB l.length 2 := by
  rw [List.take_take, Nat.min_eq_left hc]
  unfold letB
  rw [List.append_assoc, List.take_append_of_le_length (by simp [putB_len]), List.take_of_length_le (by simp [putB_len])]
theorem cut_ok (l rest : List Int) (c : Nat) (hl : l.length ≤ 16) (hc : 2 + l.length ≤ c) : okRg ((letB l ++ rest).take c) = true ∧ szL ((letB l ++ rest).take c) = l.length ∧ leL ((letB l ++ rest).take c) = l := by
  have h1 := cut_head l rest c (by omega)
  have h2 := num2 l hl
  have hs : szL ((letB l ++ rest).take c) = l.length := by unfold szL; rw [h1, h2]; omega
  refine ⟨?_, hs, ?_⟩
  · unfold okRg
    rw [h1, h2]
    apply decide_eq_true
    simp only [List.length_take, List.length_append, letB_len]
    omega
  · unfold leL
    rw [hs, List.drop_take, List.take_take, Nat.min_eq_left (by omega)]
    unfold letB
    rw [List.append_assoc, List.drop_append_of_le_length (by simp [putB_len]), List.drop_of_length_le (by simp [putB_len]), List.nil_append, List.take_left]
theorem cut_no (l rest : List Int) (c : Nat) (hl : l.length ≤ 16) (hc : c < 2 + l.length) : okRg ((letB l ++ rest).take c) = false := by
  unfold okRg
  apply decide_eq_false
  intro ⟨g1, g2⟩
  have hlen : ((letB l ++ rest).take c).length ≤ c := by simp; omega
  rw [cut_head l rest c (by omega), num2 l hl] at g2
  omega
section
variable {ls : List (List Int)} {more : List Int} {c : Nat}
theorem tkP_at (h16 : ∀ l ∈ ls, l.length ≤ 16) : ∀ (j : Nat), j ≤ ls.length → atRg ls j ≤ c → tkP ((ringB ls ++ more).take c) j = some (ls.take j, atRg ls j)
  | 0, _, _ => by simp [tkP, atR_zero]
  | j + 1, hj, hc => by
    obtain ⟨l, hl⟩ : ∃ l, ls[j]? = some l := ⟨_, List.getElem?_eq_getElem (by omega)⟩
    have hs := atR_succ hl
    have h0 := h16 l (List.mem_of_getElem? hl)
    obtain ⟨k1, k2, k3⟩ := cut_ok l (letsB (ls.drop (j + 1)) ++ more) (c - atRg ls j) h0 (by omega)
    have e : ((ringB ls ++ more).take c).drop (atRg ls j) = (letB l ++ (letsB (ls.drop (j + 1)) ++ more)).take (c - atRg ls j) := by
      rw [List.drop_take, drop_letsB, head_letsB hl, List.append_assoc]
    simp only [tkP]
    rw [tkP_at h16 j (by omega) (by omega)]
    simp only
    rw [e, k2, k3, if_pos k1, List.take_add_one, hl, hs]
    simp
theorem tkP_cut (h16 : ∀ l ∈ ls, l.length ≤ 16) : ∀ (j : Nat), j ≤ ls.length → 1 ≤ c → c < atRg ls j → tkP ((ringB ls ++ more).take c) j = none
  | 0, _, h1, hc => by rw [atR_zero] at hc; omega
  | j + 1, hj, h1, hc => by
    by_cases h : c < atRg ls j
    · simp only [tkP]; rw [tkP_cut h16 j (by omega) h1 h]
    · obtain ⟨l, hl⟩ : ∃ l, ls[j]? = some l := ⟨_, List.getElem?_eq_getElem (by omega)⟩
      have hs := atR_succ hl
      have h0 := h16 l (List.mem_of_getElem? hl)
      have k1 := cut_no l (letsB (ls.drop (j + 1)) ++ more) (c - atRg ls j) h0 (by omega)
      have e : ((ringB ls ++ more).take c).drop (atRg ls j) = (letB l ++ (letsB (ls.drop (j + 1)) ++ more)).take (c - atRg ls j) := by
        rw [List.drop_take, drop_letsB, head_letsB hl, List.append_assoc]
      simp only [tkP]
      rw [tkP_at h16 j (by omega) (by omega)]
      simp only
      rw [e, k1]
      simp
end
theorem count_cut (ls : List (List Int)) (more : List Int) (c : Nat) (h4 : ls.length ≤ 4) (hc : 1 ≤ c) : (num (((ringB ls ++ more).take c).take 1)).toNat = ls.length := by
  rw [List.take_take, Nat.min_eq_left hc]
  unfold ringB
  rw [List.append_assoc, List.take_append_of_le_length (by simp [putB_len]), List.take_of_length_le (by simp [putB_len]), num_putB]
  have : (256 : Int) ^ 1 = 256 := by decide
  rw [this]; omega
theorem tkR_put (ls : List (List Int)) (more : List Int) (h : mayT ls = true) : tkR (ringB ls ++ more) = some (ls, (ringB ls).length) := by
  obtain ⟨h4, h16⟩ := (mayT_iff _).1 h
  have hl := ringB_len ls
  have e : ringB ls ++ more = (ringB ls ++ more).take (ringB ls ++ more).length := (List.take_of_length_le (Nat.le_refl _)).symm
  unfold tkR
  rw [if_neg (fun h0 => by have := congrArg List.length h0; rw [List.length_append, hl, List.length_nil] at this; omega)]
  rw [e, count_cut ls more _ h4 (by rw [List.length_append, hl]; omega), tkP_at h16 ls.length (Nat.le_refl _) (by rw [atRg_all, List.length_append]; omega), atRg_all, List.take_of_length_le (Nat.le_refl _)]
theorem tkR_cut (ls : List (List Int)) (c : Nat) (h : mayT ls = true) (hc : c < (ringB ls).length) : tkR ((ringB ls).take c) = none := by
  obtain ⟨h4, h16⟩ := (mayT_iff _).1 h
  by_cases h0 : c = 0
  · subst h0; rfl
  · have e : ringB ls = ringB ls ++ [] := by simp
    have hl := ringB_len ls
    unfold tkR
    rw [if_neg (fun h1 => by have := congrArg List.length h1; rw [List.length_take, List.length_nil] at this; omega)]
    rw [e, count_cut ls [] _ h4 (by omega)]
    exact tkP_cut h16 ls.length (Nat.le_refl _) (by omega) (by rw [atRg_all]; exact hc)
end Go.Proofs.Ytkmpmljohjelhaa
