/- What obj1's functions that only ask answer: contracts, for every object. -/
import Derived.Test.YtldkelpngeopmaaOb
import Derived.Test.YtldkelpngeopmaaLcPut
import Derived.Test.YtldkelpngeopmaaJRing
import Derived.Test.YtldkelpngeopmaaJFind
namespace Go.Proofs.Ytldkelpngeopmaa
open Go.RowKit
set_option maxRecDepth 100000
set_option linter.unusedVariables false

theorem isKind_any (k : Int) (w : World) : Calls Try.prog 26 #[.int .i64 k] w fun e w' => e = .returned (.bool (isK k)) ∧ w' = w := by
  by_cases h1 : 1 ≤ k
  · by_cases h2 : k ≤ 4
    · rw [show isK k = true by simp [isK]; omega]
      go_enter Try.func26, Try.ntmps26
      go_wp2_with fail
      go_ret
      exact ⟨rfl, rfl⟩
    · rw [show isK k = false by simp [isK]; omega]
      go_enter Try.func26, Try.ntmps26
      go_wp2_with fail
      go_ret
      exact ⟨rfl, rfl⟩
  · rw [show isK k = false by simp [isK]; omega]
    go_enter Try.func26, Try.ntmps26
    go_wp2_with fail
    go_ret
    exact ⟨rfl, rfl⟩
theorem isStar_any (c l : Int) (w : World) : Calls Try.prog 52 #[.agg #[.int .u16 c, .int .u8 l]] w fun e w' => e = .returned (.bool (decide (l = 0))) ∧ Below w.heap.size w w' := by
  by_cases h : l = 0
  · subst h
    go_enter Try.func52, Try.ntmps52
    go_wp2_with fail
    go_ret
    exact ⟨rfl, below_alloc _ _⟩
  · rw [decide_eq_false h]
    have h' : (l == 0) = false := by simpa using h
    go_enter Try.func52, Try.ntmps52
    go_wp2_with fail
    go_ret
    exact ⟨rfl, below_alloc _ _⟩

set_option maxHeartbeats 1000000 in
theorem indexStar_any (a : Option Addr) (n c : Nat) (ps : List (Int × Int)) (w : World) (hr : RowG PE w a n c ps) (L : Bool) (hL : L = true ↔ ∀ p ∈ ps, p.2 ≠ 0) :
    Calls Try.prog 67 #[.slice a n c, .func (.func 52) #[] #[]] w fun e w' => ∃ k : Int, e = .returned (.int .i64 k) ∧ (if L = true then k = -1 else 0 ≤ k) ∧ Below w.heap.size w w' := by
  have hl : Hid (ps.length = n) := hr.len
  have hcap := hr.cap_le
  have HL : Hid (L = true ↔ ∀ p ∈ ps, p.2 ≠ 0) := hL
  clear hL
  go_enter Try.func67, Try.ntmps67
  go_wp2_with fail
  go_loopw [5, 8] (fun s5 i wr => ∃ j : Nat, j ≤ n ∧ (∃ z : Value, s5 = z) ∧ i = .int .i64 j ∧ (∀ t p, t < j → ps[t]? = some p → p.2 ≠ 0) ∧ Below w.heap.size w wr) (fun _ i _ => n - (intOf i).toNat)
  case atStart => exact ⟨0, by omega, ⟨_, rfl⟩, rfl, fun t p h => by omega, Below.refl _ _⟩
  case round =>
    obtain ⟨j, hj, ⟨z, rfl⟩, rfl, hlo, hb⟩ := hrel
    have HLO : Hid (∀ t p, t < j → ps[t]? = some p → p.2 ≠ 0) := hlo
    clear hlo
    by_cases h : j < n
    · have h1 : (j : Int) < (n : Int) := by omega
      obtain ⟨b, off, rfl, hr'⟩ := (hr.below hb).at (by omega)
      obtain ⟨p, hp⟩ := (hr.below hb).get j h
      have cc := hr' j p hp
      have c0 : wr.cell? ⟨b, off + j * 2, none⟩ = some (.int .u16 p.1) := cc 0 _ rfl
      have c1 : wr.cell? ⟨b, off + j * 2 + 1, none⟩ = some (.int .u8 p.2) := cc 1 _ rfl
      have HP : Hid (ps[j]? = some p) := hp
      clear hp hr' cc
      go_wp2_with fail
      refine (isStar_any p.1 p.2 _).mono ?_
      rintro e w1 ⟨rfl, b1⟩
      replace b1 := ext_trans hb b1
      by_cases hp16 : p.2 = 0
      · rw [decide_eq_true hp16]
        have hLf : L = false := by
          cases hc : L with
          | false => rfl
          | true => exact absurd hp16 (HL.out.1 hc p (List.mem_of_getElem? HP.out))
        subst hLf
        go_wp2_with fail
        go_ret
        exact ⟨_, rfl, by simp, b1⟩
      · rw [decide_eq_false hp16]
        go_wp2
        go_roundw
        case rel =>
          refine ⟨j + 1, by omega, ⟨_, rfl⟩, by go_num, fun t q ht hq => ?_, b1⟩
          by_cases htj : t < j
          · exact HLO.out t q htj hq
          · obtain rfl : t = j := by omega
            have := HP.out; rw [hq] at this; simp at this; subst this; exact hp16
        case measure => simp [intOf]; omega
    · have h1 : ¬ (j : Int) < (n : Int) := by omega
      have hLt : L = true := HL.out.2 fun p hp => by
        obtain ⟨t, ht, e⟩ := List.mem_iff_getElem.1 hp
        exact HLO.out t p (by have := hl.out; omega) (by rw [List.getElem?_eq_getElem ht, e])
      subst hLt
      go_wp2_with fail
      go_ret
      exact ⟨_, rfl, by simp, hb⟩
theorem containsStar_any (a : Option Addr) (n c : Nat) (ps : List (Int × Int)) (w : World) (hr : RowG PE w a n c ps) :
    Calls Try.prog 51 #[.slice a n c, .func (.func 52) #[] #[]] w fun e w' => e = .returned (.bool (!noStar ps)) ∧ Below w.heap.size w w' := by
  have hq := indexStar_any a n c ps w hr (noStar ps) (by simp [noStar])
  generalize noStar ps = L at *
  go_enter Try.func51, Try.ntmps51
  go_wp2_with fail
  refine hq.mono ?_
  rintro e w1 ⟨k, rfl, hk, b⟩
  cases L with
  | true =>
    simp only [if_true] at hk
    subst hk
    go_wp2_with fail
    go_ret
    exact ⟨rfl, b⟩
  | false =>
    simp only [Bool.false_eq_true, if_false] at hk
    have h1 : decide (k ≥ 0) = true := by simpa using hk
    go_wp2_with fail
    go_ret
    exact ⟨rfl, b⟩

theorem cloneBX_nil (w : World) : Calls Try.prog 34 #[.slice none 0 0] w fun e w' => e = .returned (.slice none 0 0) ∧ w' = w := by
  have hq := fun W => Lib.run_eql_slice_nil (P := Try.prog) W 29 5 none 0 0 0 0 Try.underlying29
  go_enter Try.func34, Try.ntmps34
  go_wp2_with fail
  go_ret
  exact ⟨rfl, rfl⟩
/-- What lcode.Put answers of a label that may not be. -/
theorem lput_no (d : Int) (hd : 0 ≤ d) (b : Option Addr) (n c : Nat) (xs : List (Int × Int)) (w : World) (hs : RowG PE w b n c xs) (hm : mayB d xs = false) :
    Calls Try.prog 17 #[.slice none 0 0, .agg #[.int .u8 d, .slice b n c]] w fun e w' => e = .returned (.slice none 0 0) ∧ Below w.heap.size w w' := by
  have hmay := mayL_any d hd b n c xs (w.alloc (.cells #[.int .u8 d, .slice b n c] 25)) (hs.below (below_alloc _ _))
  rw [hm] at hmay
  go_enter Try.func17, Try.ntmps17
  go_wp2_with fail
  refine hmay.mono ?_
  rintro e w1 ⟨rfl, b1⟩
  replace b1 := ext_trans (below_alloc _ _) b1
  go_wp2_with fail
  refine (cloneBX_nil _).mono ?_
  rintro e w2 ⟨rfl, rfl⟩
  go_wp2_with fail
  go_ret
  exact ⟨rfl, b1⟩
end Go.Proofs.Ytldkelpngeopmaa
