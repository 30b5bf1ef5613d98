/- What the functions that only read lists of letters answer: contracts. -/
import Derived.Test.YtldkelpngeopmaaRings
import Derived.Test.YtldkelpngeopmaaNumBytes
import Derived.Test.YtldkelpngeopmaaRegion
import Derived.BigQuiet
namespace Go.Proofs.Ytldkelpngeopmaa
open Go.RowKit
set_option maxRecDepth 100000
set_option linter.unusedVariables false

/-- What 'string(b)' of bytes is. -/
theorem strR : Hid (∀ (W : World) (ao : Option Addr) (n c : Nat) (zs : List Int), Row W ao n c zs → (convert 29 9 (.slice ao n c)).run Try.prog W = .ok (.string (strOfNums zs)) W) := fun W ao n c zs hrow => run_str (P := Try.prog) W 29 9 5 Try.underlying29 Try.underlying5 Try.underlying9 ao n c zs hrow
theorem bytesOfR_inj : ∀ {xs ys : List Int}, Byt xs → Byt ys → Lib.bytesOf xs = Lib.bytesOf ys → xs = ys
  | [], [], _, _, _ => rfl
  | [], _ :: _, _, _, h => by simp [Lib.bytesOf] at h
  | _ :: _, [], _, _, h => by simp [Lib.bytesOf] at h
  | x :: xs, y :: ys, hx, hy, h => by
    simp only [Lib.bytesOf, List.map_cons, List.cons.injEq] at h
    have h1 := hx x (by simp)
    have h2 := hy y (by simp)
    have h3 := congrArg UInt8.toNat h.1
    rw [UInt8.toNat_ofNat', UInt8.toNat_ofNat'] at h3
    have h4 : x = y := by omega
    rw [h4, bytesOfR_inj (fun z hz => hx z (by simp [hz])) (fun z hz => hy z (by simp [hz])) h.2]
theorem strR_inj {xs ys : List Int} (hx : Byt xs) (hy : Byt ys) (h : (strOfNums xs).toList = (strOfNums ys).toList) : xs = ys := by
  rw [Lib.strOfNums_toList, Lib.strOfNums_toList] at h
  exact bytesOfR_inj hx hy h

/-- Are these not too many letters, none too long? -/
def mayT (ls : List (List Int)) : Bool := decide (ls.length ≤ 4) && ls.all fun l => decide (l.length ≤ 16)
theorem mayT_iff (ls : List (List Int)) : mayT ls = true ↔ ls.length ≤ 4 ∧ ∀ l ∈ ls, l.length ≤ 16 := by simp [mayT]
theorem RowR.le16 {w : World} {a : Option Addr} {n cap : Nat} {ps : List Le} (h : RowR w a n cap ps) : (∀ l ∈ txt ps, l.length ≤ 16) ↔ ∀ p ∈ ps, p.n ≤ 16 := by
  constructor
  · intro g p hp
    have := g p.xs (List.mem_map.2 ⟨p, hp, rfl⟩)
    rw [(h.2 p hp).len] at this; exact this
  · intro g l hl
    obtain ⟨p, hp, rfl⟩ := List.mem_map.1 hl
    rw [(h.2 p hp).len]; exact g p hp

theorem isLong_any (a : Option Addr) (n c : Nat) (w : World) : Calls Try.prog 70 #[.slice a n c] w fun e w' => e = .returned (.bool (decide (16 < n))) ∧ w' = w := by
  by_cases h : 16 < n
  · have h' : (16 : Int) < (n : Int) := by omega
    rw [decide_eq_true h]
    go_enter Try.func70, Try.ntmps70
    go_wp2_with fail
    go_ret
    exact ⟨rfl, rfl⟩
  · have h' : ¬ (16 : Int) < (n : Int) := by omega
    rw [decide_eq_false h]
    go_enter Try.func70, Try.ntmps70
    go_wp2_with fail
    go_ret
    exact ⟨rfl, rfl⟩

set_option maxHeartbeats 1000000 in
theorem indexLong_any (a : Option Addr) (n c : Nat) (ps : List Le) (w : World) (hr : RowR w a n c ps) (L : Bool) (hL : L = true ↔ ∀ p ∈ ps, p.n ≤ 16) :
    Calls Try.prog 74 #[.slice a n c, .func (.func 70) #[] #[]] w fun e w' => ∃ k : Int, e = .returned (.int .i64 k) ∧ (if L = true then k = -1 else 0 ≤ k) ∧ w' = w := by
  have hl : Hid (ps.length = n) := hr.len
  have hcap := hr.cap_le
  have HL : Hid (L = true ↔ ∀ p ∈ ps, p.n ≤ 16) := hL
  clear hL
  go_enter Try.func74, Try.ntmps74
  go_wp2_with fail
  go_loopw [5, 8] (fun s5 i wr => ∃ j : Nat, j ≤ n ∧ (∃ z : Value, s5 = z) ∧ i = .int .i64 j ∧ (∀ t p, t < j → ps[t]? = some p → p.n ≤ 16) ∧ wr = w) (fun _ i _ => n - (intOf i).toNat)
  case atStart => exact ⟨0, by omega, ⟨_, rfl⟩, rfl, fun t p h => by omega, rfl⟩
  case round =>
    obtain ⟨j, hj, ⟨z, rfl⟩, rfl, hlo, rfl⟩ := hrel
    have HLO : Hid (∀ t p, t < j → ps[t]? = some p → p.n ≤ 16) := hlo
    clear hlo
    by_cases h : j < n
    · have h1 : (j : Int) < (n : Int) := by omega
      obtain ⟨b, off, rfl, hr'⟩ := hr.at (by omega)
      obtain ⟨p, hp⟩ := hr.get j h
      obtain ⟨c1, _⟩ := hr'.cell hp
      have HP : Hid (ps[j]? = some p) := hp
      clear hp hr'
      go_wp2_with fail
      refine (isLong_any p.a p.n p.c _).mono ?_
      rintro e w1 ⟨rfl, rfl⟩
      by_cases hp16 : 16 < p.n
      · rw [decide_eq_true hp16]
        have hLf : L = false := by
          cases hc : L with
          | false => rfl
          | true => have := HL.out.1 hc p (List.mem_of_getElem? HP.out); omega
        subst hLf
        go_wp2_with fail
        go_ret
        exact ⟨_, rfl, by simp, rfl⟩
      · rw [decide_eq_false hp16]
        go_wp2
        go_roundw
        case rel =>
          refine ⟨j + 1, by omega, ⟨_, rfl⟩, by go_num, fun t q ht hq => ?_, by first | rfl | trivial⟩
          by_cases htj : t < j
          · exact HLO.out t q htj hq
          · obtain rfl : t = j := by omega
            have := HP.out; rw [hq] at this; simp at this; subst this; omega
        case measure => simp [intOf]; omega
    · have h1 : ¬ (j : Int) < (n : Int) := by omega
      have hLt : L = true := HL.out.2 fun p hp => by
        obtain ⟨t, ht, e⟩ := List.mem_iff_getElem.1 hp
        exact HLO.out t p (by have := hl.out; omega) (by rw [List.getElem?_eq_getElem ht, e])
      subst hLt
      go_wp2_with fail
      go_ret
      exact ⟨_, rfl, by simp, rfl⟩
theorem containsLong_any (a : Option Addr) (n c : Nat) (ps : List Le) (w : World) (hr : RowR w a n c ps) (L : Bool) (hL : L = true ↔ ∀ p ∈ ps, p.n ≤ 16) :
    Calls Try.prog 69 #[.slice a n c, .func (.func 70) #[] #[]] w fun e w' => e = .returned (.bool (!L)) ∧ w' = w := by
  have hq := indexLong_any a n c ps w hr L hL
  clear hL
  go_enter Try.func69, Try.ntmps69
  go_wp2_with fail
  refine hq.mono ?_
  rintro e w1 ⟨k, rfl, hk, rfl⟩
  cases L with
  | true =>
    simp only [if_true] at hk
    subst hk
    go_wp2_with fail
    go_ret
    exact ⟨rfl, rfl⟩
  | false =>
    simp only [Bool.false_eq_true, if_false] at hk
    have h1 : decide (k ≥ 0) = true := by simpa using hk
    go_wp2_with fail
    go_ret
    exact ⟨rfl, rfl⟩
theorem may_anyR (a : Option Addr) (n c : Nat) (ps : List Le) (w : World) (hr : RowR w a n c ps) : Calls Try.prog 55 #[.slice a n c] w fun e w' => e = .returned (.bool (mayT (txt ps))) ∧ w' = w := by
  have hlen := hr.len
  obtain ⟨L, hL⟩ : ∃ L : Bool, L = true ↔ ∀ p ∈ ps, p.n ≤ 16 := ⟨decide (∀ p ∈ ps, p.n ≤ 16), by simp⟩
  have hq := containsLong_any a n c ps w hr L hL
  have h16 := hr.le16
  by_cases h : n ≤ 4
  · have h1 : (n : Int) ≤ 4 := by omega
    have he : mayT (txt ps) = L := by
      rw [Bool.eq_iff_iff, mayT_iff, hL, h16, txt_len, hlen]; simp [h]
    rw [he]
    clear h16 he hL
    go_enter Try.func55, Try.ntmps55
    go_wp2_with fail
    refine hq.mono ?_
    rintro e w1 ⟨rfl, rfl⟩
    cases L
    · go_wp2_with fail
      go_ret
      exact ⟨rfl, rfl⟩
    · go_wp2_with fail
      go_ret
      exact ⟨rfl, rfl⟩
  · have h1 : ¬ (n : Int) ≤ 4 := by omega
    have he : mayT (txt ps) = false := by
      cases hc : mayT (txt ps) with
      | false => rfl
      | true => have := (mayT_iff _).1 hc; rw [txt_len] at this; omega
    rw [he]
    clear h16 he hL hq
    go_enter Try.func55, Try.ntmps55
    go_wp2_with fail
    go_ret
    exact ⟨rfl, rfl⟩

set_option maxHeartbeats 1000000 in
theorem mayRing_any (a : Option Addr) (n c : Nat) (ps : List Le) (w : World) (hr : RowR w a n c ps) : Calls Try.prog 42 #[.slice a n c] w fun e w' => e = .returned (.bool (mayT (txt ps))) ∧ w' = w := by
  have hl : Hid (ps.length = n) := hr.len
  have hcap := hr.cap_le
  obtain ⟨M, hM⟩ : ∃ M, M = mayT (txt ps) := ⟨_, rfl⟩
  rw [← hM]
  have HM0 : M = true ↔ n ≤ 4 ∧ ∀ p ∈ ps, p.n ≤ 16 := by rw [hM, mayT_iff, hr.le16, txt_len, hr.len]
  have HM : Hid (M = true ↔ n ≤ 4 ∧ ∀ p ∈ ps, p.n ≤ 16) := HM0
  clear HM0
  clear hM
  go_enter Try.func42, Try.ntmps42
  go_wp2_with fail
  go_loopw [3] (fun i wr => ∃ j : Nat, j ≤ n ∧ i = .int .i64 j ∧ (∀ t p, t < j → ps[t]? = some p → p.n ≤ 16) ∧ wr = w) (fun i _ => n - (intOf i).toNat)
  case atStart => exact ⟨0, by omega, rfl, fun t p h => by omega, rfl⟩
  case round =>
    obtain ⟨j, hj, rfl, hlo, rfl⟩ := hrel
    have HLO : Hid (∀ t p, t < j → ps[t]? = some p → p.n ≤ 16) := hlo
    clear hlo
    by_cases h : j < n
    · have h1 : (j : Int) < (n : Int) := by omega
      obtain ⟨b, off, rfl, hr'⟩ := hr.at (by omega)
      obtain ⟨p, hp⟩ := hr.get j h
      obtain ⟨c1, _⟩ := hr'.cell hp
      have HP : Hid (ps[j]? = some p) := hp
      clear hp hr'
      by_cases hp16 : 16 < p.n
      · have h2 : (16 : Int) < (p.n : Int) := by omega
        have hLf : M = false := by
          cases hc : M with
          | false => rfl
          | true => have := (HM.out.1 hc).2 p (List.mem_of_getElem? HP.out); omega
        subst hLf
        go_wp2_with fail
        go_ret
        exact ⟨rfl, rfl⟩
      · have h2 : ¬ (16 : Int) < (p.n : Int) := by omega
        go_wp2
        go_roundw
        case rel =>
          refine ⟨j + 1, by omega, by go_num, fun t q ht hq => ?_, by first | rfl | trivial⟩
          by_cases htj : t < j
          · exact HLO.out t q htj hq
          · obtain rfl : t = j := by omega
            have := HP.out; rw [hq] at this; simp at this; subst this; omega
        case measure => simp [intOf]; omega
    · have h1 : ¬ (j : Int) < (n : Int) := by omega
      have hLt : M = decide (n ≤ 4) := by
        rw [Bool.eq_iff_iff, HM.out]
        simp
        intro _ p hp
        obtain ⟨t, ht, e⟩ := List.mem_iff_getElem.1 hp
        exact HLO.out t p (by have := hl.out; omega) (by rw [List.getElem?_eq_getElem ht, e])
      subst hLt
      by_cases h4 : n ≤ 4
      · have h4' : (n : Int) ≤ 4 := by omega
        go_wp2_with fail
        go_ret
        exact ⟨by simp, rfl⟩
      · have h4' : ¬ (n : Int) ≤ 4 := by omega
        go_wp2_with fail
        go_ret
        exact ⟨by simp, rfl⟩
end Go.Proofs.Ytldkelpngeopmaa
