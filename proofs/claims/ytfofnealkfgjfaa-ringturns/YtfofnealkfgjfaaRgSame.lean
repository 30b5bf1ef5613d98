/- Whether two lists of letters say the same: a contract, for all lists. -/
import Derived.Test.YtfofnealkfgjfaaRgRead
namespace Go.Proofs.Ytfofnealkfgjfaa
open Go.RowKit
set_option maxRecDepth 100000
set_option linter.unusedVariables false

/-- What two texts of bytes compare as. -/
theorem strR_beq {xs ys : List Int} (hx : Byt xs) (hy : Byt ys) : ((strOfNums xs).toList == (strOfNums ys).toList) = decide (xs = ys) := by
  by_cases h : xs = ys
  · subst h; simp
  · rw [decide_eq_false h]; exact beq_eq_false_iff_ne.2 fun e => h (strR_inj hx hy e)
theorem txt_get {ps : List Le} {i : Nat} {p : Le} (h : ps[i]? = some p) : (txt ps)[i]? = some p.xs := by simp [txt, h]

set_option maxHeartbeats 2000000 in
theorem sameRing_any (a b : Option Addr) (n m c d : Nat) (ps qs : List Le) (w : World) (hr : RowR w a n c ps) (hs : RowR w b m d qs) (q : Bool) (hq : q = true ↔ txt ps = txt qs) :
    Calls Try.prog 10 #[.slice a n c, .slice b m d] w fun e w' => e = .returned (.bool q) ∧ Below w.heap.size w w' := by
  have HQ : Hid (q = true ↔ txt ps = txt qs) := hq
  clear hq
  have hl := hr.len
  have hm := hs.len
  have hcap := hr.cap_le
  have hcap2 := hs.cap_le
  by_cases hnm : n = m
  · subst hnm
    go_enter Try.func10, Try.ntmps10
    go_wp2_with fail
    go_loopw [5] (fun i wr => ∃ j : Nat, j ≤ n ∧ i = .int .i64 j ∧ Hid (∀ t, t < j → (txt ps)[t]? = (txt qs)[t]?) ∧ Below w.heap.size w wr) (fun i _ => n - (intOf i).toNat)
    case atStart => exact ⟨0, by omega, rfl, fun t h => by omega, Below.refl _ _⟩
    case round =>
      obtain ⟨j, hj, rfl, HLO, hbel⟩ := hrel
      by_cases h : j < n
      · have h1 : (j : Int) < (n : Int) := by omega
        obtain ⟨g, off, rfl, hr'⟩ := (hr.below hbel).at (by omega)
        obtain ⟨g2, off2, rfl, hs'⟩ := (hs.below hbel).at (by omega)
        obtain ⟨p, hp⟩ := hr.get j h
        obtain ⟨p2, hp2⟩ := hs.get j h
        obtain ⟨c1, r1⟩ := hr'.cell hp
        obtain ⟨c2, r2⟩ := hs'.cell hp2
        have HP : Hid (ps[j]? = some p) := hp
        have HP2 : Hid (qs[j]? = some p2) := hp2
        have s1 := fun N => strR.out (wr.drewN N) _ _ _ _ (r1.below (below_drewN (Below.refl _ wr) N))
        have s2 := fun N => strR.out (wr.drewN N) _ _ _ _ (r2.below (below_drewN (Below.refl _ wr) N))
        have e12 := strR_beq r1.byt r2.byt
        clear hp hp2 hr' hs' r1 r2
        by_cases hx : p.xs = p2.xs
        · rw [decide_eq_true hx] at e12
          go_wp2_with fail
          go_quiet (fail)
          go_wp2_with fail
          go_roundw
          case rel =>
            refine ⟨j + 1, by omega, by go_num, fun t ht => ?_, below_drewN hbel _⟩
            by_cases htj : t < j
            · exact HLO.out t htj
            · obtain rfl : t = j := by omega
              rw [txt_get HP.out, txt_get HP2.out, hx]
          case measure => simp [intOf]; omega
        · rw [decide_eq_false hx] at e12
          have hqf : q = false := by
            cases hc : q with
            | false => rfl
            | true =>
              have e := HQ.out.1 hc
              have h3 := txt_get HP.out
              rw [e, txt_get HP2.out] at h3
              exact absurd (Option.some.inj h3).symm hx
          subst hqf
          go_wp2_with fail
          go_quiet (fail)
          go_wp2_with fail
          go_ret
          exact ⟨rfl, below_drewN hbel _⟩
      · have h1 : ¬ (j : Int) < (n : Int) := by omega
        have hqt : q = true := HQ.out.2 (List.ext_getElem? fun t => by
          by_cases ht : t < j
          · exact HLO.out t ht
          · rw [List.getElem?_eq_none (by rw [txt_len]; omega), List.getElem?_eq_none (by rw [txt_len]; omega)])
        subst hqt
        go_wp2_with fail
        go_ret
        exact ⟨rfl, hbel⟩
  · have hqf : q = false := by
      cases hc : q with
      | false => rfl
      | true =>
        have e := congrArg List.length (HQ.out.1 hc)
        rw [txt_len, txt_len] at e; omega
    subst hqf
    have h1 : ((n : Int) != (m : Int)) = true := by simp; omega
    go_enter Try.func10, Try.ntmps10
    go_wp2_with fail
    go_ret
    exact ⟨rfl, Below.refl _ _⟩
end Go.Proofs.Ytfofnealkfgjfaa
