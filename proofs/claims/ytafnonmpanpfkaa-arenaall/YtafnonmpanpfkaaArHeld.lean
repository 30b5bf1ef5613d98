/- Where an arena's id stands, and where its record is: contracts. -/
import Derived.Test.YtafnonmpanpfkaaArOps
namespace Go.Proofs.Ytafnonmpanpfkaa
open Go.RowKit
set_option maxRecDepth 100000
set_option linter.unusedVariables false

section
variable {x : Am} {w : World} {S : Nat → Prop} {p : Nat}
theorem seek_any (h : x.In w S p) (hs : x.rf.Pairwise (fun r r' => r.id < r'.id)) (hbd : x.rn ≤ 70368744177664) (c : Int) :
    Calls Try.prog 38 #[.pointer (some ⟨p, 0, none⟩), .int .u64 c] w fun e w' => ∃ (k : Nat) (q : Bool), e = .returned (.tuple #[.int .i64 k, .bool q]) ∧ k ≤ x.rn ∧ (∀ t r, x.rf[t]? = some r → t < k → r.id < c) ∧ (∀ t r, x.rf[t]? = some r → k ≤ t → c ≤ r.id) ∧ (q = true ↔ ∃ r, x.rf[k]? = some r ∧ r.id = c) ∧ Below w.heap.size w w' := by
  have b0 := h.c3
  have hr := h.rfs.row
  go_enter Try.func38, Try.ntmps38
  go_wp2_with fail
  refine (searchU_any x.ra x.rn x.rc x.rf c _ hr hs hbd).mono ?_
  rintro e w1 ⟨k, q, rfl, h1, h2, h3, h4, h5⟩
  go_wp2_with fail
  go_ret2
  exact ⟨k, q, rfl, h1, h2, h3, h4, h5⟩

set_option maxHeartbeats 1000000 in
/-- An id that has a record: its ref. -/
theorem held_yes (h : x.In w S p) {v : Int} {T : Tx} {N : Nat} (hi : Inv v (32 * x.sn) x.fr x.rf x.Sl T N) (hN : N ≤ 1099511627776) {r : Rf} (hr : r ∈ x.rf) (hl : r.g = (x.Sl r.pl).g) :
    Calls Try.prog 21 #[.pointer (some ⟨p, 0, none⟩), .int .u64 r.id] w fun e w' => e = .returned (.tuple #[.int .i64 r.pl, .bool true]) ∧ Below w.heap.size w w' := by
  have hrn : x.rf.length = x.rn := h.rfs.1
  have hsn : x.sn ≤ 1099511627776 := by have := hi.bnd.2.1; omega
  have hb1 : x.rn ≤ 70368744177664 := by have := hi.bnd.1; omega
  have b0 := h.c3
  go_enter Try.func21, Try.ntmps21
  go_wp2_with fail
  refine (seek_any h hi.up hb1 r.id).mono ?_
  rintro e w1 ⟨k, q, rfl, hk, hlo, hhi, hq, b1⟩
  obtain ⟨j, hj, rfl⟩ := List.getElem_of_mem hr
  have hjk : k = j := by
    have h1 := hlo j _ (List.getElem?_eq_getElem hj)
    have h2 := hhi j _ (List.getElem?_eq_getElem hj)
    by_cases c : j < k
    · exact absurd (h1 c) (by omega)
    · by_cases c2 : k < j
      · have := up_lt hi.up c2 (List.getElem?_eq_getElem (by omega)) (List.getElem?_eq_getElem hj)
        have := hhi k _ (List.getElem?_eq_getElem (by omega)) (Nat.le_refl _)
        omega
      · omega
  subst hjk
  obtain ⟨R, hR⟩ : ∃ R, R = x.rf[k] := ⟨_, rfl⟩
  rw [← hR] at hl hr hq ⊢
  have hg : x.rf[k]? = some R := by rw [hR]; exact List.getElem?_eq_getElem hj
  obtain rfl : q = true := hq.2 ⟨R, hg, rfl⟩
  have HR : Hid (R = x.rf[k]) := hR
  clear hR hq hlo hhi
  have h1 := h.below b1
  have hkn : (k : Int) < (x.rn : Int) := by omega
  have hcap := h1.rfs.row.cap_le
  rcases h1.rfs.cases with ⟨_, h0, _⟩ | ⟨b, cur, hb, _⟩
  · omega
  have hro := h1.rfs.row
  have b3 := h1.c3
  rw [hb] at hro b3
  obtain ⟨d0, d1, d2⟩ := hro.ref hg
  simp only [Nat.zero_add] at d0 d1 d2
  have hlv : live x.Sl R = true := (live_iff _ _).2 hl
  have HL : Hid (R.g = (x.Sl R.pl).g) := hl
  have HN : Hid (x.rf.length = x.rn) := hrn
  clear hl hrn
  go_wp2_with fail
  refine (isStale_any h1 hsn (hi.pl R hr).1).mono ?_
  rintro e w2 ⟨rfl, b2⟩
  rw [hlv]
  have b4 := h1.below b2
  have b5 := b4.c3
  rw [hb] at b5
  obtain ⟨f0, f1, f2⟩ := (hro.below b2).ref hg
  simp only [Nat.zero_add] at f0 f1 f2
  go_wp2_with fail
  go_ret2
  refine ⟨?_, ext_trans b1 b2⟩
  rw [← HR.out]
  rfl

set_option maxHeartbeats 1000000 in
/-- An id that has none. -/
theorem held_no (h : x.In w S p) {v : Int} {T : Tx} {N : Nat} (hi : Inv v (32 * x.sn) x.fr x.rf x.Sl T N) (hN : N ≤ 1099511627776) {c : Int} (hT : T c = none) :
    Calls Try.prog 21 #[.pointer (some ⟨p, 0, none⟩), .int .u64 c] w fun e w' => e = .returned (.tuple #[.int .i64 0, .bool false]) ∧ Below w.heap.size w w' := by
  have hrn : x.rf.length = x.rn := h.rfs.1
  have hsn : x.sn ≤ 1099511627776 := by have := hi.bnd.2.1; omega
  have hb1 : x.rn ≤ 70368744177664 := by have := hi.bnd.1; omega
  have b0 := h.c3
  go_enter Try.func21, Try.ntmps21
  go_wp2_with fail
  refine (seek_any h hi.up hb1 c).mono ?_
  rintro e w1 ⟨k, q, rfl, hk, hlo, hhi, hq, b1⟩
  cases q with
  | false =>
    go_wp2_with fail
    go_ret2
    exact ⟨rfl, b1⟩
  | true =>
    obtain ⟨R, hg, hc⟩ := hq.1 rfl
    have hr : R ∈ x.rf := List.mem_of_getElem? hg
    subst hc
    have hlv : live x.Sl R = false := by
      cases hL : live x.Sl R with
      | false => rfl
      | true => rw [hi.has hr ((live_iff _ _).1 hL)] at hT; cases hT
    clear hq hlo hhi
    have h1 := h.below b1
    have hkl : k < x.rf.length := (List.getElem?_eq_some_iff.1 hg).1
    have hkn : (k : Int) < (x.rn : Int) := by omega
    have hcap := h1.rfs.row.cap_le
    rcases h1.rfs.cases with ⟨_, h0, _⟩ | ⟨b, cur, hb, _⟩
    · omega
    have hro := h1.rfs.row
    have b3 := h1.c3
    rw [hb] at hro b3
    obtain ⟨d0, d1, d2⟩ := hro.ref hg
    simp only [Nat.zero_add] at d0 d1 d2
    have HN : Hid (x.rf.length = x.rn) := hrn
    clear hrn hT
    go_wp2_with fail
    refine (isStale_any h1 hsn (hi.pl R hr).1).mono ?_
    rintro e w2 ⟨rfl, b2⟩
    rw [hlv]
    go_wp2_with fail
    go_ret2
    exact ⟨rfl, ext_trans b1 b2⟩
end
end Go.Proofs.Ytafnonmpanpfkaa
