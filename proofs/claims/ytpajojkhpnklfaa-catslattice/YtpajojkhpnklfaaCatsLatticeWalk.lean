/- CatsLattice walked: it answers true, and turns nothing that was there. -/
import Derived.Test.YtpajojkhpnklfaaCatsMakeWalk
namespace Go.Proofs.Ytpajojkhpnklfaa
open Go.RowKit

theorem or_mem {A B : List Int} (hA : Srt A) (hB : Srt B) (z : Int) : z ∈ mrg true true true A B ↔ z ∈ A ∨ z ∈ B := by
  rw [mrg_mem _ _ _ _ _ hA hB]
  by_cases h1 : z ∈ A <;> by_cases h2 : z ∈ B <;> simp [h1, h2]
theorem and_mem {A B : List Int} (hA : Srt A) (hB : Srt B) (z : Int) : z ∈ mrg false true false A B ↔ z ∈ A ∧ z ∈ B := by
  rw [mrg_mem _ _ _ _ _ hA hB]
  by_cases h1 : z ∈ A <;> by_cases h2 : z ∈ B <;> simp [h1, h2]
theorem less_mem {A B : List Int} (hA : Srt A) (hB : Srt B) (z : Int) : z ∈ mrg true false false A B ↔ z ∈ A ∧ z ∉ B := by
  rw [mrg_mem _ _ _ _ _ hA hB]
  by_cases h1 : z ∈ A <;> by_cases h2 : z ∈ B <;> simp [h1, h2]
theorem lat1 {A B : List Int} (hA : Srt A) (hB : Srt B) : mrg true true true (mrg true false false A B) (mrg false true false A B) = A :=
  srt_unique (mrg_srt _ _ _ _ _ (mrg_srt _ _ _ _ _ hA hB) (mrg_srt _ _ _ _ _ hA hB)) hA fun z => by
    rw [or_mem (mrg_srt _ _ _ _ _ hA hB) (mrg_srt _ _ _ _ _ hA hB), less_mem hA hB, and_mem hA hB]
    by_cases h2 : z ∈ B <;> simp [h2]
theorem lat2 {A B : List Int} (hA : Srt A) (hB : Srt B) : mrg false true false (mrg true false false A B) B = [] :=
  srt_unique (mrg_srt _ _ _ _ _ (mrg_srt _ _ _ _ _ hA hB) hB) Srt.nil fun z => by
    rw [and_mem (mrg_srt _ _ _ _ _ hA hB) hB, less_mem hA hB]
    by_cases h2 : z ∈ B <;> simp [h2]
theorem lat3 {A B C : List Int} (hA : Srt A) (hB : Srt B) (hC : Srt C) : mrg false true false A (mrg true true true B C) = mrg true true true (mrg false true false A B) (mrg false true false A C) :=
  srt_unique (mrg_srt _ _ _ _ _ hA (mrg_srt _ _ _ _ _ hB hC)) (mrg_srt _ _ _ _ _ (mrg_srt _ _ _ _ _ hA hB) (mrg_srt _ _ _ _ _ hA hC)) fun z => by
    rw [and_mem hA (mrg_srt _ _ _ _ _ hB hC), or_mem hB hC, or_mem (mrg_srt _ _ _ _ _ hA hB) (mrg_srt _ _ _ _ _ hA hC), and_mem hA hB, and_mem hA hC]
    by_cases h1 : z ∈ A <;> simp [h1]
theorem lat4 {A B C : List Int} (hA : Srt A) (hB : Srt B) (hC : Srt C) : mrg true false false A (mrg true true true B C) = mrg true false false (mrg true false false A B) C :=
  srt_unique (mrg_srt _ _ _ _ _ hA (mrg_srt _ _ _ _ _ hB hC)) (mrg_srt _ _ _ _ _ (mrg_srt _ _ _ _ _ hA hB) hC) fun z => by
    rw [less_mem hA (mrg_srt _ _ _ _ _ hB hC), or_mem hB hC, less_mem (mrg_srt _ _ _ _ _ hA hB) hC, less_mem hA hB]
    by_cases h1 : z ∈ A <;> simp [h1]
theorem lat5 {A B : List Int} (hA : Srt A) (hB : Srt B) : decide (mrg true false false A B = []) = decide (mrg true true true A B = B) := by
  rw [decide_eq_decide]
  constructor
  · intro h
    refine srt_unique (mrg_srt _ _ _ _ _ hA hB) hB fun z => ?_
    rw [or_mem hA hB]
    constructor
    · rintro (h1 | h1)
      · by_cases h2 : z ∈ B
        · exact h2
        · have : z ∈ mrg true false false A B := (less_mem hA hB z).2 ⟨h1, h2⟩
          rw [h] at this
          simp at this
      · exact h1
    · exact .inr
  · intro h
    refine List.eq_nil_iff_forall_not_mem.2 fun z hz => ?_
    obtain ⟨h1, h2⟩ := (less_mem hA hB z).1 hz
    exact h2 (h ▸ (or_mem hA hB z).2 (.inl h1))
theorem lat7 {A B : List Int} (hA : Srt A) (hB : Srt B) : mrg true true true A B = mrg true true true B A :=
  srt_unique (mrg_srt _ _ _ _ _ hA hB) (mrg_srt _ _ _ _ _ hB hA) fun z => by rw [or_mem hA hB, or_mem hB hA, Or.comm]

theorem or_k (a b : Option Addr) (n cap m cap2 : Nat) (xs ys : List Int) (w : World) (hr : RowW w a n cap xs) (hs : RowW w b m cap2 ys) (hbd : n + m ≤ 1000) :
    Calls Try.prog 15 #[.slice a n cap, .slice b m cap2] w fun e w' => ∃ so k co, e = .returned (.slice so k co) ∧ RowW w' so k co (mrg true true true xs ys) ∧ k ≤ n + m ∧ Below w.heap.size w w' :=
  (or_any a b n cap m cap2 xs ys w hr hs (by omega)).mono fun _ _ ⟨so, k, co, h1, h2, h3⟩ => ⟨so, k, co, h1, h2.row, by rw [← h2.1, ← hr.len, ← hs.len]; exact mrg_len _ _ _ _ _, h3⟩
theorem and_k (a b : Option Addr) (n cap m cap2 : Nat) (xs ys : List Int) (w : World) (hr : RowW w a n cap xs) (hs : RowW w b m cap2 ys) (hbd : n + m ≤ 1000) :
    Calls Try.prog 19 #[.slice a n cap, .slice b m cap2] w fun e w' => ∃ so k co, e = .returned (.slice so k co) ∧ RowW w' so k co (mrg false true false xs ys) ∧ k ≤ n + m ∧ Below w.heap.size w w' :=
  (and_any a b n cap m cap2 xs ys w hr hs (by omega)).mono fun _ _ ⟨so, k, co, h1, h2, h3⟩ => ⟨so, k, co, h1, h2.row, by rw [← h2.1, ← hr.len, ← hs.len]; exact mrg_len _ _ _ _ _, h3⟩
theorem less_k (a b : Option Addr) (n cap m cap2 : Nat) (xs ys : List Int) (w : World) (hr : RowW w a n cap xs) (hs : RowW w b m cap2 ys) (hbd : n + m ≤ 1000) :
    Calls Try.prog 21 #[.slice a n cap, .slice b m cap2] w fun e w' => ∃ so k co, e = .returned (.slice so k co) ∧ RowW w' so k co (mrg true false false xs ys) ∧ k ≤ n + m ∧ Below w.heap.size w w' :=
  (less_set_any a b n cap m cap2 xs ys w hr hs (by omega)).mono fun _ _ ⟨so, k, co, h1, h2, h3⟩ => ⟨so, k, co, h1, h2.row, by rw [← h2.1, ← hr.len, ← hs.len]; exact mrg_len _ _ _ _ _, h3⟩

set_option maxHeartbeats 400000 in
theorem catsLattice_long (a b d : Option Addr) (n cap m cap2 l cap3 : Nat) (w : World) (h : 20 < n ∨ 20 < m ∨ 20 < l) :
    Calls Try.prog 7 #[.slice a n cap, .slice b m cap2, .slice d l cap3] w fun e w' => e = .returned (.bool true) ∧ Below w.heap.size w w' := by
  by_cases h1 : (n : Int) > 20
  · go_enter Try.func7, Try.ntmps7
    go_wp2_with fail
    refine (begun_true _).mono ?_
    rintro e w1 ⟨rfl, hb1⟩
    go_wp2_with fail
    go_ret
    exact ⟨rfl, hb1⟩
  · have h3 : decide ((20 : Int) < n) = false := by simpa using h1
    by_cases h2 : (m : Int) > 20
    · go_enter Try.func7, Try.ntmps7
      go_wp2_with fail
      refine (begun_true _).mono ?_
      rintro e w1 ⟨rfl, hb1⟩
      go_wp2_with fail
      go_ret
      exact ⟨rfl, hb1⟩
    · have h4 : decide ((20 : Int) < m) = false := by simpa using h2
      have h5 : (l : Int) > 20 := by omega
      go_enter Try.func7, Try.ntmps7
      go_wp2_with fail
      refine (begun_true _).mono ?_
      rintro e w1 ⟨rfl, hb1⟩
      go_wp2_with fail
      go_ret
      exact ⟨rfl, hb1⟩

set_option maxHeartbeats 8000000 in
theorem catsLattice_walk (a b d : Option Addr) (n cap m cap2 l cap3 : Nat) (xs ys zs : List Int) (w : World) (hr : RowW w a n cap xs) (hs : RowW w b m cap2 ys) (ht : RowW w d l cap3 zs) :
    Calls Try.prog 7 #[.slice a n cap, .slice b m cap2, .slice d l cap3] w fun e w' => e = .returned (.bool true) ∧ Below w.heap.size w w' := by
  by_cases hlong : 20 < n ∨ 20 < m ∨ 20 < l
  · exact catsLattice_long a b d n cap m cap2 l cap3 w hlong
  have h1 : decide ((20 : Int) < n) = false := by simp; omega
  have h2 : decide ((20 : Int) < m) = false := by simp; omega
  have h3 : decide ((20 : Int) < l) = false := by simp; omega
  have h4 : ¬ (n : Int) > 20 := by omega
  have h5 : ¬ (m : Int) > 20 := by omega
  have h6 : ¬ (l : Int) > 20 := by omega
  go_enter Try.func7, Try.ntmps7
  go_wp2_with fail
  refine (begun_true _).mono ?_
  rintro e w1 ⟨rfl, b1⟩
  replace hr := hr.below b1
  replace hs := hs.below b1
  replace ht := ht.below b1
  go_wp2_with fail
  refine (make_all a n cap xs _ hr (by omega)).mono ?_
  rintro e w2 ⟨sa, na, ca, A, rfl, oa, b2, hA, mA, lA⟩
  replace hs := hs.below b2
  replace ht := ht.below b2
  replace b1 := ext_trans b1 b2
  have ra := oa.row
  clear oa b2 hr mA
  go_wp2_with fail
  refine (make_all b m cap2 ys _ hs (by omega)).mono ?_
  rintro e w3 ⟨sb, nb, cb, B, rfl, ob, b3, hB, mB, lB⟩
  replace ra := ra.below b3
  replace ht := ht.below b3
  replace b1 := ext_trans b1 b3
  have rb := ob.row
  clear ob b3 hs mB
  go_wp2_with fail
  refine (make_all d l cap3 zs _ ht (by omega)).mono ?_
  rintro e w4 ⟨sc, nc, cc, C, rfl, oc, b4, hC, mC, lC⟩
  replace ra := ra.below b4
  replace rb := rb.below b4
  replace b1 := ext_trans b1 b4
  have rc := oc.row
  clear oc b4 ht mC
  replace h1 : na ≤ 20 := by omega
  replace h2 : nb ≤ 20 := by omega
  replace h3 : nc ≤ 20 := by omega
  clear h4 h5 h6 hlong lA lB lC
  -- parts
  go_wp2_with fail
  refine (less_k sa sb na ca nb cb A B _ ra rb (by omega)).mono ?_
  rintro e w5 ⟨s5, n5, c5, rfl, r5, l5, b5⟩
  replace ra := ra.below b5
  replace rb := rb.below b5
  replace rc := rc.below b5
  replace b1 := ext_trans b1 b5
  clear b5
  go_wp2_with fail
  refine (and_k sa sb na ca nb cb A B _ ra rb (by omega)).mono ?_
  rintro e w6 ⟨s6, n6, c6, rfl, r6, l6, b6⟩
  replace ra := ra.below b6
  replace rb := rb.below b6
  replace rc := rc.below b6
  replace r5 := r5.below b6
  replace b1 := ext_trans b1 b6
  clear b6
  go_wp2_with fail
  refine (or_k s5 s6 n5 c5 n6 c6 _ _ _ r5 r6 (by omega)).mono ?_
  rintro e w7 ⟨s7, n7, c7, rfl, r7, l7, b7⟩
  replace ra := ra.below b7
  replace rb := rb.below b7
  replace rc := rc.below b7
  replace b1 := ext_trans b1 b7
  clear b7 r5 r6
  rw [lat1 hA hB] at r7
  go_wp2_with fail
  refine (same_true s7 n7 c7 _ sa na ca A _ r7 ra rfl).mono ?_
  rintro e w8 ⟨rfl, b8⟩
  replace ra := ra.below b8
  replace rb := rb.below b8
  replace rc := rc.below b8
  replace b1 := ext_trans b1 b8
  clear b8 r7 l5 l6 l7
  go_wp2_with fail
  refine (less_k sa sb na ca nb cb A B _ ra rb (by omega)).mono ?_
  rintro e w5 ⟨s5, n5, c5, rfl, r5, l5, b5⟩
  replace ra := ra.below b5
  replace rb := rb.below b5
  replace rc := rc.below b5
  replace b1 := ext_trans b1 b5
  clear b5
  go_wp2_with fail
  refine (and_k s5 sb n5 c5 nb cb _ B _ r5 rb (by omega)).mono ?_
  rintro e w6 ⟨s6, n6, c6, rfl, r6, l6, b6⟩
  replace ra := ra.below b6
  replace rb := rb.below b6
  replace rc := rc.below b6
  replace b1 := ext_trans b1 b6
  rw [lat2 hA hB] at r6
  obtain rfl := r6.len
  rw [List.length_nil]
  clear b6 r5 r6 l5 l6
  -- laws
  go_wp2_with fail
  refine (or_k sb sc nb cb nc cc B C _ rb rc (by omega)).mono ?_
  rintro e w5 ⟨s5, n5, c5, rfl, r5, l5, b5⟩
  replace ra := ra.below b5
  replace rb := rb.below b5
  replace rc := rc.below b5
  replace b1 := ext_trans b1 b5
  clear b5
  go_wp2_with fail
  refine (and_k sa s5 na ca n5 c5 A _ _ ra r5 (by omega)).mono ?_
  rintro e w6 ⟨s6, n6, c6, rfl, r6, l6, b6⟩
  replace ra := ra.below b6
  replace rb := rb.below b6
  replace rc := rc.below b6
  replace b1 := ext_trans b1 b6
  clear b6 r5
  go_wp2_with fail
  refine (and_k sa sb na ca nb cb A B _ ra rb (by omega)).mono ?_
  rintro e w7 ⟨s7, n7, c7, rfl, r7, l7, b7⟩
  replace ra := ra.below b7
  replace rb := rb.below b7
  replace rc := rc.below b7
  replace r6 := r6.below b7
  replace b1 := ext_trans b1 b7
  clear b7
  go_wp2_with fail
  refine (and_k sa sc na ca nc cc A C _ ra rc (by omega)).mono ?_
  rintro e w8 ⟨s8, n8, c8, rfl, r8, l8, b8⟩
  replace ra := ra.below b8
  replace rb := rb.below b8
  replace rc := rc.below b8
  replace r6 := r6.below b8
  replace r7 := r7.below b8
  replace b1 := ext_trans b1 b8
  clear b8
  go_wp2_with fail
  refine (or_k s7 s8 n7 c7 n8 c8 _ _ _ r7 r8 (by omega)).mono ?_
  rintro e w9 ⟨s9, n9, c9, rfl, r9, l9, b9⟩
  replace ra := ra.below b9
  replace rb := rb.below b9
  replace rc := rc.below b9
  replace r6 := r6.below b9
  replace b1 := ext_trans b1 b9
  clear b9 r7 r8
  go_wp2_with fail
  refine (same_true s6 n6 c6 _ s9 n9 c9 _ _ r6 r9 (lat3 hA hB hC)).mono ?_
  rintro e w10 ⟨rfl, b10⟩
  replace ra := ra.below b10
  replace rb := rb.below b10
  replace rc := rc.below b10
  replace b1 := ext_trans b1 b10
  clear b10 r6 r9 l5 l6 l7 l8 l9
  go_wp2_with fail
  refine (or_k sb sc nb cb nc cc B C _ rb rc (by omega)).mono ?_
  rintro e w5 ⟨s5, n5, c5, rfl, r5, l5, b5⟩
  replace ra := ra.below b5
  replace rb := rb.below b5
  replace rc := rc.below b5
  replace b1 := ext_trans b1 b5
  clear b5
  go_wp2_with fail
  refine (less_k sa s5 na ca n5 c5 A _ _ ra r5 (by omega)).mono ?_
  rintro e w6 ⟨s6, n6, c6, rfl, r6, l6, b6⟩
  replace ra := ra.below b6
  replace rb := rb.below b6
  replace rc := rc.below b6
  replace b1 := ext_trans b1 b6
  clear b6 r5
  go_wp2_with fail
  refine (less_k sa sb na ca nb cb A B _ ra rb (by omega)).mono ?_
  rintro e w7 ⟨s7, n7, c7, rfl, r7, l7, b7⟩
  replace ra := ra.below b7
  replace rb := rb.below b7
  replace rc := rc.below b7
  replace r6 := r6.below b7
  replace b1 := ext_trans b1 b7
  clear b7
  go_wp2_with fail
  refine (less_k s7 sc n7 c7 nc cc _ C _ r7 rc (by omega)).mono ?_
  rintro e w8 ⟨s8, n8, c8, rfl, r8, l8, b8⟩
  replace ra := ra.below b8
  replace rb := rb.below b8
  replace r6 := r6.below b8
  replace b1 := ext_trans b1 b8
  clear b8 r7 rc
  go_wp2_with fail
  refine (same_true s6 n6 c6 _ s8 n8 c8 _ _ r6 r8 (lat4 hA hB hC)).mono ?_
  rintro e w10 ⟨rfl, b10⟩
  replace ra := ra.below b10
  replace rb := rb.below b10
  replace b1 := ext_trans b1 b10
  clear b10 r6 r8 l5 l6 l7 l8
  -- the last row
  have q1 := fun W (ha : RowW W sa na ca A) (hb : RowW W sb nb cb B) => in_any sa sb na ca nb cb A B W ha hb (by omega)
  have q2 := fun W s5 n5 c5 (h5 : RowW W s5 n5 c5 (mrg true true true A B)) (hb : RowW W sb nb cb B) => same_any s5 n5 c5 _ sb nb cb B W h5 hb
  rw [← lat5 hA hB] at q2
  have hq : ∀ k : Nat, (mrg true false false A B).length = k → ((k : Int) == 0) = decide (mrg true false false A B = []) := by
    intro k hk
    subst hk
    cases mrg true false false A B <;> simp
    omega
  have HQ : Hid (∀ k : Nat, (mrg true false false A B).length = k → ((k : Int) == 0) = decide (mrg true false false A B = [])) := hq
  clear hq
  generalize decide (mrg true false false A B = []) = q at q1 q2 HQ
  go_wp2_with fail
  refine (q1 _ ra rb).mono ?_
  rintro e w5 ⟨rfl, b5⟩
  replace ra := ra.below b5
  replace rb := rb.below b5
  replace b1 := ext_trans b1 b5
  clear b5
  go_wp2_with fail
  refine (or_k sa sb na ca nb cb A B _ ra rb (by omega)).mono ?_
  rintro e w6 ⟨s6, n6, c6, rfl, r6, l6, b6⟩
  replace ra := ra.below b6
  replace rb := rb.below b6
  replace b1 := ext_trans b1 b6
  clear b6
  go_wp2_with fail
  refine (q2 _ s6 n6 c6 r6 rb).mono ?_
  rintro e w7 ⟨rfl, b7⟩
  replace ra := ra.below b7
  replace rb := rb.below b7
  replace b1 := ext_trans b1 b7
  clear b7 r6 q2 l6
  go_wp2_with fail
  refine (q1 _ ra rb).mono ?_
  rintro e w5 ⟨rfl, b5⟩
  replace ra := ra.below b5
  replace rb := rb.below b5
  replace b1 := ext_trans b1 b5
  clear b5 q1
  go_wp2_with fail
  refine (less_k sa sb na ca nb cb A B _ ra rb (by omega)).mono ?_
  rintro e w6 ⟨s6, n6, c6, rfl, r6, l6, b6⟩
  replace ra := ra.below b6
  replace rb := rb.below b6
  replace b1 := ext_trans b1 b6
  have e6 := HQ.out n6 r6.len
  clear b6 r6 HQ
  go_wp2_with fail
  refine (or_k sa sb na ca nb cb A B _ ra rb (by omega)).mono ?_
  rintro e w7 ⟨s7, n7, c7, rfl, r7, l7, b7⟩
  replace ra := ra.below b7
  replace rb := rb.below b7
  replace b1 := ext_trans b1 b7
  clear b7 e6 l6
  go_wp2_with fail
  refine (or_k sb sa nb cb na ca B A _ rb ra (by omega)).mono ?_
  rintro e w8 ⟨s8, n8, c8, rfl, r8, l8, b8⟩
  replace ra := ra.below b8
  replace r7 := r7.below b8
  replace b1 := ext_trans b1 b8
  clear b8 rb
  go_wp2_with fail
  refine (same_true s7 n7 c7 _ s8 n8 c8 _ _ r7 r8 (lat7 hA hB)).mono ?_
  rintro e w9 ⟨rfl, b9⟩
  replace ra := ra.below b9
  replace b1 := ext_trans b1 b9
  clear b9 r7 r8 l7 l8
  go_wp2_with fail
  refine (make_all sa na ca A _ ra (by omega)).mono ?_
  rintro e w10 ⟨s10, n10, c10, A', rfl, o10, b10, hA', mA', _⟩
  replace ra := ra.below b10
  replace b1 := ext_trans b1 b10
  clear b10
  go_wp2_with fail
  refine (same_true s10 n10 c10 A' sa na ca A _ o10.row ra (srt_unique hA' hA mA')).mono ?_
  rintro e w11 ⟨rfl, b11⟩
  go_wp2_with fail
  go_ret
  exact ⟨rfl, ext_trans b1 b11⟩
end Go.Proofs.Ytpajojkhpnklfaa
