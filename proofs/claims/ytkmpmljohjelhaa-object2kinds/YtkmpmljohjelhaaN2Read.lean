/- What obj2's functions that only ask answer: contracts, for every object. -/
import Derived.Test.YtkmpmljohjelhaaObj
import Derived.Test.YtkmpmljohjelhaaScPut
import Derived.Test.YtkmpmljohjelhaaScTake
import Derived.Test.YtkmpmljohjelhaaN2Math
import Derived.Test.YtkmpmljohjelhaaJRing
namespace Go.Proofs.Ytkmpmljohjelhaa
open Go.RowKit
set_option maxRecDepth 100000
set_option linter.unusedVariables false

theorem isKind2_any (k : Int) (w : World) : Calls Try.prog 25 #[.int .i64 k] w fun e w' => e = .returned (.bool (isK k)) ∧ w' = w := by
  by_cases h1 : 1 ≤ k
  · by_cases h2 : k ≤ 4
    · rw [show isK k = true by simp [isK]; omega]
      go_enter Try.func25, Try.ntmps25
      go_wp2_with fail
      go_ret
      exact ⟨rfl, rfl⟩
    · rw [show isK k = false by simp [isK]; omega]
      go_enter Try.func25, Try.ntmps25
      go_wp2_with fail
      go_ret
      exact ⟨rfl, rfl⟩
  · rw [show isK k = false by simp [isK]; omega]
    go_enter Try.func25, Try.ntmps25
    go_wp2_with fail
    go_ret
    exact ⟨rfl, rfl⟩
theorem cloneBX_nil (w : World) : Calls Try.prog 33 #[.slice none 0 0] w fun e w' => e = .returned (.slice none 0 0) ∧ w' = w := by
  have hq := fun W => Lib.run_eql_slice_nil (P := Try.prog) W 29 5 none 0 0 0 0 Try.underlying29
  go_enter Try.func33, Try.ntmps33
  go_wp2_with fail
  go_ret
  exact ⟨rfl, rfl⟩
/-- What scode.Put answers of sets of which one is none. -/
theorem sput_no (x : Sv) (w : World) (hx : x.In w) (hm : (mayS x.xs && mayS x.ys && mayS x.zs) = false) :
    Calls Try.prog 17 #[.slice none 0 0, .agg #[.slice x.a1 x.n1 x.c1, .slice x.a2 x.n2 x.c2, .slice x.a3 x.n3 x.c3]] w fun e w' => e = .returned (.slice none 0 0) ∧ Below w.heap.size w w' := by
  have HC : Hid _ := one_sv w x
  have hA := fun (W : World) (b : Below w.heap.size w W) => may_any x.a1 x.n1 x.c1 x.xs W (hx.r1.below b)
  have hB := fun (W : World) (b : Below w.heap.size w W) => may_any x.a2 x.n2 x.c2 x.ys W (hx.r2.below b)
  have hC := fun (W : World) (b : Below w.heap.size w W) => may_any x.a3 x.n3 x.c3 x.zs W (hx.r3.below b)
  generalize mayS x.xs = q1 at *
  generalize mayS x.ys = q2 at *
  generalize mayS x.zs = q3 at *
  have hb0 := Below.refl (w.alloc (Obj.cells #[.slice x.a1 x.n1 x.c1, .slice x.a2 x.n2 x.c2, .slice x.a3 x.n3 x.c3] 28)).heap.size (w.alloc (Obj.cells #[.slice x.a1 x.n1 x.c1, .slice x.a2 x.n2 x.c2, .slice x.a3 x.n3 x.c3] 28))
  obtain ⟨_, _, _, bw0⟩ := HC.out _ hb0
  cases q1
  · go_enter Try.func17, Try.ntmps17
    go_wp2_with fail
    refine (hA _ bw0).mono ?_
    rintro e w1 ⟨rfl, b1⟩
    replace b1 := ext_trans bw0 b1
    go_wp2_with fail
    refine (cloneBX_nil _).mono ?_
    rintro e w2 ⟨rfl, rfl⟩
    go_wp2_with fail
    go_ret
    exact ⟨rfl, b1⟩
  cases q2
  · go_enter Try.func17, Try.ntmps17
    go_wp2_with fail
    refine (hA _ bw0).mono ?_
    rintro e w1 ⟨rfl, b1⟩
    obtain ⟨s0, s1, s2, bw1⟩ := HC.out _ (ext_trans hb0 b1)
    go_wp2_with fail
    refine (hB _ bw1).mono ?_
    rintro e w2 ⟨rfl, b2⟩
    replace b2 := ext_trans bw1 b2
    go_wp2_with fail
    refine (cloneBX_nil _).mono ?_
    rintro e w3 ⟨rfl, rfl⟩
    go_wp2_with fail
    go_ret
    exact ⟨rfl, b2⟩
  cases q3
  · go_enter Try.func17, Try.ntmps17
    go_wp2_with fail
    refine (hA _ bw0).mono ?_
    rintro e w1 ⟨rfl, b1⟩
    replace b1 := ext_trans hb0 b1
    obtain ⟨s0, s1, s2, bw1⟩ := HC.out _ b1
    go_wp2_with fail
    refine (hB _ bw1).mono ?_
    rintro e w2 ⟨rfl, b2⟩
    clear s0 s1 s2
    replace b2 := ext_trans b1 b2
    obtain ⟨s0, s1, s2, bw2⟩ := HC.out _ b2
    go_wp2_with fail
    refine (hC _ bw2).mono ?_
    rintro e w3 ⟨rfl, b3⟩
    replace b3 := ext_trans bw2 b3
    go_wp2_with fail
    refine (cloneBX_nil _).mono ?_
    rintro e w4 ⟨rfl, rfl⟩
    go_wp2_with fail
    go_ret
    exact ⟨rfl, b3⟩
  exact absurd hm (by simp)

/-- What is put of three sets that may not be together. -/
def putQ (A B C : List Int) : List Int := if (mayS A && mayS B && mayS C) = true then encV A B C else []
theorem putQ_no {A B C : List Int} (hA : Wrd A) (hB : Wrd B) (hC : Wrd C) (h : mayV A B C = false) : svE (putQ A B C) ≠ 0 := by
  unfold putQ
  by_cases hp : (mayS A && mayS B && mayS C) = true
  · rw [if_pos hp]
    have hp' : mayS A = true ∧ mayS B = true ∧ mayS C = true := by simpa [and_assoc] using hp
    have e : encV A B C = encW A ++ (encW B ++ (encW C ++ [])) := by simp [encV]
    obtain ⟨a1, e1, d1, e2, d2, a3⟩ := sv_at A B (encW C ++ []) hA hB ⟨hp'.1, hp'.2.1⟩
    obtain ⟨b1, b2, b3⟩ := ts_encW B (encW C ++ []) hB hp'.2.1
    obtain ⟨c1, c2, c3⟩ := ts_encW C [] hC hp'.2.2
    rw [e, sv_not a1 (by rw [d1]; exact b1) (by rw [d2]; exact c1) (by rw [d1, d2, a3, b3, c3]; exact h)]
    decide
  · rw [if_neg hp, sv_one (by decide : tsE [] ≠ 0)]
    decide
/-- What scode.Put answers of any three sets, behind nothing. -/
theorem sput_all (x : Sv) (w : World) (hx : x.In w) :
    Calls Try.prog 17 #[.slice none 0 0, .agg #[.slice x.a1 x.n1 x.c1, .slice x.a2 x.n2 x.c2, .slice x.a3 x.n3 x.c3]] w fun e w' => ∃ (a : Option Addr) (n c : Nat), e = .returned (.slice a n c) ∧ Row w' a n c (putQ x.xs x.ys x.zs) ∧ n ≤ 1000 ∧ Below w.heap.size w w' := by
  unfold putQ
  by_cases hp : (mayS x.xs && mayS x.ys && mayS x.zs) = true
  · rw [if_pos hp]
    have hp' : mayS x.xs = true ∧ mayS x.ys = true ∧ mayS x.zs = true := by simpa [and_assoc] using hp
    have l1 : x.n1 ≤ 16 := hx.r1.len ▸ mayS_le16 hp'.1
    have l2 : x.n2 ≤ 16 := hx.r2.len ▸ mayS_le16 hp'.2.1
    have l3 : x.n3 ≤ 16 := hx.r3.len ▸ mayS_le16 hp'.2.2
    refine (sput_parts none 0 0 [] x _ rfl w (Row.nil _) hx hp' (by omega)).mono ?_
    rintro e w1 ⟨g, c, rfl, o, b⟩
    rw [List.nil_append] at o
    exact ⟨_, _, _, rfl, o.row, by omega, b⟩
  · rw [if_neg hp]
    refine (sput_no x w hx (by simpa using hp)).mono ?_
    rintro e w1 ⟨rfl, b⟩
    exact ⟨_, _, _, rfl, Row.nil _, by omega, b⟩
end Go.Proofs.Ytkmpmljohjelhaa
