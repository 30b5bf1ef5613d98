/- What the walks over may2's laws share. -/
import Derived.Test.YthhpfpihgmhlbaaM2Begun
import Derived.Test.YthhpfpihgmhlbaaSvLaws
namespace Go.Proofs.Ythhpfpihgmhlbaa
open Go.RowKit

theorem bool_for (P : Prop) : ∃ q : Bool, Hid (q = true ↔ P) := by
  by_cases h : P
  · exact ⟨true, by show _ ↔ _; simp [h]⟩
  · exact ⟨false, by show _ ↔ _; simp [h]⟩
/-- Two sets, one in the other, and as many: they are one. -/
theorem srt_all {A B : List Int} (hA : Srt A) (hB : Srt B) (h : ∀ z, z ∈ A → z ∈ B) (hl : A.length = B.length) : ∀ z, z ∈ B → z ∈ A := by
  have h1 : mrg true true true B A = B := srt_unique (mrg_srt _ _ _ _ _ hB hA) hB fun z => by rw [or_mem hB hA]; exact ⟨fun k => k.elim id (h z), .inl⟩
  have h2 := mrg_sum B A
  rw [h1, and_eq hB hA] at h2
  have h3 : (B.filter fun x => decide (x ∈ A) == true).length = B.length := by omega
  intro z hz
  simpa using List.length_filter_eq_length_iff.1 h3 z hz
theorem refIn_true (a b : Option Addr) (n cap m cap2 : Nat) (xs ys : List Int) (w : World) (hr : RowW w a n cap xs) (hs : RowW w b m cap2 ys) (hbd : n ≤ 1000000) (h : Hid (∀ z, z ∈ xs → z ∈ ys)) :
    Calls Try.prog 18 #[.slice a n cap, .slice b m cap2] w fun e w' => e = .returned (.bool true) ∧ Below w.heap.size w w' := by
  have := refIn_any a b n cap m cap2 xs ys w hr hs hbd
  rwa [decide_eq_true (filter_nil.2 h.out)] at this
theorem refLess_in (a b : Option Addr) (n cap m cap2 : Nat) (xs ys : List Int) (w : World) (hr : RowW w a n cap xs) (hs : RowW w b m cap2 ys) (hbd : n ≤ 1000000) :
    Calls Try.prog 19 #[.slice a n cap, .slice b m cap2] w fun e w' => ∃ so k co l, e = .returned (.slice so k co) ∧ RowW w' so k co l ∧ k ≤ n ∧ Hid (∀ z, z ∈ l → z ∈ xs ∧ z ∉ ys) ∧ Below w.heap.size w w' :=
  (refLess_any a b n cap m cap2 xs ys w hr hs hbd).mono fun e w' ⟨so, k, co, he, ho, hb⟩ => ⟨so, k, co, _, he, ho.row, by
    have h1 := ho.1
    have h2 := List.length_filter_le (fun x => decide (x ∈ ys) == false) xs
    rw [hr.len] at h2
    omega, fun z hz => by simpa using List.mem_filter.1 hz, hb⟩
end Go.Proofs.Ythhpfpihgmhlbaa
