/- Labels of levels as labels of sets, plainly: the categories of each level, and back. -/
import Derived.Test.YtdoemkncgfgkhaaBkMath
import Derived.Test.YtdoemkncgfgkhaaLabMay
namespace Go.Proofs.Ytdoemkncgfgkhaa
open Go.RowKit
set_option maxRecDepth 100000

theorem stars_mem {v : Int} {ps : List (Int × Int)} (c : Int) : c ∈ starsL v ps ↔ (c, v) ∈ ps := by
  unfold starsL
  rw [List.mem_map]
  constructor
  · rintro ⟨⟨a, b⟩, hp, rfl⟩
    obtain ⟨h1, h2⟩ := List.mem_filter.1 hp
    have : b = v := by simpa using h2
    rwa [this] at h1
  · exact fun hp => ⟨(c, v), List.mem_filter.2 ⟨hp, by simp⟩, rfl⟩
theorem stars_srt (v : Int) {ps : List (Int × Int)} (h : UpL ps) : Srt (starsL v ps) := List.pairwise_map.2 (List.Pairwise.filter _ h)
theorem stars_cons (v : Int) (p : Int × Int) (ps : List (Int × Int)) : (starsL v (p :: ps)).length = (if p.2 = v then 1 else 0) + (starsL v ps).length := by
  unfold starsL
  by_cases h : p.2 = v
  · simp [h]; omega
  · simp [h]
theorem stars_len (ps : List (Int × Int)) : (starsL 4 ps).length + (starsL 1 ps).length + (starsL 0 ps).length ≤ ps.length := by
  induction ps with
  | nil => simp [starsL]
  | cons p ps ih =>
    rw [stars_cons, stars_cons, stars_cons, List.length_cons]
    by_cases h4 : p.2 = 4
    · rw [if_pos h4, if_neg (by omega), if_neg (by omega)]; omega
    · by_cases h1 : p.2 = 1
      · rw [if_neg h4, if_pos h1, if_neg (by omega)]; omega
      · rw [if_neg h4, if_neg h1]
        split <;> omega
theorem stars_apart {u v : Int} (hne : u ≠ v) {ps : List (Int × Int)} (h : UpL ps) : ∀ z, z ∈ starsL u ps → z ∉ starsL v ps := fun z hz hk => by
  have h1 := atL_mem 0 h ((stars_mem z).1 hz)
  have h2 := atL_mem 0 h ((stars_mem z).1 hk)
  exact hne (h1.symm.trans h2)
theorem stars_may {ps : List (Int × Int)} (h : UpL ps) (hl : ps.length ≤ 16) : MayP (starsL 4 ps) (starsL 1 ps) (starsL 0 ps) :=
  ⟨⟨stars_srt _ h, stars_srt _ h, stars_srt _ h⟩, ⟨stars_apart (by omega) h, stars_apart (by omega) h, stars_apart (by omega) h⟩, Nat.le_trans (stars_len ps) hl⟩
/-- A label that sets say is the label of its levels' sets. -/
theorem Bk.of {ps : List (Int × Int)} (h : CanL 2 ps) (hl : ∀ p ∈ ps, p.2 = 4 ∨ p.2 = 1 ∨ p.2 = 0) : Bk (starsL 4 ps) (starsL 1 ps) (starsL 0 ps) ps := by
  refine ⟨h, fun c => ?_⟩
  unfold lvl
  by_cases h0 : c ∈ starsL 0 ps
  · rw [if_pos h0]; exact atL_mem 2 h.1 ((stars_mem c).1 h0)
  · rw [if_neg h0]
    by_cases h1 : c ∈ starsL 1 ps
    · rw [if_pos h1]; exact atL_mem 2 h.1 ((stars_mem c).1 h1)
    · rw [if_neg h1]
      by_cases h4 : c ∈ starsL 4 ps
      · rw [if_pos h4]; exact atL_mem 2 h.1 ((stars_mem c).1 h4)
      · rw [if_neg h4]
        rcases atL_any 2 ps c with e | ⟨⟨a, b⟩, hp, rfl, _⟩
        · exact e
        · rcases hl _ hp with e | e | e
          · simp only at e; subst e; exact absurd ((stars_mem a).2 hp) h4
          · simp only at e; subst e; exact absurd ((stars_mem a).2 hp) h1
          · simp only at e; subst e; exact absurd ((stars_mem a).2 hp) h0
theorem Bk.uniq {A B C : List Int} {ps qs : List (Int × Int)} (h : Bk A B C ps) (k : Bk A B C qs) : ps = qs := can_ext h.can k.can fun c => (h.lv c).trans (k.lv c).symm
theorem lvl_four {A B C : List Int} (h : MayP A B C) {c : Int} : lvl A B C c = 4 ↔ c ∈ A := by
  refine ⟨fun e => ?_, lvl_in1 h⟩
  unfold lvl at e
  split at e
  · omega
  · split at e
    · omega
    · split at e
      · assumption
      · omega
theorem lvl_one {A B C : List Int} (h : MayP A B C) {c : Int} : lvl A B C c = 1 ↔ c ∈ B := by
  refine ⟨fun e => ?_, lvl_in2 h⟩
  unfold lvl at e
  split at e
  · omega
  · split at e
    · assumption
    · split at e <;> omega
/-- The levels' sets of the label of three sets are these. -/
theorem Bk.split {A B C : List Int} {ps : List (Int × Int)} (h : Bk A B C ps) (hm : MayP A B C) : starsL 4 ps = A ∧ starsL 1 ps = B ∧ starsL 0 ps = C :=
  ⟨srt_unique (stars_srt _ h.can.1) hm.1.1 fun c => (h.stars (by omega) c).trans (lvl_four hm), srt_unique (stars_srt _ h.can.1) hm.1.2.1 fun c => (h.stars (by omega) c).trans (lvl_one hm), srt_unique (stars_srt _ h.can.1) hm.1.2.2 fun c => (h.stars (by omega) c).trans lvl_zero⟩
theorem name_two {d : Int} {ps : List (Int × Int)} (h : nameB d ps = true) : d = 2 ∧ starsL 3 ps = [] := by
  unfold nameB at h
  simpa using h
theorem name_levels {d : Int} {ps : List (Int × Int)} (h : nameB d ps = true) (hm : mayB d ps = true) (hv : LvL d ps) : d = 2 ∧ CanL 2 ps ∧ ∀ p ∈ ps, p.2 = 4 ∨ p.2 = 1 ∨ p.2 = 0 := by
  obtain ⟨rfl, h3⟩ := name_two h
  obtain ⟨_, _, h4, h5⟩ := mayB_iff.1 hm
  refine ⟨rfl, ⟨h5, fun p hp => (h4 p hp).2⟩, fun p hp => ?_⟩
  have e1 := h4 p hp
  have e2 := hv.2 p hp
  have e3 : p.2 ≠ 3 := fun e => by
    have : p.1 ∈ starsL 3 ps := (stars_mem p.1).2 (by rw [← e]; exact hp)
    rw [h3] at this
    simp at this
  omega
theorem stars_app (v : Int) (ps qs : List (Int × Int)) : starsL v (ps ++ qs) = starsL v ps ++ starsL v qs := by simp [starsL]
end Go.Proofs.Ytdoemkncgfgkhaa
