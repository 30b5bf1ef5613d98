/- Labels of sets as labels of levels, plainly: which level a category has, and what that comes to. -/
import Derived.Test.YtdoemkncgfgkhaaM1Rises
import Derived.Test.YtdoemkncgfgkhaaM2May
namespace Go.Proofs.Ytdoemkncgfgkhaa
open Go.RowKit
set_option maxRecDepth 100000

/-- The level that a category has by three sets. -/
def lvl (A B C : List Int) (c : Int) : Int := if c ∈ C then 0 else if c ∈ B then 1 else if c ∈ A then 4 else 2
/-- Pairs of one level. -/
def lvP (v : Int) (l : List Int) : List (Int × Int) := l.map fun c => (c, v)
/-- The pairs, set by set. -/
def bkP (A B C : List Int) : List (Int × Int) := lvP 4 A ++ lvP 1 B ++ lvP 0 C
theorem lvP_nil (v : Int) : lvP v [] = [] := rfl
theorem lvP_snoc (v : Int) (l : List Int) (c : Int) : lvP v (l ++ [c]) = lvP v l ++ [(c, v)] := by simp [lvP]
theorem lvP_len (v : Int) (l : List Int) : (lvP v l).length = l.length := by simp [lvP]
theorem lvP_rev (v : Int) (l : List Int) : (lvP v l).reverse = lvP v l.reverse := by simp [lvP]
theorem lvP_at (d v : Int) (l : List Int) (ps : List (Int × Int)) (c : Int) : atL d (lvP v l ++ ps) c = if c ∈ l then v else atL d ps c := by
  induction l with
  | nil => simp [lvP]
  | cons x l ih =>
    show atL d ((x, v) :: (lvP v l ++ ps)) c = _
    rw [atL_cons, ih]
    by_cases h : x = c
    · subst h; simp
    · rw [if_neg h]
      have : c ≠ x := fun e => h e.symm
      simp [this]
theorem bkP_at (A B C : List Int) (c : Int) : atL 2 (bkP A B C).reverse c = lvl A B C c := by
  unfold bkP lvl
  rw [List.reverse_append, List.reverse_append, lvP_rev, lvP_rev, lvP_rev, lvP_at, lvP_at]
  have := lvP_at 2 4 A.reverse [] c
  rw [List.append_nil] at this
  rw [this]
  simp [atL]
theorem bkP_mem (A B C : List Int) (c : Int) : c ∈ (bkP A B C).map Prod.fst ↔ c ∈ A ∨ c ∈ B ∨ c ∈ C := by
  simp [bkP, lvP, List.map_append, Function.comp_def]
theorem lvl_cases (A B C : List Int) (c : Int) : lvl A B C c = 0 ∨ lvl A B C c = 1 ∨ lvl A B C c = 4 ∨ lvl A B C c = 2 := by
  unfold lvl
  split
  · exact .inl rfl
  · split
    · exact .inr (.inl rfl)
    · split
      · exact .inr (.inr (.inl rfl))
      · exact .inr (.inr (.inr rfl))
/-- The label of levels that three sets are. -/
structure Bk (A B C : List Int) (ps : List (Int × Int)) : Prop where
  can : CanL 2 ps
  lv : ∀ c, atL 2 ps c = lvl A B C c
theorem Bk.mk' {A B C zs : List Int} (h : Srt zs) (hm : ∀ x, x ∈ zs ↔ x ∈ (bkP A B C).map Prod.fst) : Bk A B C (mkP 2 (bkP A B C) zs) :=
  ⟨mkP_can _ _ h, fun c => (mkP_at _ _ h hm c).trans (bkP_at A B C c)⟩
theorem bk_len {A B C zs : List Int} (hA : Srt A) (hB : Srt B) (hC : Srt C) (h : Srt zs) (hm : ∀ x, x ∈ zs ↔ x ∈ (bkP A B C).map Prod.fst) : (mkP 2 (bkP A B C) zs).length ≤ A.length + B.length + C.length := by
  have e : mrg true true true (mrg true true true A B) C = zs := srt_unique (mrg_srt _ _ _ _ _ (mrg_srt _ _ _ _ _ hA hB) hC) h fun x => by
    rw [or_mem (mrg_srt _ _ _ _ _ hA hB) hC, or_mem hA hB, hm, bkP_mem, or_assoc]
  have h1 : (mkP 2 (bkP A B C) zs).length ≤ zs.length := by
    have := cmb_len 2 (fun x _ => x) (zs.map fun c => (c, atL 2 (bkP A B C).reverse c, atL 2 (bkP A B C).reverse c))
    rwa [List.length_map] at this
  have h2 := mrg_len true true true (mrg true true true A B) C
  have h3 := mrg_len true true true A B
  rw [e] at h2
  omega
theorem Bk.lvl' {A B C : List Int} {ps : List (Int × Int)} (h : Bk A B C ps) : LvL 2 ps := by
  refine ⟨by omega, fun p hp => ?_⟩
  have := atL_mem 2 h.can.1 hp
  rw [h.lv] at this
  rcases lvl_cases A B C p.1 with e | e | e | e <;> omega
theorem Bk.mem {A B C : List Int} {ps : List (Int × Int)} (h : Bk A B C ps) {c v : Int} (hv : v ≠ 2) : (c, v) ∈ ps ↔ lvl A B C c = v := by
  constructor
  · intro hp
    rw [← h.lv]
    exact atL_mem 2 h.can.1 hp
  · intro e
    rw [← h.lv] at e
    rcases atL_any 2 ps c with k | ⟨p, hp, h1, h2⟩
    · omega
    · have : p = (c, v) := by rw [← h1, ← e, h2]
      rwa [← this]
theorem Bk.stars {A B C : List Int} {ps : List (Int × Int)} (h : Bk A B C ps) {v : Int} (hv : v ≠ 2) (c : Int) : c ∈ starsL v ps ↔ lvl A B C c = v := by
  rw [← h.mem hv]
  unfold starsL
  rw [List.mem_map]
  constructor
  · rintro ⟨⟨a, b⟩, hp, rfl⟩
    obtain ⟨h1, h2⟩ := List.mem_filter.1 hp
    have : b = v := by simpa using h2
    rwa [this] at h1
  · exact fun hp => ⟨(c, v), List.mem_filter.2 ⟨hp, by simp⟩, rfl⟩
theorem lvl_zero {A B C : List Int} {c : Int} : lvl A B C c = 0 ↔ c ∈ C := by
  unfold lvl
  constructor
  · intro h
    by_cases k : c ∈ C
    · exact k
    · rw [if_neg k] at h
      split at h
      · omega
      · split at h <;> omega
  · intro h; rw [if_pos h]
theorem Bk.names {A B C : List Int} {ps : List (Int × Int)} (h : Bk A B C ps) : nameB 2 ps = true := by
  unfold nameB
  rw [decide_eq_true_eq]
  refine ⟨rfl, List.eq_nil_iff_forall_not_mem.2 fun c hc => ?_⟩
  have := (h.stars (by omega) c).1 hc
  rcases lvl_cases A B C c with e | e | e | e <;> omega
theorem Bk.starsB {A B C A' B' C' : List Int} {ps qs : List (Int × Int)} (h : Bk A B C ps) (k : Bk A' B' C' qs) : starB 2 ps (starsL 0 qs) = true ↔ ∀ c, c ∈ C' → c ∈ C := by
  unfold starB
  rw [List.all_eq_true]
  constructor
  · intro hs c hc
    have := hs c ((k.stars (by omega) c).2 (lvl_zero.2 hc))
    rw [decide_eq_true_eq, h.lv] at this
    exact lvl_zero.1 this
  · intro hs c hc
    rw [decide_eq_true_eq, h.lv]
    exact lvl_zero.2 (hs c (lvl_zero.1 ((k.stars (by omega) c).1 hc)))
theorem Bk.none {A B C : List Int} {ps : List (Int × Int)} (h : Bk A B C ps) : starsL 0 ps = [] ↔ C = [] := by
  rw [List.eq_nil_iff_forall_not_mem, List.eq_nil_iff_forall_not_mem]
  exact forall_congr' fun c => not_congr ((h.stars (by omega) c).trans lvl_zero)
/-- Which level it is, of sets apart. -/
theorem lvl_in1 {A B C : List Int} {c : Int} (h : MayP A B C) (hc : c ∈ A) : lvl A B C c = 4 := by
  unfold lvl
  rw [if_neg (h.2.1.2.1 c hc), if_neg (h.2.1.1 c hc), if_pos hc]
theorem lvl_in2 {A B C : List Int} {c : Int} (h : MayP A B C) (hc : c ∈ B) : lvl A B C c = 1 := by
  unfold lvl
  rw [if_neg (h.2.1.2.2 c hc), if_pos hc]
theorem lvl_out {A B C : List Int} {c : Int} (h1 : c ∉ A) (h2 : c ∉ B) (h3 : c ∉ C) : lvl A B C c = 2 := by
  unfold lvl
  rw [if_neg h3, if_neg h2, if_neg h1]
theorem Bk.flows {x y : Sv} {ps qs : List (Int × Int)} (h : Bk x.xs x.ys x.zs ps) (k : Bk y.xs y.ys y.zs qs) (hx : MayP x.xs x.ys x.zs) (hy : MayP y.xs y.ys y.zs) : FlL 2 ps 2 qs ↔ OwnsP x y ∧ TurnsP x y := by
  unfold FlL
  have e : (∀ c, atL 2 ps c ≤ atL 2 qs c) ↔ ∀ c, lvl x.xs x.ys x.zs c ≤ lvl y.xs y.ys y.zs c := forall_congr' fun c => by rw [h.lv, k.lv]
  rw [e]
  constructor
  · intro hf
    refine ⟨fun c hc => ?_, fun c hc => ?_, fun c hc => ?_⟩
    · have := hf c
      rw [lvl_zero.2 hc] at this
      refine (lvl_zero (A := x.xs) (B := x.ys)).1 ?_
      rcases lvl_cases x.xs x.ys x.zs c with e | e | e | e <;> omega
    · have := hf c
      rw [lvl_in1 hx hc] at this
      refine Classical.byContradiction fun hn => ?_
      unfold lvl at this
      split at this
      · omega
      · split at this
        · omega
        · omega
    · have := hf c
      rw [lvl_in2 hy hc] at this
      refine Classical.byContradiction fun hn => ?_
      rw [not_or] at hn
      unfold lvl at this
      rw [if_neg hn.2, if_neg hn.1] at this
      split at this <;> omega
  · rintro ⟨ho, ht1, ht2⟩ c
    by_cases h3 : c ∈ y.zs
    · rw [lvl_zero.2 h3, lvl_zero.2 (ho c h3)]; omega
    · by_cases h2 : c ∈ y.ys
      · rw [lvl_in2 hy h2]
        rcases ht2 c h2 with e | e
        · rw [lvl_in2 hx e]; omega
        · rw [lvl_zero.2 e]; omega
      · by_cases h1 : c ∈ y.xs
        · rw [lvl_in1 hy h1]
          rcases lvl_cases x.xs x.ys x.zs c with e | e | e | e <;> omega
        · rw [lvl_out h1 h2 h3]
          have : c ∉ x.xs := fun e => h1 (ht1 c e)
          unfold lvl
          rw [if_neg this]
          split
          · omega
          · split <;> omega
theorem Bk.sees {x y : Sv} {ps qs : List (Int × Int)} (h : Bk x.xs x.ys x.zs ps) (k : Bk y.xs y.ys y.zs qs) (hx : MayP x.xs x.ys x.zs) (hy : MayP y.xs y.ys y.zs) (h0 : y.zs = []) : FlL 2 qs (riseL 2) (riseP 2 ps) ↔ SeesP x y := by
  unfold FlL
  have e : (∀ c, atL 2 qs c ≤ atL (riseL 2) (riseP 2 ps) c) ↔ ∀ c, lvl y.xs y.ys y.zs c ≤ riseL (lvl x.xs x.ys x.zs c) := forall_congr' fun c => by rw [rise_at 2 h.can.1, h.lv, k.lv]
  rw [e]
  have r0 : riseL 0 = 5 := rfl
  have r1 : riseL 1 = 1 := rfl
  have r2 : riseL 2 = 2 := rfl
  have r4 : riseL 4 = 4 := rfl
  have hn : ∀ c, c ∉ y.zs := fun c hc => by rw [h0] at hc; simp at hc
  constructor
  · intro hf
    have first : ∀ c, c ∈ y.xs → c ∈ x.xs ∨ c ∈ x.zs := fun c hc => by
      have := hf c
      rw [lvl_in1 hy hc] at this
      refine Classical.byContradiction fun hno => ?_
      rw [not_or] at hno
      unfold lvl at this
      rw [if_neg hno.2, if_neg hno.1] at this
      split at this
      · rw [r1] at this; omega
      · rw [r2] at this; omega
    refine ⟨first, fun c hc => ?_⟩
    have := hf c
    rw [lvl_in2 hx hc, r1] at this
    refine Classical.byContradiction fun hno => ?_
    by_cases h1 : c ∈ y.xs
    · rcases first c h1 with e | e
      · exact hx.2.1.1 c e hc
      · exact hx.2.1.2.2 c hc e
    · rw [lvl_out h1 hno (hn c)] at this; omega
  · rintro ⟨hs1, hs2⟩ c
    by_cases h1 : c ∈ y.xs
    · rw [lvl_in1 hy h1]
      rcases hs1 c h1 with e | e
      · rw [lvl_in1 hx e, r4]; omega
      · rw [lvl_zero.2 e, r0]; omega
    · by_cases h2 : c ∈ y.ys
      · rw [lvl_in2 hy h2]
        rcases lvl_cases x.xs x.ys x.zs c with e | e | e | e <;> rw [e]
        · rw [r0]; omega
        · rw [r1]; omega
        · rw [r4]; omega
        · rw [r2]; omega
      · rw [lvl_out h1 h2 (hn c)]
        have : c ∉ x.ys := fun e => h2 (hs2 c e)
        unfold lvl
        rw [if_neg this]
        split
        · rw [r0]; omega
        · split
          · rw [r4]; omega
          · rw [r2]; omega
end Go.Proofs.Ytdoemkncgfgkhaa
