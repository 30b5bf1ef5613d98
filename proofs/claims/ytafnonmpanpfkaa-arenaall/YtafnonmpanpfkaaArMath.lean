/- Records by ids, in slots with generations: the plain side: which slots a list of refs finds ('Inv'), and what a put, a drop and a sweep make of it. -/
import Derived.Test.YtafnonmpanpfkaaRings
import Derived.Test.YtafnonmpanpfkaaNmOps
namespace Go.Proofs.Ytafnonmpanpfkaa
open Go.RowKit
set_option maxRecDepth 100000

/-- A slot: its generation, and its record's slice and bytes. -/
structure Slot where
  g : Nat
  a : Option Addr
  n : Nat
  c : Nat
  xs : List Int
def Slot.le (s : Slot) : Le := ⟨s.a, s.n, s.c, s.xs⟩
def slot0 (g : Nat) : Slot := ⟨g, none, 0, 0, []⟩
/-- A ref: an id, a place, a generation. -/
structure Rf where
  id : Int
  pl : Nat
  g : Nat
/-- Which record an id has. -/
abbrev Tx := Int → Option (List Int)
def upT (T : Tx) (i : Int) (v : Option (List Int)) : Tx := fun j => if j = i then v else T j
theorem upT_same (T : Tx) (i : Int) (v : Option (List Int)) : upT T i v i = v := if_pos rfl
theorem upT_other (T : Tx) {i j : Int} (v : Option (List Int)) (h : j ≠ i) : upT T i v j = T j := if_neg h
def upS (f : Nat → Slot) (i : Nat) (v : Slot) : Nat → Slot := fun j => if j = i then v else f j
theorem upS_same (f : Nat → Slot) (i : Nat) (v : Slot) : upS f i v i = v := if_pos rfl
theorem upS_other (f : Nat → Slot) {i j : Nat} (v : Slot) (h : j ≠ i) : upS f i v j = f j := if_neg h
/-- A record of version v. -/
def Rec (v : Int) (xs : List Int) : Prop := xs.head? = some v ∧ xs.length ≤ 65535

/-- What refs and free places say of L slots: T. -/
structure Inv (v : Int) (L : Nat) (fr : List Nat) (rf : List Rf) (Sl : Nat → Slot) (T : Tx) (N : Nat) : Prop where
  up : rf.Pairwise (fun r r' => r.id < r'.id)
  pl : ∀ r ∈ rf, r.pl < L ∧ r.g ≤ (Sl r.pl).g
  one : ∀ r ∈ rf, ∀ r' ∈ rf, r.g = (Sl r.pl).g → r'.g = (Sl r'.pl).g → r.pl = r'.pl → r = r'
  fre : ∀ x ∈ fr, x < L ∧ ∀ r ∈ rf, r.pl = x → r.g ≠ (Sl x).g
  nd : fr.Nodup
  top : ∀ x, L ≤ x → Sl x = slot0 0
  say : ∀ i xs, T i = some xs ↔ ∃ r ∈ rf, r.id = i ∧ r.g = (Sl r.pl).g ∧ (Sl r.pl).xs = xs
  good : ∀ i xs, T i = some xs → Rec v xs
  bnd : rf.length ≤ N ∧ L ≤ 32 * N ∧ fr.length ≤ 32 * N ∧ ∀ x, (Sl x).g ≤ N

theorem up_eq {rf : List Rf} (h : rf.Pairwise (fun r r' => r.id < r'.id)) {r r' : Rf} (hr : r ∈ rf) (hr' : r' ∈ rf) (e : r.id = r'.id) : r = r' := by
  induction rf with
  | nil => simp at hr
  | cons a l ih =>
    rw [List.pairwise_cons] at h
    simp only [List.mem_cons] at hr hr'
    rcases hr with rfl | hr <;> rcases hr' with rfl | hr'
    · rfl
    · have := h.1 _ hr'; omega
    · have := h.1 _ hr; omega
    · exact ih h.2 hr hr'

section
variable {v : Int} {L N : Nat} {fr : List Nat} {rf : List Rf} {Sl : Nat → Slot} {T : Tx}
theorem Inv.new (v : Int) (Sl : Nat → Slot) (h : ∀ x, Sl x = slot0 0) : Inv v 0 [] [] Sl (fun _ => none) 0 := by
  refine ⟨by simp, by simp, by simp, by simp, by simp, fun x _ => h x, by simp, by simp, by simp, by simp, by simp, fun x => by simp [h x, slot0]⟩
theorem Inv.has (h : Inv v L fr rf Sl T N) {r : Rf} (hr : r ∈ rf) (hl : r.g = (Sl r.pl).g) : T r.id = some (Sl r.pl).xs := (h.say _ _).2 ⟨r, hr, rfl, hl, rfl⟩
theorem Inv.no (h : Inv v L fr rf Sl T N) {r : Rf} (hr : r ∈ rf) (hl : r.g ≠ (Sl r.pl).g) : T r.id = none := by
  cases hT : T r.id with
  | none => rfl
  | some xs =>
    obtain ⟨r', hr', he, hl', _⟩ := (h.say _ _).1 hT
    obtain rfl := up_eq h.up hr' hr he
    exact absurd hl' hl
theorem Inv.none_of (h : Inv v L fr rf Sl T N) {i : Int} (hn : ∀ r ∈ rf, r.id ≠ i) : T i = none := by
  cases hT : T i with
  | none => rfl
  | some xs =>
    obtain ⟨r', hr', he, _⟩ := (h.say _ _).1 hT
    exact absurd he (hn r' hr')
theorem Inv.mono (h : Inv v L fr rf Sl T N) {M : Nat} (hm : N ≤ M) : Inv v L fr rf Sl T M :=
  ⟨h.up, h.pl, h.one, h.fre, h.nd, h.top, h.say, h.good, by have := h.bnd.1; omega, by have := h.bnd.2.1; omega, by have := h.bnd.2.2.1; omega, fun x => Nat.le_trans (h.bnd.2.2.2 x) hm⟩
/-- A record takes another one's place. -/
theorem Inv.put_old (h : Inv v L fr rf Sl T N) {r : Rf} (hr : r ∈ rf) (hl : r.g = (Sl r.pl).g) (s : Slot) (hs : s.g = (Sl r.pl).g) (hx : Rec v s.xs) : Inv v L fr rf (upS Sl r.pl s) (upT T r.id (some s.xs)) N := by
  have hg : ∀ x, (upS Sl r.pl s x).g = (Sl x).g := fun x => by
    by_cases e : x = r.pl
    · subst e; rw [upS_same, hs]
    · rw [upS_other _ _ e]
  refine ⟨h.up, fun r' hr' => by rw [hg]; exact h.pl r' hr', fun r1 h1 r2 h2 e1 e2 e3 => h.one r1 h1 r2 h2 (by rw [← hg]; exact e1) (by rw [← hg]; exact e2) e3, fun x hx' => ⟨(h.fre x hx').1, fun r' hr' e => by rw [hg]; exact (h.fre x hx').2 r' hr' e⟩, h.nd, fun x hx' => ?_, fun i xs => ?_, fun i xs hT => ?_, h.bnd.1, h.bnd.2.1, h.bnd.2.2.1, fun x => by rw [hg]; exact h.bnd.2.2.2 x⟩
  · rw [upS_other _ _ (by have := (h.pl r hr).1; omega)]
    exact h.top x hx'
  · by_cases e : i = r.id
    · subst e
      rw [upT_same]
      constructor
      · intro e
        exact ⟨r, hr, rfl, by rw [upS_same, hs]; exact hl, by rw [upS_same]; exact Option.some.inj e⟩
      · rintro ⟨r', hr', he, _, hx'⟩
        obtain rfl := up_eq h.up hr' hr he
        rw [upS_same] at hx'
        rw [hx']
    · rw [upT_other _ _ e, h.say]
      constructor
      · rintro ⟨r', hr', he, hl', hx'⟩
        have hne : r'.pl ≠ r.pl := fun c => e (by rw [← he, h.one r' hr' r hr hl' hl c])
        exact ⟨r', hr', he, by rw [hg]; exact hl', by rw [upS_other _ _ hne]; exact hx'⟩
      · rintro ⟨r', hr', he, hl', hx'⟩
        rw [hg] at hl'
        have hne : r'.pl ≠ r.pl := fun c => e (by rw [← he, h.one r' hr' r hr hl' hl c])
        rw [upS_other _ _ hne] at hx'
        exact ⟨r', hr', he, hl', hx'⟩
  · by_cases e : i = r.id
    · subst e
      rw [upT_same] at hT
      rw [← Option.some.inj hT]
      exact hx
    · rw [upT_other _ _ e] at hT
      exact h.good i xs hT
/-- A record of an id that had none: in a place that no ref finds. -/
theorem Inv.put_new (h : Inv v L fr rf Sl T N) {ys : List Nat} {x : Nat} (hfr : ∀ y, y ∈ fr ↔ y ∈ ys ∨ y = x) (hnd : ys.Nodup) (hnx : x ∉ ys) {i : Int} (hi : T i = none)
    {rf' : List Rf} (hup : rf'.Pairwise (fun r r' => r.id < r'.id)) (hrf : ∀ r, r ∈ rf' ↔ r = ⟨i, x, (Sl x).g⟩ ∨ (r ∈ rf ∧ r.id ≠ i)) (hlen : rf'.length ≤ rf.length + 1) (hys : ys.length ≤ 32 * (N + 1))
    (s : Slot) (hs : s.g = (Sl x).g) (hx : Rec v s.xs) : Inv v L ys rf' (upS Sl x s) (upT T i (some s.xs)) (N + 1) := by
  have hg : ∀ y, (upS Sl x s y).g = (Sl y).g := fun y => by
    by_cases e : y = x
    · subst e; rw [upS_same, hs]
    · rw [upS_other _ _ e]
  have hxf := h.fre x ((hfr x).2 (.inr rfl))
  refine ⟨hup, fun r hr => ?_, fun r1 h1 r2 h2 e1 e2 e3 => ?_, fun y hy => ?_, hnd, fun y hy => ?_, fun j xs => ?_, fun j xs hT => ?_, by have := h.bnd.1; omega, by have := h.bnd.2.1; omega, hys, fun y => by rw [hg]; have := h.bnd.2.2.2 y; omega⟩
  · rw [hg]
    rcases (hrf r).1 hr with rfl | ⟨hr, _⟩
    · exact ⟨hxf.1, Nat.le_refl _⟩
    · exact h.pl r hr
  · rw [hg] at e1 e2
    rcases (hrf r1).1 h1 with rfl | ⟨h1, _⟩ <;> rcases (hrf r2).1 h2 with rfl | ⟨h2, _⟩
    · rfl
    · exact absurd e2 (by have := hxf.2 r2 h2 e3.symm; rw [e3.symm]; exact this)
    · exact absurd e1 (by have := hxf.2 r1 h1 e3; rw [e3]; exact this)
    · exact h.one r1 h1 r2 h2 e1 e2 e3
  · have hyf := h.fre y ((hfr y).2 (.inl hy))
    refine ⟨hyf.1, fun r hr e => ?_⟩
    rw [hg]
    rcases (hrf r).1 hr with rfl | ⟨hr, _⟩
    · exact absurd hy (by rw [← e]; exact hnx)
    · exact hyf.2 r hr e
  · rw [upS_other _ _ (by omega)]
    exact h.top y hy
  · by_cases e : j = i
    · subst e
      rw [upT_same]
      constructor
      · intro e
        exact ⟨⟨j, x, (Sl x).g⟩, (hrf _).2 (.inl rfl), rfl, by rw [hg], by rw [upS_same]; exact Option.some.inj e⟩
      · rintro ⟨r', hr', he, _, hx'⟩
        rcases (hrf r').1 hr' with rfl | ⟨_, hn⟩
        · rw [upS_same] at hx'
          rw [hx']
        · exact absurd he hn
    · rw [upT_other _ _ e, h.say]
      constructor
      · rintro ⟨r', hr', he, hl', hx'⟩
        have hne : r'.pl ≠ x := fun c => absurd hl' (by rw [c]; exact hxf.2 r' hr' c)
        exact ⟨r', (hrf r').2 (.inr ⟨hr', by omega⟩), he, by rw [hg]; exact hl', by rw [upS_other _ _ hne]; exact hx'⟩
      · rintro ⟨r', hr', he, hl', hx'⟩
        rw [hg] at hl'
        rcases (hrf r').1 hr' with rfl | ⟨hr', _⟩
        · exact absurd he.symm e
        · have hne : r'.pl ≠ x := fun c => absurd hl' (by rw [c]; exact hxf.2 r' hr' c)
          rw [upS_other _ _ hne] at hx'
          exact ⟨r', hr', he, hl', hx'⟩
  · by_cases e : j = i
    · subst e
      rw [upT_same] at hT
      rw [← Option.some.inj hT]
      exact hx
    · rw [upT_other _ _ e] at hT
      exact h.good j xs hT
/-- 32 slots more, all of them free. -/
theorem Inv.grow (h : Inv v L [] rf Sl T N) (fr : List Nat) (hnd : fr.Nodup) (hfr : ∀ x ∈ fr, L ≤ x ∧ x < L + 32) (hlen : fr.length ≤ 32) : Inv v (L + 32) fr rf Sl T (N + 1) :=
  ⟨h.up, fun r hr => ⟨by have := (h.pl r hr).1; omega, (h.pl r hr).2⟩, h.one, fun x hx => ⟨(hfr x hx).2, fun r hr e => by have := (h.pl r hr).1; have := (hfr x hx).1; omega⟩, hnd, fun x hx => h.top x (by omega), h.say, h.good, by have := h.bnd.1; omega, by have := h.bnd.2.1; omega, by omega, fun x => by have := h.bnd.2.2.2 x; omega⟩
/-- A record goes. -/
theorem Inv.drop (h : Inv v L fr rf Sl T N) {r : Rf} (hr : r ∈ rf) (hl : r.g = (Sl r.pl).g) : Inv v L (fr ++ [r.pl]) rf (upS Sl r.pl (slot0 (r.g + 1))) (upT T r.id none) (N + 1) := by
  have hg : ∀ x, (Sl x).g ≤ (upS Sl r.pl (slot0 (r.g + 1)) x).g := fun x => by
    by_cases e : x = r.pl
    · subst e; rw [upS_same]; simp [slot0]; omega
    · rw [upS_other _ _ e]; exact Nat.le_refl _
  have hne : ∀ r' ∈ rf, r'.g = (upS Sl r.pl (slot0 (r.g + 1)) r'.pl).g → r'.pl ≠ r.pl := fun r' hr' e c => by
    rw [c, upS_same] at e
    have := (h.pl r' hr').2
    rw [c] at this
    simp [slot0] at e
    omega
  have hfn : r.pl ∉ fr := fun c => (h.fre _ c).2 r hr rfl hl
  refine ⟨h.up, fun r' hr' => ⟨(h.pl r' hr').1, Nat.le_trans (h.pl r' hr').2 (hg _)⟩, fun r1 h1 r2 h2 e1 e2 e3 => ?_, fun x hx => ?_, ?_, fun x hx => ?_, fun i xs => ?_, fun i xs hT => ?_, by have := h.bnd.1; omega, by have := h.bnd.2.1; omega, by have := h.bnd.2.2.1; simp; omega, fun x => ?_⟩
  · have n1 := hne r1 h1 e1
    have n2 := hne r2 h2 e2
    rw [upS_other _ _ n1] at e1
    rw [upS_other _ _ n2] at e2
    exact h.one r1 h1 r2 h2 e1 e2 e3
  · by_cases e : x = r.pl
    · subst e
      exact ⟨(h.pl r hr).1, fun r' hr' e c => hne r' hr' (by rw [e]; exact c) e⟩
    · have hx' : x ∈ fr := by simpa [e] using hx
      rw [upS_other _ _ e]
      exact h.fre x hx'
  · rw [List.nodup_append]
    exact ⟨h.nd, by simp, fun a ha b hb => by simp at hb; subst hb; exact fun c => hfn (c ▸ ha)⟩
  · rw [upS_other _ _ (by have := (h.pl r hr).1; omega)]
    exact h.top x hx
  · by_cases e : i = r.id
    · subst e
      rw [upT_same]
      constructor
      · intro e; simp at e
      · rintro ⟨r', hr', he, hl', _⟩
        obtain rfl := up_eq h.up hr' hr he
        exact absurd rfl (hne _ hr' hl')
    · rw [upT_other _ _ e, h.say]
      constructor
      · rintro ⟨r', hr', he, hl', hx'⟩
        have hn : r'.pl ≠ r.pl := fun c => e (by rw [← he, h.one r' hr' r hr hl' hl c])
        exact ⟨r', hr', he, by rw [upS_other _ _ hn]; exact hl', by rw [upS_other _ _ hn]; exact hx'⟩
      · rintro ⟨r', hr', he, hl', hx'⟩
        have hn := hne r' hr' hl'
        rw [upS_other _ _ hn] at hl' hx'
        exact ⟨r', hr', he, hl', hx'⟩
  · by_cases e : i = r.id
    · subst e; rw [upT_same] at hT; cases hT
    · rw [upT_other _ _ e] at hT
      exact h.good i xs hT
  · by_cases e : x = r.pl
    · subst e; rw [upS_same]; have := h.bnd.2.2.2 r.pl; simp [slot0]; omega
    · rw [upS_other _ _ e]; have := h.bnd.2.2.2 x; omega
def live (Sl : Nat → Slot) (r : Rf) : Bool := (Sl r.pl).g == r.g
theorem live_iff (Sl : Nat → Slot) (r : Rf) : live Sl r = true ↔ r.g = (Sl r.pl).g := by simp [live]; exact ⟨Eq.symm, Eq.symm⟩
/-- The refs that find nothing are left out. -/
theorem Inv.sweep (h : Inv v L fr rf Sl T N) : Inv v L fr (rf.filter (live Sl)) Sl T N := by
  have hm : ∀ r, r ∈ rf.filter (live Sl) ↔ r ∈ rf ∧ r.g = (Sl r.pl).g := fun r => by rw [List.mem_filter, live_iff]
  refine ⟨h.up.filter _, fun r hr => h.pl r ((hm r).1 hr).1, fun r1 h1 r2 h2 => h.one r1 ((hm _).1 h1).1 r2 ((hm _).1 h2).1, fun x hx => ⟨(h.fre x hx).1, fun r hr => (h.fre x hx).2 r ((hm r).1 hr).1⟩, h.nd, h.top, fun i xs => ?_, h.good, Nat.le_trans (List.length_filter_le _ _) h.bnd.1, h.bnd.2⟩
  rw [h.say]
  exact ⟨fun ⟨r, h1, h2, h3, h4⟩ => ⟨r, (hm r).2 ⟨h1, h3⟩, h2, h3, h4⟩, fun ⟨r, h1, h2, h3, h4⟩ => ⟨r, ((hm r).1 h1).1, h2, h3, h4⟩⟩
end
/-- The list of what T says, rising. -/
structure Lst (T : Tx) (ls : List (Int × List Int)) : Prop where
  up : ls.Pairwise (fun p q => p.1 < q.1)
  mem : ∀ i xs, (i, xs) ∈ ls ↔ T i = some xs
theorem sorted_eq {ls ms : List (Int × List Int)} (h : ls.Pairwise (fun p q => p.1 < q.1)) (k : ms.Pairwise (fun p q => p.1 < q.1)) (e : ∀ p, p ∈ ls ↔ p ∈ ms) : ls = ms := by
  induction ls generalizing ms with
  | nil =>
    cases ms with
    | nil => rfl
    | cons q ms => exact absurd ((e q).2 (by simp)) (by simp)
  | cons p ls ih =>
    cases ms with
    | nil => exact absurd ((e p).1 (by simp)) (by simp)
    | cons q ms =>
      rw [List.pairwise_cons] at h k
      have hpq : p = q := by
        have h1 := (e p).1 (by simp)
        have h2 := (e q).2 (by simp)
        simp only [List.mem_cons] at h1 h2
        rcases h1 with h1 | h1
        · exact h1
        · rcases h2 with h2 | h2
          · exact h2.symm
          · have := h.1 _ h2; have := k.1 _ h1; omega
      subst hpq
      rw [ih h.2 k.2 fun r => ?_]
      constructor
      · intro hr
        have := (e r).1 (by simp [hr])
        simp only [List.mem_cons] at this
        rcases this with rfl | h'
        · have := h.1 _ hr; omega
        · exact h'
      · intro hr
        have := (e r).2 (by simp [hr])
        simp only [List.mem_cons] at this
        rcases this with rfl | h'
        · have := k.1 _ hr; omega
        · exact h'
theorem Lst.eq {T : Tx} {ls ms : List (Int × List Int)} (h : Lst T ls) (k : Lst T ms) : ls = ms :=
  sorted_eq h.up k.up fun p => by rw [h.mem p.1 p.2, k.mem p.1 p.2]
/-- What the live refs say. -/
def says (Sl : Nat → Slot) (rf : List Rf) : List (Int × List Int) := (rf.filter (live Sl)).map fun r => (r.id, (Sl r.pl).xs)
theorem Inv.lst {v : Int} {L N : Nat} {fr : List Nat} {rf : List Rf} {Sl : Nat → Slot} {T : Tx} (h : Inv v L fr rf Sl T N) : Lst T (says Sl rf) := by
  refine ⟨?_, fun i xs => ?_⟩
  · unfold says
    rw [List.pairwise_map]
    exact h.up.filter _
  · rw [h.say]
    simp only [says, List.mem_map, List.mem_filter, live_iff, Prod.mk.injEq]
    exact ⟨fun ⟨r, ⟨h1, h2⟩, h3, h4⟩ => ⟨r, h1, h3, h2, h4⟩, fun ⟨r, h1, h2, h3, h4⟩ => ⟨r, ⟨h1, h3⟩, h2, h4⟩⟩
end Go.Proofs.Ytafnonmpanpfkaa
