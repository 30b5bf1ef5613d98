/- Labels of levels, plainly: pairs of a category and a level; the level of a category; what makes a label the only one that says so; what going through two labels at once comes to. No Go in sight. -/
import Derived.Test.YtkmpmljohjelhaaJBase
namespace Go.Proofs.Ytkmpmljohjelhaa
set_option maxRecDepth 100000

/-- A pair lies in two cells. -/
def PE : Enc (Int × Int) where
  k := 2
  pos := by decide
  cells p := [.int .u16 p.1, .int .u8 p.2]
  len _ := rfl
  one := by intro x u hu; simp at hu; rcases hu with rfl | rfl <;> rfl
  ok p := (0 ≤ p.1 ∧ p.1 < 65536) ∧ 0 ≤ p.2 ∧ p.2 < 256
/-- A row of two labels' levels lies in three cells. -/
def RE : Enc (Int × Int × Int) where
  k := 3
  pos := by decide
  cells p := [.int .u16 p.1, .int .u8 p.2.1, .int .u8 p.2.2]
  len _ := rfl
  one := by intro x u hu; simp at hu; rcases hu with rfl | rfl | rfl <;> rfl
  ok p := (0 ≤ p.1 ∧ p.1 < 65536) ∧ (0 ≤ p.2.1 ∧ p.2.1 < 256) ∧ 0 ≤ p.2.2 ∧ p.2.2 < 256

theorem RowG.pair {w : World} {b off n cap : Nat} {xs : List (Int × Int)} (h : RowG PE w (some ⟨b, off, none⟩) n cap xs) {i : Nat} {x y : Int} (hx : xs[i]? = some (x, y)) :
    w.cell? ⟨b, off + i * 2, none⟩ = some (.int .u16 x) ∧ w.cell? ⟨b, off + i * 2 + 1, none⟩ = some (.int .u8 y) :=
  ⟨h.cells i _ hx 0 _ rfl, h.cells i _ hx 1 _ rfl⟩
theorem RowG.pair0 {w : World} {b off n cap : Nat} {xs : List (Int × Int)} (h : RowG PE w (some ⟨b, off, none⟩) n cap xs) {x y : Int} (hx : xs[0]? = some (x, y)) :
    w.cell? ⟨b, off, none⟩ = some (.int .u16 x) ∧ w.cell? ⟨b, off + 1, none⟩ = some (.int .u8 y) := by
  have := h.pair hx
  simpa using this
theorem RowG.three {w : World} {b off n cap : Nat} {xs : List (Int × Int × Int)} (h : RowG RE w (some ⟨b, off, none⟩) n cap xs) {i : Nat} {x y z : Int} (hx : xs[i]? = some (x, y, z)) :
    w.cell? ⟨b, off + i * 3, none⟩ = some (.int .u16 x) ∧ w.cell? ⟨b, off + i * 3 + 1, none⟩ = some (.int .u8 y) ∧ w.cell? ⟨b, off + i * 3 + 2, none⟩ = some (.int .u8 z) :=
  ⟨h.cells i _ hx 0 _ rfl, h.cells i _ hx 1 _ rfl, h.cells i _ hx 2 _ rfl⟩
theorem RowG.get2 {w : World} {a : Option Addr} {n cap : Nat} {xs : List (Int × Int)} (h : RowG PE w a n cap xs) (i : Nat) (hi : i < n) : ∃ x y, xs[i]? = some (x, y) ∧ ((0 ≤ x ∧ x < 65536) ∧ 0 ≤ y ∧ y < 256) := by
  obtain ⟨⟨x, y⟩, hx⟩ := h.get i hi
  exact ⟨x, y, hx, h.ok.get hx⟩
theorem RowG.get3 {w : World} {a : Option Addr} {n cap : Nat} {xs : List (Int × Int × Int)} (h : RowG RE w a n cap xs) (i : Nat) (hi : i < n) : ∃ x y z, xs[i]? = some (x, y, z) ∧ ((0 ≤ x ∧ x < 65536) ∧ (0 ≤ y ∧ y < 256) ∧ 0 ≤ z ∧ z < 256) := by
  obtain ⟨⟨x, y, z⟩, hx⟩ := h.get i hi
  exact ⟨x, y, z, hx, h.ok.get hx⟩

/-- The level of a category. -/
def atL (d : Int) : List (Int × Int) → Int → Int
  | [], _ => d
  | p :: ps, c => if p.1 = c then p.2 else atL d ps c
/-- Categories rise. -/
def UpL (ps : List (Int × Int)) : Prop := ps.Pairwise fun p q => p.1 < q.1
/-- Pairs rise, none of the Default. -/
def CanL (d : Int) (ps : List (Int × Int)) : Prop := UpL ps ∧ ∀ p ∈ ps, p.2 ≠ d
/-- Levels to High. -/
def LvL (d : Int) (ps : List (Int × Int)) : Prop := (0 ≤ d ∧ d ≤ 5) ∧ ∀ p ∈ ps, 0 ≤ p.2 ∧ p.2 ≤ 5

theorem atL_cons (d : Int) (p : Int × Int) (ps : List (Int × Int)) (c : Int) : atL d (p :: ps) c = if p.1 = c then p.2 else atL d ps c := rfl
theorem atL_off (d : Int) (ps : List (Int × Int)) (c : Int) (h : ∀ p ∈ ps, p.1 ≠ c) : atL d ps c = d := by
  induction ps with
  | nil => rfl
  | cons p ps ih => rw [atL, if_neg (h p (by simp))]; exact ih fun q hq => h q (by simp [hq])
theorem atL_mem (d : Int) {ps : List (Int × Int)} (hu : UpL ps) {p : Int × Int} (hp : p ∈ ps) : atL d ps p.1 = p.2 := by
  induction ps with
  | nil => simp at hp
  | cons q ps ih =>
    rcases List.mem_cons.1 hp with rfl | hp
    · simp [atL]
    · have h1 := (List.pairwise_cons.1 hu).1 p hp
      rw [atL, if_neg (by omega)]
      exact ih (List.pairwise_cons.1 hu).2 hp
theorem atL_any (d : Int) (ps : List (Int × Int)) (c : Int) : atL d ps c = d ∨ ∃ p ∈ ps, p.1 = c ∧ atL d ps c = p.2 := by
  induction ps with
  | nil => exact .inl rfl
  | cons p ps ih =>
    by_cases h : p.1 = c
    · exact .inr ⟨p, by simp, h, by rw [atL, if_pos h]⟩
    · rw [atL, if_neg h]
      rcases ih with h1 | ⟨q, hq, h1, h2⟩
      · exact .inl h1
      · exact .inr ⟨q, by simp [hq], h1, h2⟩
theorem atL_lv {d : Int} {ps : List (Int × Int)} (h : LvL d ps) (c : Int) : 0 ≤ atL d ps c ∧ atL d ps c ≤ 5 := by
  rcases atL_any d ps c with e | ⟨p, hp, _, e⟩
  · rw [e]; exact h.1
  · rw [e]; exact h.2 p hp
theorem atL_none {d : Int} {ps : List (Int × Int)} (h : ∀ p ∈ ps, 0 ≤ p.1) : atL d ps (-1) = d := atL_off d ps _ fun p hp => by have := h p hp; omega
theorem UpL.tail {p : Int × Int} {ps : List (Int × Int)} (h : UpL (p :: ps)) : UpL ps := (List.pairwise_cons.1 h).2
theorem UpL.head {p : Int × Int} {ps : List (Int × Int)} (h : UpL (p :: ps)) : ∀ q ∈ ps, p.1 < q.1 := (List.pairwise_cons.1 h).1
theorem CanL.nil (d : Int) : CanL d [] := ⟨List.Pairwise.nil, fun _ h => by simp at h⟩
theorem CanL.tail {d : Int} {p : Int × Int} {ps : List (Int × Int)} (h : CanL d (p :: ps)) : CanL d ps := ⟨h.1.tail, fun q hq => h.2 q (by simp [hq])⟩

/-- Two labels that say the same of all categories are one. -/
theorem can_ext {d : Int} : ∀ {xs ys : List (Int × Int)}, CanL d xs → CanL d ys → (∀ c, atL d xs c = atL d ys c) → xs = ys
  | [], [], _, _, _ => rfl
  | [], y :: ys, _, h2, h => by have := h y.1; rw [atL_mem d h2.1 (by simp : y ∈ y :: ys)] at this; exact absurd this.symm (h2.2 y (by simp))
  | x :: xs, [], h1, _, h => by have := h x.1; rw [atL_mem d h1.1 (by simp : x ∈ x :: xs)] at this; exact absurd this (h1.2 x (by simp))
  | x :: xs, y :: ys, h1, h2, h => by
    have hxy : x.1 = y.1 := by
      by_cases a : x.1 < y.1
      · have := h x.1
        rw [atL_mem d h1.1 (by simp : x ∈ x :: xs), atL_off d (y :: ys) x.1 (by intro q hq; rcases List.mem_cons.1 hq with rfl | hq; · omega
                                                                                · have := h2.1.head q hq; omega)] at this
        exact absurd this (h1.2 x (by simp))
      · by_cases b : y.1 < x.1
        · have := h y.1
          rw [atL_mem d h2.1 (by simp : y ∈ y :: ys), atL_off d (x :: xs) y.1 (by intro q hq; rcases List.mem_cons.1 hq with rfl | hq; · omega
                                                                                  · have := h1.1.head q hq; omega)] at this
          exact absurd this.symm (h2.2 y (by simp))
        · omega
    have hv : x.2 = y.2 := by
      have := h x.1
      rw [atL_mem d h1.1 (by simp : x ∈ x :: xs)] at this
      rw [this, hxy, atL_mem d h2.1 (by simp : y ∈ y :: ys)]
    have e : x = y := Prod.ext hxy hv
    subst e
    congr 1
    refine can_ext h1.tail h2.tail fun c => ?_
    by_cases hc : x.1 = c
    · rw [atL_off d xs c (fun q hq => by have := h1.1.head q hq; omega), atL_off d ys c (fun q hq => by have := h2.1.head q hq; omega)]
    · have := h c
      rwa [atL, if_neg hc, atL, if_neg hc] at this

/-- Going through two labels at once. -/
def mg (d e : Int) : List (Int × Int) → List (Int × Int) → List (Int × Int × Int)
  | [], [] => []
  | p :: ps, [] => (p.1, p.2, e) :: mg d e ps []
  | [], q :: qs => (q.1, d, q.2) :: mg d e [] qs
  | p :: ps, q :: qs => if p.1 < q.1 then (p.1, p.2, e) :: mg d e ps (q :: qs) else if q.1 < p.1 then (q.1, d, q.2) :: mg d e (p :: ps) qs else (p.1, p.2, q.2) :: mg d e ps qs

/-- What f makes of the levels of a category's row. -/
def atR (D : Int) (f : Int → Int → Int) : List (Int × Int × Int) → Int → Int
  | [], _ => D
  | r :: rs, c => if r.1 = c then f r.2.1 r.2.2 else atR D f rs c
def UpR (rs : List (Int × Int × Int)) : Prop := rs.Pairwise fun p q => p.1 < q.1
/-- The pairs that f makes of rows: none of D. -/
def cmb (D : Int) (f : Int → Int → Int) : List (Int × Int × Int) → List (Int × Int)
  | [] => []
  | r :: rs => if f r.2.1 r.2.2 = D then cmb D f rs else (r.1, f r.2.1 r.2.2) :: cmb D f rs

theorem mg_len (d e : Int) (xs ys : List (Int × Int)) : (mg d e xs ys).length ≤ xs.length + ys.length := by
  fun_induction mg d e xs ys <;> simp_all <;> omega
theorem mg_cats (d e : Int) (xs ys : List (Int × Int)) : ∀ r ∈ mg d e xs ys, (∃ p ∈ xs, p.1 = r.1) ∨ ∃ p ∈ ys, p.1 = r.1 := by
  fun_induction mg d e xs ys with
  | case1 => simp
  | case2 p ps ih =>
    intro r hr
    rcases List.mem_cons.1 hr with rfl | hr
    · exact .inl ⟨p, by simp, rfl⟩
    · rcases ih r hr with ⟨q, hq, e⟩ | ⟨q, hq, e⟩
      · exact .inl ⟨q, by simp [hq], e⟩
      · simp at hq
  | case3 q qs ih =>
    intro r hr
    rcases List.mem_cons.1 hr with rfl | hr
    · exact .inr ⟨q, by simp, rfl⟩
    · rcases ih r hr with ⟨q', hq, e⟩ | ⟨q', hq, e⟩
      · simp at hq
      · exact .inr ⟨q', by simp [hq], e⟩
  | case4 p ps q qs h ih =>
    intro r hr
    rcases List.mem_cons.1 hr with rfl | hr
    · exact .inl ⟨p, by simp, rfl⟩
    · rcases ih r hr with ⟨q', hq, e⟩ | ⟨q', hq, e⟩
      · exact .inl ⟨q', by simp [hq], e⟩
      · exact .inr ⟨q', hq, e⟩
  | case5 p ps q qs h h' ih =>
    intro r hr
    rcases List.mem_cons.1 hr with rfl | hr
    · exact .inr ⟨q, by simp, rfl⟩
    · rcases ih r hr with ⟨q', hq, e⟩ | ⟨q', hq, e⟩
      · exact .inl ⟨q', hq, e⟩
      · exact .inr ⟨q', by simp [hq], e⟩
  | case6 p ps q qs h h' ih =>
    intro r hr
    rcases List.mem_cons.1 hr with rfl | hr
    · exact .inl ⟨p, by simp, rfl⟩
    · rcases ih r hr with ⟨q', hq, e⟩ | ⟨q', hq, e⟩
      · exact .inl ⟨q', by simp [hq], e⟩
      · exact .inr ⟨q', by simp [hq], e⟩
theorem mg_up (d e : Int) (xs ys : List (Int × Int)) (hx : UpL xs) (hy : UpL ys) : UpR (mg d e xs ys) := by
  fun_induction mg d e xs ys with
  | case1 => exact List.Pairwise.nil
  | case2 p ps ih =>
    refine List.pairwise_cons.2 ⟨fun r hr => ?_, ih hx.tail hy⟩
    rcases mg_cats _ _ _ _ r hr with ⟨q, hq, e⟩ | ⟨q, hq, e⟩
    · have := hx.head q hq; simp only; omega
    · simp at hq
  | case3 q qs ih =>
    refine List.pairwise_cons.2 ⟨fun r hr => ?_, ih hx hy.tail⟩
    rcases mg_cats _ _ _ _ r hr with ⟨q', hq, e⟩ | ⟨q', hq, e⟩
    · simp at hq
    · have := hy.head q' hq; simp only; omega
  | case4 p ps q qs h ih =>
    refine List.pairwise_cons.2 ⟨fun r hr => ?_, ih hx.tail hy⟩
    rcases mg_cats _ _ _ _ r hr with ⟨q', hq, e⟩ | ⟨q', hq, e⟩
    · have := hx.head q' hq; simp only; omega
    · rcases List.mem_cons.1 hq with rfl | hq
      · simp only; omega
      · have := hy.head q' hq; simp only; omega
  | case5 p ps q qs h h' ih =>
    refine List.pairwise_cons.2 ⟨fun r hr => ?_, ih hx hy.tail⟩
    rcases mg_cats _ _ _ _ r hr with ⟨q', hq, e⟩ | ⟨q', hq, e⟩
    · rcases List.mem_cons.1 hq with rfl | hq
      · simp only; omega
      · have := hx.head q' hq; simp only; omega
    · have := hy.head q' hq; simp only; omega
  | case6 p ps q qs h h' ih =>
    refine List.pairwise_cons.2 ⟨fun r hr => ?_, ih hx.tail hy.tail⟩
    rcases mg_cats _ _ _ _ r hr with ⟨q', hq, e⟩ | ⟨q', hq, e⟩
    · have := hx.head q' hq; simp only; omega
    · have := hy.head q' hq; simp only; omega
theorem mg_at (d e : Int) (f : Int → Int → Int) (xs ys : List (Int × Int)) (hx : UpL xs) (hy : UpL ys) (c : Int) : atR (f d e) f (mg d e xs ys) c = f (atL d xs c) (atL e ys c) := by
  fun_induction mg d e xs ys with
  | case1 => rfl
  | case2 p ps ih =>
    rw [atR, ih hx.tail hy, atL_cons d p ps c]
    by_cases h : p.1 = c
    · rw [if_pos h, if_pos h]; rfl
    · rw [if_neg h, if_neg h]
  | case3 q qs ih =>
    rw [atR, atL, ih hx hy.tail]
    by_cases h : q.1 = c
    · simp [h, atL]
    · simp [h, atL]
  | case4 p ps q qs h ih =>
    rw [atR, ih hx.tail hy]
    by_cases hc : p.1 = c
    · rw [if_pos hc, atL, if_pos hc, atL_off e (q :: qs) c (fun q' hq => by rcases List.mem_cons.1 hq with rfl | hq; · omega
                                                                            · have := hy.head q' hq; omega)]
    · rw [if_neg hc, atL_cons d p ps c, if_neg hc]
  | case5 p ps q qs h h' ih =>
    rw [atR, ih hx hy.tail]
    by_cases hc : q.1 = c
    · rw [if_pos hc, atL_off d (p :: ps) c (fun q' hq => by rcases List.mem_cons.1 hq with rfl | hq; · omega
                                                            · have := hx.head q' hq; omega), atL, if_pos hc]
    · rw [if_neg hc, show atL e (q :: qs) c = atL e qs c by rw [atL, if_neg hc]]
  | case6 p ps q qs h h' ih =>
    have hpq : p.1 = q.1 := by omega
    rw [atR, ih hx.tail hy.tail, atL, atL, ← hpq]
    by_cases hc : p.1 = c
    · rw [if_pos hc, if_pos hc, if_pos hc]
    · rw [if_neg hc, if_neg hc, if_neg hc]

theorem atR_off (D : Int) (f : Int → Int → Int) (rs : List (Int × Int × Int)) (c : Int) (h : ∀ r ∈ rs, r.1 ≠ c) : atR D f rs c = D := by
  induction rs with
  | nil => rfl
  | cons r rs ih => rw [atR, if_neg (h r (by simp))]; exact ih fun q hq => h q (by simp [hq])
theorem cmb_cats (D : Int) (f : Int → Int → Int) (rs : List (Int × Int × Int)) : ∀ p ∈ cmb D f rs, p.2 ≠ D ∧ ∃ r ∈ rs, p = (r.1, f r.2.1 r.2.2) := by
  induction rs with
  | nil => simp [cmb]
  | cons r rs ih =>
    intro p hp
    rw [cmb] at hp
    split at hp
    · obtain ⟨h1, q, hq, e⟩ := ih p hp
      exact ⟨h1, q, by simp [hq], e⟩
    · rcases List.mem_cons.1 hp with rfl | hp
      · exact ⟨by assumption, r, by simp, rfl⟩
      · obtain ⟨h1, q, hq, e⟩ := ih p hp
        exact ⟨h1, q, by simp [hq], e⟩
theorem cmb_can (D : Int) (f : Int → Int → Int) (rs : List (Int × Int × Int)) (h : UpR rs) : CanL D (cmb D f rs) := by
  refine ⟨?_, fun p hp => (cmb_cats D f rs p hp).1⟩
  induction rs with
  | nil => exact List.Pairwise.nil
  | cons r rs ih =>
    rw [cmb]
    split
    · exact ih (List.pairwise_cons.1 h).2
    · refine List.pairwise_cons.2 ⟨fun p hp => ?_, ih (List.pairwise_cons.1 h).2⟩
      obtain ⟨_, q, hq, rfl⟩ := cmb_cats D f rs p hp
      exact (List.pairwise_cons.1 h).1 q hq
theorem cmb_at (D : Int) (f : Int → Int → Int) (rs : List (Int × Int × Int)) (h : UpR rs) (c : Int) : atL D (cmb D f rs) c = atR D f rs c := by
  induction rs with
  | nil => rfl
  | cons r rs ih =>
    have h1 := List.pairwise_cons.1 h
    rw [cmb, atR]
    split
    · rename_i hD
      rw [ih h1.2]
      by_cases hc : r.1 = c
      · rw [if_pos hc, hD, atR_off D f rs c (fun q hq => by have := h1.1 q hq; omega)]
      · rw [if_neg hc]
    · rw [atL]
      by_cases hc : r.1 = c
      · rw [if_pos hc, if_pos hc]
      · rw [if_neg hc, if_neg hc, ih h1.2]
theorem cmb_len (D : Int) (f : Int → Int → Int) (rs : List (Int × Int × Int)) : (cmb D f rs).length ≤ rs.length := by
  induction rs with
  | nil => simp [cmb]
  | cons r rs ih => rw [cmb]; split <;> simp <;> omega

/-- What two labels come to, level by level. -/
def comb (f : Int → Int → Int) (d e : Int) (xs ys : List (Int × Int)) : List (Int × Int) := cmb (f d e) f (mg d e xs ys)
theorem comb_can (f : Int → Int → Int) (d e : Int) {xs ys : List (Int × Int)} (hx : UpL xs) (hy : UpL ys) : CanL (f d e) (comb f d e xs ys) := cmb_can _ _ _ (mg_up d e xs ys hx hy)
theorem comb_at (f : Int → Int → Int) (d e : Int) {xs ys : List (Int × Int)} (hx : UpL xs) (hy : UpL ys) (c : Int) : atL (f d e) (comb f d e xs ys) c = f (atL d xs c) (atL e ys c) := by
  rw [comb, cmb_at _ _ _ (mg_up d e xs ys hx hy), mg_at d e f xs ys hx hy]
theorem comb_len (f : Int → Int → Int) (d e : Int) (xs ys : List (Int × Int)) : (comb f d e xs ys).length ≤ xs.length + ys.length := Nat.le_trans (cmb_len _ _ _) (mg_len _ _ _ _)
/-- Does one label flow to another? -/
def FlL (d : Int) (xs : List (Int × Int)) (e : Int) (ys : List (Int × Int)) : Prop := ∀ c, atL d xs c ≤ atL e ys c
theorem atR_all (D : Int) (f : Int → Int → Int) (rs : List (Int × Int × Int)) (h : UpR rs) {r : Int × Int × Int} (hr : r ∈ rs) : atR D f rs r.1 = f r.2.1 r.2.2 := by
  induction rs with
  | nil => simp at hr
  | cons q rs ih =>
    rw [atR]
    rcases List.mem_cons.1 hr with rfl | hr
    · rw [if_pos rfl]
    · have := (List.pairwise_cons.1 h).1 r hr
      rw [if_neg (by omega)]
      exact ih (List.pairwise_cons.1 h).2 hr
theorem fl_iff (d e : Int) {xs ys : List (Int × Int)} (hx : UpL xs) (hy : UpL ys) (hxn : ∀ p ∈ xs, 0 ≤ p.1) (hyn : ∀ p ∈ ys, 0 ≤ p.1) :
    FlL d xs e ys ↔ (∀ r ∈ mg d e xs ys, r.2.1 ≤ r.2.2) ∧ d ≤ e := by
  have hu := mg_up d e xs ys hx hy
  constructor
  · intro h
    refine ⟨fun r hr => ?_, ?_⟩
    · have h1 := mg_at d e (fun x _ => x) xs ys hx hy r.1
      have h2 := mg_at d e (fun _ y => y) xs ys hx hy r.1
      rw [atR_all _ _ _ hu hr] at h1 h2
      rw [h1, h2]; exact h r.1
    · have := h (-1)
      rwa [atL_none hxn, atL_none hyn] at this
  · rintro ⟨h1, h2⟩ c
    have g1 := mg_at d e (fun x _ => x) xs ys hx hy c
    have g2 := mg_at d e (fun _ y => y) xs ys hx hy c
    rw [← g1, ← g2]
    clear g1 g2
    generalize mg d e xs ys = rs at h1
    induction rs with
    | nil => exact h2
    | cons r rs ih =>
      rw [atR, atR]
      by_cases hc : r.1 = c
      · rw [if_pos hc, if_pos hc]; exact h1 r (by simp)
      · rw [if_neg hc, if_neg hc]; exact ih fun q hq => h1 q (by simp [hq])
end Go.Proofs.Ytkmpmljohjelhaa
