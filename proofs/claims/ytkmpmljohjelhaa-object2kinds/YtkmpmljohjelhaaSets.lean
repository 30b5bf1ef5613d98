/- Sets of categories, plainly: strictly rising lists of numbers; what merging two of them comes to; no Go in sight. -/
import Derived.Test.YtkmpmljohjelhaaJBase
namespace Go.Proofs.Ytkmpmljohjelhaa
set_option maxRecDepth 100000

/-- A set: rising, none twice. -/
def Srt (xs : List Int) : Prop := xs.Pairwise (· < ·)
theorem Srt.nil : Srt [] := List.Pairwise.nil
theorem Srt.tail {x : Int} {xs : List Int} (h : Srt (x :: xs)) : Srt xs := (List.pairwise_cons.1 h).2
theorem Srt.head {x : Int} {xs : List Int} (h : Srt (x :: xs)) : ∀ y ∈ xs, x < y := (List.pairwise_cons.1 h).1
theorem Srt.take {xs : List Int} (h : Srt xs) (k : Nat) : Srt (xs.take k) := List.Pairwise.sublist (List.take_sublist k xs) h
theorem Srt.drop {xs : List Int} (h : Srt xs) (k : Nat) : Srt (xs.drop k) := List.Pairwise.sublist (List.drop_sublist k xs) h
theorem Srt.filter {xs : List Int} (h : Srt xs) (p : Int → Bool) : Srt (xs.filter p) := List.Pairwise.sublist List.filter_sublist h

theorem srt_unique : ∀ {xs ys : List Int}, Srt xs → Srt ys → (∀ x, x ∈ xs ↔ x ∈ ys) → xs = ys
  | [], [], _, _, _ => rfl
  | [], y :: ys, _, _, h => by have := (h y).2 (by simp); simp at this
  | x :: xs, [], _, _, h => by have := (h x).1 (by simp); simp at this
  | x :: xs, y :: ys, h1, h2, h => by
    have hxy : x = y := by
      have a := (h x).1 (by simp)
      have b := (h y).2 (by simp)
      rcases List.mem_cons.1 a with a | a
      · exact a
      · rcases List.mem_cons.1 b with b | b
        · exact b.symm
        · have := h1.head y b; have := h2.head x a; omega
    subst hxy
    congr 1
    refine srt_unique h1.tail h2.tail fun z => ⟨fun hz => ?_, fun hz => ?_⟩
    · have := (h z).1 (by simp [hz])
      rcases List.mem_cons.1 this with e | e
      · have := h1.head z hz; omega
      · exact e
    · have := (h z).2 (by simp [hz])
      rcases List.mem_cons.1 this with e | e
      · have := h2.head z hz; omega
      · exact e

theorem getD_eq {xs : List Int} {i : Nat} (h : i < xs.length) : xs.getD i 0 = xs[i] := by
  rw [List.getD_eq_getElem?_getD, List.getElem?_eq_getElem h]; rfl
theorem Srt.lt {xs : List Int} (h : Srt xs) {i j : Nat} (hij : i < j) (hj : j < xs.length) : xs.getD i 0 < xs.getD j 0 := by
  rw [getD_eq hj, getD_eq (by omega)]
  exact List.pairwise_iff_getElem.1 h i j (by omega) hj hij
theorem Srt.of_steps {xs : List Int} (h : ∀ i, i + 1 < xs.length → xs.getD i 0 < xs.getD (i + 1) 0) : Srt xs := by
  refine List.pairwise_iff_getElem.2 fun i j hi hj hij => ?_
  have key : ∀ d, i + d + 1 < xs.length → xs.getD i 0 < xs.getD (i + d + 1) 0 := by
    intro d
    induction d with
    | zero => intro hd; exact h i (by omega)
    | succ d ih => intro hd; have h1 := ih (by omega); have h2 := h (i + d + 1) (by omega); rw [show i + (d + 1) + 1 = i + d + 1 + 1 by omega]; omega
  have := key (j - i - 1) (by omega)
  rw [show i + (j - i - 1) + 1 = j by omega, getD_eq hi, getD_eq hj] at this
  exact this
/-- Does a list rise? -/
def asc (xs : List Int) : Bool := (List.range (xs.length - 1)).all fun i => decide (xs.getD i 0 < xs.getD (i + 1) 0)
theorem asc_iff (xs : List Int) : asc xs = true ↔ Srt xs := by
  unfold asc
  rw [List.all_eq_true]
  constructor
  · intro h
    refine Srt.of_steps fun i hi => ?_
    have := h i (by simp; omega)
    simpa using this
  · intro h i hi
    simp at hi
    simpa using h.lt (Nat.lt_succ_self i) (by omega)
theorem asc_false {xs : List Int} (i : Nat) (hi : i + 1 < xs.length) (h : xs.getD (i + 1) 0 ≤ xs.getD i 0) : asc xs = false := by
  cases hh : asc xs
  · rfl
  · have := ((asc_iff xs).1 hh).lt (show i < i + 1 by omega) hi; omega

theorem mem_getD {xs : List Int} {x : Int} : x ∈ xs ↔ ∃ i, i < xs.length ∧ xs.getD i 0 = x := by
  constructor
  · intro h
    obtain ⟨i, hi, rfl⟩ := List.mem_iff_getElem.1 h
    exact ⟨i, hi, getD_eq hi⟩
  · rintro ⟨i, hi, rfl⟩
    rw [getD_eq hi]; exact List.getElem_mem hi

def kp (p : Bool) (l : List Int) : List Int := if p then l else []
@[simp] theorem kp_true (l : List Int) : kp true l = l := rfl
@[simp] theorem kp_false (l : List Int) : kp false l = [] := rfl
/-- The merge: p those of the first alone, q those of both, r those of the second alone. (Going on in the second; F goes on in the first.) -/
def mrgI (p q r : Bool) (x : Int) (a : List Int) (F : List Int → List Int) : List Int → List Int
  | [] => kp p (x :: a)
  | y :: b => if x < y then kp p [x] ++ F (y :: b) else if y < x then kp r [y] ++ mrgI p q r x a F b else kp q [x] ++ F b
def mrg (p q r : Bool) : List Int → List Int → List Int
  | [], b => kp r b
  | x :: a, b => mrgI p q r x a (fun b => mrg p q r a b) b

theorem mrg_nil_left (p q r : Bool) (b : List Int) : mrg p q r [] b = kp r b := rfl
theorem mrg_nil_right (p q r : Bool) (a : List Int) : mrg p q r a [] = kp p a := by
  cases a with
  | nil => cases p <;> cases r <;> rfl
  | cons x a => rfl
theorem mrg_lt (p q r : Bool) {x y : Int} {a b : List Int} (h : x < y) : mrg p q r (x :: a) (y :: b) = kp p [x] ++ mrg p q r a (y :: b) := by rw [mrg, mrgI, if_pos h]
theorem mrg_gt (p q r : Bool) {x y : Int} {a b : List Int} (h : y < x) : mrg p q r (x :: a) (y :: b) = kp r [y] ++ mrg p q r (x :: a) b := by rw [mrg, mrgI, if_neg (by omega), if_pos h]; rfl
theorem mrg_eq (p q r : Bool) {x y : Int} {a b : List Int} (h : x = y) : mrg p q r (x :: a) (y :: b) = kp q [x] ++ mrg p q r a b := by rw [mrg, mrgI, if_neg (by omega), if_neg (by omega)]
theorem mrg_ind {motive : List Int → List Int → Prop} (case1 : ∀ b, motive [] b) (case2 : ∀ x a, motive (x :: a) []) (case3 : ∀ x a y b, x < y → motive a (y :: b) → motive (x :: a) (y :: b))
    (case4 : ∀ x a y b, ¬ x < y → y < x → motive (x :: a) b → motive (x :: a) (y :: b)) (case5 : ∀ x a y b, ¬ x < y → ¬ y < x → motive a b → motive (x :: a) (y :: b)) : ∀ a b, motive a b := by
  intro a
  induction a with
  | nil => exact case1
  | cons x a iha =>
    intro b
    induction b with
    | nil => exact case2 x a
    | cons y b ihb =>
      by_cases h : x < y
      · exact case3 x a y b h (iha _)
      · by_cases h' : y < x
        · exact case4 x a y b h h' ihb
        · exact case5 x a y b h h' (iha _)

theorem mrg_mem (p q r : Bool) (a b : List Int) (ha : Srt a) (hb : Srt b) (z : Int) :
    z ∈ mrg p q r a b ↔ (z ∈ a ∧ z ∉ b ∧ p = true) ∨ (z ∈ a ∧ z ∈ b ∧ q = true) ∨ (z ∉ a ∧ z ∈ b ∧ r = true) := by
  induction a, b using mrg_ind with
  | case1 b => rw [mrg_nil_left]; cases r <;> simp
  | case2 x a => rw [mrg_nil_right]; cases p <;> simp
  | case3 x a y b h ih =>
    rw [mrg_lt _ _ _ h, List.mem_append, ih ha.tail hb]
    have hx : ∀ z ∈ y :: b, x < z := fun z hz => (List.mem_cons.1 hz).elim (fun e => e ▸ h) (fun e => by have := hb.head z e; omega)
    by_cases hz : z = x
    · subst hz
      have n1 : z ∉ y :: b := fun hm => by have := hx z hm; omega
      have n2 : z ∉ a := fun hm => by have := ha.head z hm; omega
      have n3 : z ≠ y := fun e => n1 (by simp [e])
      have n4 : z ∉ b := fun e => n1 (by simp [e])
      cases p <;> simp [n2, n3, n4]
    · have : z ∈ x :: a ↔ z ∈ a := by simp [hz]
      rw [this]
      cases p <;> simp [hz]
  | case4 x a y b h h' ih =>
    rw [mrg_gt _ _ _ h', List.mem_append, ih ha hb.tail]
    have hy : ∀ z ∈ x :: a, y < z := fun z hz => (List.mem_cons.1 hz).elim (fun e => e ▸ h') (fun e => by have := ha.head z e; omega)
    by_cases hz : z = y
    · subst hz
      have n1 : z ∉ x :: a := fun hm => by have := hy z hm; omega
      have n2 : z ∉ b := fun hm => by have := hb.head z hm; omega
      have n3 : z ≠ x := fun e => n1 (by simp [e])
      have n4 : z ∉ a := fun e => n1 (by simp [e])
      cases r <;> simp [n2, n3, n4]
    · have : z ∈ y :: b ↔ z ∈ b := by simp [hz]
      rw [this]
      cases r <;> simp [hz]
  | case5 x a y b h h' ih =>
    obtain rfl : x = y := by omega
    rw [mrg_eq _ _ _ rfl, List.mem_append, ih ha.tail hb.tail]
    by_cases hz : z = x
    · subst hz
      have n1 : z ∉ a := fun hm => by have := ha.head z hm; omega
      have n2 : z ∉ b := fun hm => by have := hb.head z hm; omega
      cases q <;> simp [n1, n2]
    · cases q <;> simp [hz]

theorem srt_cons {x : Int} {l : List Int} (h : Srt l) (hx : ∀ y ∈ l, x < y) : Srt (x :: l) := List.pairwise_cons.2 ⟨hx, h⟩
theorem mrg_srt (p q r : Bool) (a b : List Int) (ha : Srt a) (hb : Srt b) : Srt (mrg p q r a b) := by
  induction a, b using mrg_ind with
  | case1 b => rw [mrg_nil_left]; cases r <;> simp [hb, Srt.nil]
  | case2 x a => rw [mrg_nil_right]; cases p <;> simp [ha, Srt.nil]
  | case3 x a y b h ih =>
    have i := ih ha.tail hb
    rw [mrg_lt _ _ _ h]
    cases p
    · simpa using i
    · refine srt_cons (by simpa using i) fun z hz => ?_
      have hz' := (mrg_mem _ q r a (y :: b) ha.tail hb z).1 (by simpa using hz)
      have : z ∈ a ∨ z ∈ y :: b := by rcases hz' with h | h | h <;> simp [h.1, h.2.1]
      rcases this with h1 | h1
      · exact ha.head z h1
      · rcases List.mem_cons.1 h1 with rfl | h2
        · exact h
        · have := hb.head z h2; omega
  | case4 x a y b h h' ih =>
    have i := ih ha hb.tail
    rw [mrg_gt _ _ _ h']
    cases r
    · simpa using i
    · refine srt_cons (by simpa using i) fun z hz => ?_
      have hz' := (mrg_mem p q _ (x :: a) b ha hb.tail z).1 (by simpa using hz)
      have : z ∈ x :: a ∨ z ∈ b := by rcases hz' with h | h | h <;> simp only [h.1, h.2.1, true_or, or_true]
      rcases this with h1 | h1
      · rcases List.mem_cons.1 h1 with rfl | h2
        · exact h'
        · have := ha.head z h2; omega
      · exact hb.head z h1
  | case5 x a y b h h' ih =>
    obtain rfl : x = y := by omega
    have i := ih ha.tail hb.tail
    rw [mrg_eq _ _ _ rfl]
    cases q
    · simpa using i
    · refine srt_cons (by simpa using i) fun z hz => ?_
      have hz' := (mrg_mem p _ r a b ha.tail hb.tail z).1 (by simpa using hz)
      have : z ∈ a ∨ z ∈ b := by rcases hz' with h | h | h <;> simp [h.1, h.2.1]
      rcases this with h1 | h1
      · exact ha.head z h1
      · exact hb.head z h1
theorem mrg_len (p q r : Bool) (a b : List Int) : (mrg p q r a b).length ≤ a.length + b.length := by
  induction a, b using mrg_ind with
  | case1 b => rw [mrg_nil_left]; cases r <;> simp
  | case2 x a => rw [mrg_nil_right]; cases p <;> simp
  | case3 x a y b h ih => rw [mrg_lt _ _ _ h]; cases p <;> simp at ih ⊢ <;> omega
  | case4 x a y b h h' ih => rw [mrg_gt _ _ _ h']; cases r <;> simp at ih ⊢ <;> omega
  | case5 x a y b h h' ih => rw [mrg_eq _ _ _ (by omega)]; cases q <;> simp at ih ⊢ <;> omega
theorem mrg_wrd (p q r : Bool) (a b : List Int) (ha : Wrd a) (hb : Wrd b) : Wrd (mrg p q r a b) := by
  induction a, b using mrg_ind with
  | case1 b => rw [mrg_nil_left]; cases r <;> simp [hb, Wrd.nil]
  | case2 x a => rw [mrg_nil_right]; cases p <;> simp [ha, Wrd.nil]
  | case3 x a y b h ih => rw [mrg_lt _ _ _ h]; exact Wrd.append (by cases p; exact Wrd.nil; exact Wrd.one (ha x (by simp))) (ih (ha.drop 1) hb)
  | case4 x a y b h h' ih => rw [mrg_gt _ _ _ h']; exact Wrd.append (by cases r; exact Wrd.nil; exact Wrd.one (hb y (by simp))) (ih ha (hb.drop 1))
  | case5 x a y b h h' ih => rw [mrg_eq _ _ _ (by omega)]; exact Wrd.append (by cases q; exact Wrd.nil; exact Wrd.one (ha x (by simp))) (ih (ha.drop 1) (hb.drop 1))

/-- Putting one more into a set, at its place. -/
theorem ins_place {zs : List Int} (hz : Srt zs) {x : Int} {k : Nat} (hk : k ≤ zs.length) (hlo : ∀ i, i < k → zs.getD i 0 < x) (hhi : k < zs.length → x < zs.getD k 0) : Srt (zs.take k ++ [x] ++ zs.drop k) ∧ ∀ y, y ∈ zs.take k ++ [x] ++ zs.drop k ↔ y = x ∨ y ∈ zs := by
  constructor
  · refine List.pairwise_append.2 ⟨List.pairwise_append.2 ⟨hz.take k, by simp, ?_⟩, hz.drop k, ?_⟩
    · intro a ha b hb
      simp at hb; subst hb
      obtain ⟨i, hi, rfl⟩ := mem_getD.1 ha
      simp at hi
      have := hlo i (by omega)
      simpa [List.getD, List.getElem?_take_of_lt (show i < k by omega)] using this
    · intro a ha b hb
      obtain ⟨j, hj, rfl⟩ := mem_getD.1 hb
      simp at hj
      have e : (zs.drop k).getD j 0 = zs.getD (k + j) 0 := by simp [List.getD]
      rw [e]
      have hx : x < zs.getD (k + j) 0 := by
        have := hhi (by omega)
        by_cases h0 : j = 0
        · subst h0; exact this
        · have := hz.lt (show k < k + j by omega) (by omega); omega
      rcases List.mem_append.1 ha with ha | ha
      · obtain ⟨i, hi, rfl⟩ := mem_getD.1 ha
        simp at hi
        have := hlo i (by omega)
        have e2 : (zs.take k).getD i 0 = zs.getD i 0 := by simp [List.getD, List.getElem?_take_of_lt (show i < k by omega)]
        rw [e2]; omega
      · simp at ha; subst ha; exact hx
  · intro y
    have : y ∈ zs ↔ y ∈ zs.take k ∨ y ∈ zs.drop k := by rw [← List.mem_append, List.take_append_drop]
    rw [this]
    simp only [List.mem_append, List.mem_singleton]
    constructor
    · rintro ((h | h) | h)
      · exact .inr (.inl h)
      · exact .inl h
      · exact .inr (.inr h)
    · rintro (h | h | h)
      · exact .inl (.inr h)
      · exact .inl (.inl h)
      · exact .inr h
theorem Srt.not_mem {zs : List Int} (hz : Srt zs) {x : Int} {k : Nat} (hlo : ∀ i, i < k → zs.getD i 0 < x) (hhi : k < zs.length → x < zs.getD k 0) : x ∉ zs := by
  intro hm
  obtain ⟨i, hi, rfl⟩ := mem_getD.1 hm
  by_cases h1 : i < k
  · have := hlo i h1; omega
  · have := hhi (by omega)
    by_cases h2 : i = k
    · subst h2; omega
    · have := hz.lt (show k < i by omega) hi; omega
end Go.Proofs.Ytkmpmljohjelhaa
