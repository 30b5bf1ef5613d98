/- Names of objects, plainly: which numbers are names, how deep they are, the list of the boxes that they are in; no Go in sight. -/
namespace Go.Proofs.Ytafnonmpanpfkaa
set_option maxRecDepth 100000

/-- How many numbers x has, if it is a name of at most f numbers. -/
def dp : Nat → Int → Option Nat
  | 0, x => if x = 1 then some 0 else none
  | f + 1, x => if x = 1 then some 0 else if x % 64 = 0 then none else (dp f (x / 64)).map (· + 1)
/-- Is x a name? -/
def isN (x : Int) : Bool := (dp 6 x).isSome
/-- How many numbers x has: none where it is no name. -/
def dN (x : Int) : Nat := (dp 6 x).getD 0
/-- The n lowest of x's boxes, x itself the last. -/
def upN (x : Int) : Nat → List Int
  | 0 => []
  | n + 1 => x / 64 ^ n :: upN x n
/-- The path. -/
def pth (x : Int) : List Int := if isN x = true then upN x (dN x + 1) else []
/-- Is b on x's path? -/
def wi (x b : Int) : Bool := decide (b ∈ pth x)
def par (x : Int) : Int := if isN x = true then x / 64 else 0
def nmb (x : Int) : Int := if x = 1 then 0 else if isN x = true then x % 64 else 0

/-- x is a name of d numbers. -/
def Nm (x : Int) (d : Nat) : Prop := x / 64 ^ d = 1 ∧ ∀ k, k < d → x / 64 ^ k % 64 ≠ 0

theorem pow_pos64 (k : Nat) : (0 : Int) < 64 ^ k := Int.pow_pos (by decide)
theorem div_div64 (x : Int) (k j : Nat) : x / 64 ^ k / 64 ^ j = x / 64 ^ (k + j) := by
  rw [Int.ediv_ediv_of_nonneg (Int.le_of_lt (pow_pos64 k)), ← Int.pow_add]
theorem div_one64 (x : Int) (k : Nat) : x / 64 ^ k / 64 = x / 64 ^ (k + 1) := by
  have := div_div64 x k 1
  simpa using this
theorem div_suc64 (x : Int) (k : Nat) : x / 64 / 64 ^ k = x / 64 ^ (k + 1) := by
  have := div_div64 x 1 k
  rw [Nat.add_comm] at this
  simpa using this
theorem one_div64 (k : Nat) : (1 : Int) / 64 ^ (k + 1) = 0 := by
  rw [Int.pow_succ, Int.mul_comm, ← Int.ediv_ediv_of_nonneg (by decide)]
  simp
theorem Nm.uniq {x : Int} {d e : Nat} (h : Nm x d) (k : Nm x e) : d = e := by
  have key : ∀ d e : Nat, Nm x d → Nm x e → ¬ d < e := by
    intro d e h k hl
    obtain ⟨j, rfl⟩ : ∃ j, e = d + (j + 1) := ⟨e - d - 1, by omega⟩
    have := k.1
    rw [← div_div64, h.1, one_div64] at this
    omega
  have h1 := key d e h k
  have h2 := key e d k h
  omega
theorem Nm.suc {x : Int} {d : Nat} (h : Nm (x / 64) d) (h0 : x % 64 ≠ 0) : Nm x (d + 1) := by
  refine ⟨by rw [← div_suc64]; exact h.1, fun k hk => ?_⟩
  cases k with
  | zero => simpa using h0
  | succ k => rw [← div_suc64]; exact h.2 k (by omega)
theorem Nm.pred {x : Int} {d : Nat} (h : Nm x (d + 1)) : Nm (x / 64) d ∧ x % 64 ≠ 0 ∧ x ≠ 1 := by
  refine ⟨⟨by rw [div_suc64]; exact h.1, fun k hk => by rw [div_suc64]; exact h.2 (k + 1) (by omega)⟩, by simpa using h.2 0 (by omega), fun h1 => ?_⟩
  subst h1
  have := h.1
  rw [one_div64] at this
  omega
theorem Nm.zero {x : Int} : Nm x 0 ↔ x = 1 := ⟨fun h => by simpa using h.1, fun h => ⟨by simpa using h, fun k hk => by omega⟩⟩
theorem dp_iff : ∀ (f : Nat) (x : Int) (d : Nat), dp f x = some d ↔ d ≤ f ∧ Nm x d
  | 0, x, d => by
    unfold dp
    by_cases h : x = 1
    · rw [if_pos h]
      constructor
      · intro e; obtain rfl := Option.some.inj e; exact ⟨Nat.le_refl _, Nm.zero.2 h⟩
      · rintro ⟨h1, _⟩; obtain rfl : d = 0 := by omega
        rfl
    · rw [if_neg h]
      constructor
      · intro e; cases e
      · rintro ⟨h1, h2⟩; obtain rfl : d = 0 := by omega
        exact absurd (Nm.zero.1 h2) h
  | f + 1, x, d => by
    unfold dp
    by_cases h : x = 1
    · rw [if_pos h]
      constructor
      · intro e; obtain rfl := Option.some.inj e; exact ⟨by omega, Nm.zero.2 h⟩
      · rintro ⟨_, h2⟩; rw [(Nm.zero.2 h).uniq h2]
    · rw [if_neg h]
      by_cases h0 : x % 64 = 0
      · rw [if_pos h0]
        constructor
        · intro e; cases e
        · rintro ⟨_, h2⟩
          cases d with
          | zero => exact absurd (Nm.zero.1 h2) h
          | succ d => exact absurd h0 h2.pred.2.1
      · rw [if_neg h0]
        cases d with
        | zero =>
          constructor
          · intro e; cases hd : dp f (x / 64) <;> simp [hd] at e
          · rintro ⟨_, h2⟩; exact absurd (Nm.zero.1 h2) h
        | succ d =>
          have ih := dp_iff f (x / 64) d
          constructor
          · intro e
            cases hd : dp f (x / 64) with
            | none => simp [hd] at e
            | some d' =>
              simp [hd] at e
              subst e
              have := ih.1 hd
              exact ⟨by omega, this.2.suc h0⟩
          · rintro ⟨h1, h2⟩
            rw [ih.2 ⟨by omega, h2.pred.1⟩]
            rfl
theorem isN_iff (x : Int) : isN x = true ↔ ∃ d, d ≤ 6 ∧ Nm x d := by
  unfold isN
  constructor
  · intro h
    obtain ⟨d, hd⟩ := Option.isSome_iff_exists.1 h
    exact ⟨d, (dp_iff 6 x d).1 hd⟩
  · rintro ⟨d, h⟩
    rw [(dp_iff 6 x d).2 h]; rfl
theorem Nm.is {x : Int} {d : Nat} (h : Nm x d) (hd : d ≤ 6) : isN x = true ∧ dN x = d := by
  unfold isN dN
  rw [(dp_iff 6 x d).2 ⟨hd, h⟩]
  exact ⟨rfl, rfl⟩
theorem nm_of {x : Int} (h : isN x = true) : dN x ≤ 6 ∧ Nm x (dN x) := by
  obtain ⟨d, hd, hn⟩ := (isN_iff x).1 h
  rw [(hn.is hd).2]
  exact ⟨hd, hn⟩
theorem dN_le (x : Int) : dN x ≤ 6 := by
  by_cases h : isN x = true
  · exact (nm_of h).1
  · unfold isN at h
    unfold dN
    cases hd : dp 6 x with
    | none => simp
    | some d => simp [hd] at h
theorem dN_no {x : Int} (h : isN x = false) : dN x = 0 := by
  unfold isN at h
  unfold dN
  cases hd : dp 6 x with
  | none => rfl
  | some d => simp [hd] at h
/-- What a name of d numbers is. -/
theorem pow_up (d : Nat) (h : d ≤ 6) : (64 : Int) ^ d ≤ 68719476736 := by
  match d, h with
  | 0, _ => decide
  | 1, _ => decide
  | 2, _ => decide
  | 3, _ => decide
  | 4, _ => decide
  | 5, _ => decide
  | 6, _ => decide
theorem isN_bd {x : Int} (h : isN x = true) : 1 ≤ x ∧ x < 137438953472 := by
  obtain ⟨h1, h2⟩ := nm_of h
  have h3 := pow_up _ h1
  have h4 := pow_pos64 (dN x)
  have h5 := h2.1
  generalize (64 : Int) ^ dN x = t at *
  have h6 := Int.mul_ediv_add_emod x t
  have h7 := Int.emod_nonneg x (show t ≠ 0 by omega)
  have h8 := Int.emod_lt_of_pos x h4
  rw [h5] at h6
  omega

/-! The list of boxes. -/
theorem up_len (x : Int) (n : Nat) : (upN x n).length = n := by
  induction n with
  | zero => rfl
  | succ n ih => simp [upN, ih]
theorem up_get (x : Int) (n i : Nat) (h : i < n) : (upN x n).getD i 0 = x / 64 ^ (n - 1 - i) := by
  induction n generalizing i with
  | zero => omega
  | succ n ih =>
    cases i with
    | zero => simp [upN]
    | succ i =>
      simp only [upN, List.getD_cons_succ]
      rw [ih i (by omega)]
      congr 2
      omega
theorem up_mem (x b : Int) (n : Nat) : b ∈ upN x n ↔ ∃ k, k < n ∧ b = x / 64 ^ k := by
  induction n with
  | zero => simp [upN]
  | succ n ih =>
    simp only [upN, List.mem_cons, ih]
    constructor
    · rintro (h | ⟨k, hk, h⟩)
      · exact ⟨n, by omega, h⟩
      · exact ⟨k, by omega, h⟩
    · rintro ⟨k, hk, h⟩
      by_cases hn : k = n
      · subst hn; exact .inl h
      · exact .inr ⟨k, by omega, h⟩
theorem up_all (xs : List Int) (x : Int) (n : Nat) (hl : xs.length = n) (h : ∀ j, j < n → xs.getD j 0 = x / 64 ^ (n - 1 - j)) : xs = upN x n := by
  refine List.ext_getElem (by rw [hl, up_len]) fun i h1 h2 => ?_
  have h3 := h i (by omega)
  have h4 := up_get x n i (by omega)
  rw [List.getD_eq_getElem?_getD, List.getElem?_eq_getElem h1] at h3
  rw [List.getD_eq_getElem?_getD, List.getElem?_eq_getElem h2] at h4
  simp at h3 h4
  rw [h3, h4]
theorem pth_yes {x : Int} (h : isN x = true) : pth x = upN x (dN x + 1) := if_pos h
theorem pth_no {x : Int} (h : isN x = false) : pth x = [] := if_neg (by simp [h])
theorem pth_mem (x b : Int) : b ∈ pth x ↔ isN x = true ∧ ∃ k, k ≤ dN x ∧ b = x / 64 ^ k := by
  by_cases h : isN x = true
  · rw [pth_yes h, up_mem]
    constructor
    · rintro ⟨k, hk, e⟩; exact ⟨h, k, by omega, e⟩
    · rintro ⟨_, k, hk, e⟩; exact ⟨k, by omega, e⟩
  · rw [pth_no (by simpa using h)]
    simp [h]
theorem pth_len (x : Int) : (pth x).length = if isN x = true then dN x + 1 else 0 := by
  unfold pth
  split <;> simp [up_len]
theorem pth_bd (x : Int) (hx : 0 ≤ x ∧ x < 18446744073709551616) : ∀ y ∈ pth x, 0 ≤ y ∧ y < 18446744073709551616 := by
  intro y hy
  obtain ⟨_, k, _, rfl⟩ := (pth_mem x y).1 hy
  refine ⟨Int.ediv_nonneg hx.1 (Int.le_of_lt (pow_pos64 k)), ?_⟩
  exact Int.lt_of_le_of_lt (Int.ediv_le_self _ hx.1) hx.2
/-- A box on a path is a name, so many numbers upN. -/
theorem nm_up {x : Int} {d : Nat} (h : Nm x d) (k : Nat) (hk : k ≤ d) : Nm (x / 64 ^ k) (d - k) := by
  refine ⟨by rw [div_div64, show k + (d - k) = d by omega]; exact h.1, fun j hj => ?_⟩
  rw [div_div64]
  exact h.2 (k + j) (by omega)
theorem wi_name {x b : Int} (h : b ∈ pth x) : isN x = true ∧ isN b = true ∧ dN b ≤ dN x ∧ b = x / 64 ^ (dN x - dN b) := by
  obtain ⟨hx, k, hk, rfl⟩ := (pth_mem x b).1 h
  obtain ⟨h6, hn⟩ := nm_of hx
  have h1 := (nm_up hn k hk).is (by omega)
  refine ⟨hx, h1.1, by omega, ?_⟩
  rw [h1.2, show dN x - (dN x - k) = k by omega]
theorem wi_iff (x b : Int) : b ∈ pth x ↔ isN x = true ∧ dN b ≤ dN x ∧ x / 64 ^ (dN x - dN b) = b := by
  constructor
  · intro h
    obtain ⟨h1, _, h3, h4⟩ := wi_name h
    exact ⟨h1, h3, h4.symm⟩
  · rintro ⟨h1, h2, h3⟩
    exact (pth_mem x b).2 ⟨h1, _, by omega, h3.symm⟩
theorem wi_self (x : Int) : wi x x = isN x := by
  rw [Bool.eq_iff_iff]
  unfold wi
  rw [decide_eq_true_iff, wi_iff]
  simp
theorem wi_trans {a b c : Int} (h : wi a b = true) (k : wi b c = true) : wi a c = true := by
  unfold wi at *
  rw [decide_eq_true_iff] at *
  obtain ⟨h1, h2, h3, h4⟩ := wi_name h
  obtain ⟨_, h6, h7, h8⟩ := wi_name k
  refine (pth_mem a c).2 ⟨h1, (dN a - dN b) + (dN b - dN c), by omega, ?_⟩
  rw [← div_div64, ← h4, ← h8]
theorem wi_anti {a b : Int} (h : wi a b = true) (k : wi b a = true) : a = b := by
  unfold wi at *
  rw [decide_eq_true_iff] at *
  obtain ⟨h1, h2, h3, h4⟩ := wi_name h
  obtain ⟨_, h6, h7, h8⟩ := wi_name k
  rw [show dN a - dN b = 0 by omega] at h4
  simpa using h4.symm
/-- One number more. -/
theorem nm_next {x n : Int} (h : isN x = true) (h6 : dN x < 6) (hn : 1 ≤ n ∧ n ≤ 63) :
    isN (x * 64 + n) = true ∧ dN (x * 64 + n) = dN x + 1 ∧ par (x * 64 + n) = x ∧ nmb (x * 64 + n) = n ∧ wi (x * 64 + n) x = true ∧ wi x (x * 64 + n) = false := by
  obtain ⟨_, hm⟩ := nm_of h
  have hb := isN_bd h
  have hd : (x * 64 + n) / 64 = x := by omega
  have hq : (x * 64 + n) % 64 = n := by omega
  have h1 : Nm (x * 64 + n) (dN x + 1) := Nm.suc (by rw [hd]; exact hm) (by omega)
  obtain ⟨h2, h3⟩ := h1.is (by omega)
  have h4 : wi (x * 64 + n) x = true := by
    unfold wi
    rw [decide_eq_true_iff, pth_mem]
    exact ⟨h2, 1, by omega, by simp [hd]⟩
  refine ⟨h2, h3, by unfold par; rw [if_pos h2, hd], by unfold nmb; rw [if_neg (by omega), if_pos h2, hq], h4, ?_⟩
  cases hc : wi x (x * 64 + n) with
  | false => rfl
  | true => have := wi_anti h4 hc; omega
theorem pth_first {x : Int} (h : isN x = true) : (pth x).getD 0 0 = 1 := by
  rw [pth_yes h, up_get _ _ _ (by omega)]
  simpa using (nm_of h).2.1
theorem pth_last {x : Int} (h : isN x = true) : (pth x).getD (dN x) 0 = x := by
  rw [pth_yes h, up_get _ _ _ (by omega)]
  simp
end Go.Proofs.Ytafnonmpanpfkaa
