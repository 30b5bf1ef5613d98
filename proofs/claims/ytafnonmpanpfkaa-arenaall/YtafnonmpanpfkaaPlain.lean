/- Numbers as bytes, plainly: what the bytes of a number are, and which number bytes are; no Go in sight. -/
import Derived.Test.YtafnonmpanpfkaaBytes
namespace Go.Proofs.Ytafnonmpanpfkaa
open Go.RowKit
set_option maxRecDepth 100000

/-- The number that bytes say, the highest first. -/
def num (xs : List Int) : Int := xs.foldl (fun v b => v * 256 + b) 0
/-- The m lowest bytes of v, the highest first. -/
def putB (v : Int) : Nat → List Int
  | 0 => []
  | m + 1 => v / 256 ^ m % 256 :: putB v m
def takeE (xs : List Int) (n : Int) : Int := if n < 0 ∨ 8 < n then 1 else if (xs.length : Int) < n then 3 else 0
def takeV (xs : List Int) (n : Int) : Int := if n < 0 ∨ 8 < n ∨ (xs.length : Int) < n then 0 else num (xs.take n.toNat)
/-- How many bytes Put puts. -/
def wid (n : Int) : Nat := if n < 0 ∨ 8 < n then 0 else n.toNat

theorem putB_len (v : Int) (m : Nat) : (putB v m).length = m := by
  induction m with
  | zero => rfl
  | succ m ih => simp [putB, ih]
theorem putB_byt (v : Int) (m : Nat) : Byt (putB v m) := by
  induction m with
  | zero => exact Byt.nil
  | succ m ih =>
    intro x hx
    simp only [putB, List.mem_cons] at hx
    rcases hx with rfl | hx
    · omega
    · exact ih x hx
theorem byte_shr (v : Int) (k : Nat) : v / 2 ^ (8 * (k + 1) - 8) % 256 = v / 256 ^ k % 256 := by
  rw [show 8 * (k + 1) - 8 = 8 * k by omega, Int.pow_mul]; rfl
theorem wid_le (n : Int) : wid n ≤ 8 := by unfold wid; split <;> omega

theorem pow_le (k : Nat) (h : k ≤ 7) : (256 : Int) ^ k ≤ 72057594037927936 := by
  match k, h with
  | 0, _ => decide
  | 1, _ => decide
  | 2, _ => decide
  | 3, _ => decide
  | 4, _ => decide
  | 5, _ => decide
  | 6, _ => decide
  | 7, _ => decide
theorem step_or (v b : Int) (hv : 0 ≤ v) (hv' : v < 72057594037927936) (hb : 0 ≤ b ∧ b < 256) : bits .or .u64 (IntKind.u64.wrap (v * 256)) (IntKind.u64.wrap b) = v * 256 + b := by
  obtain ⟨x, rfl⟩ := Int.eq_ofNat_of_zero_le hv
  obtain ⟨y, rfl⟩ := Int.eq_ofNat_of_zero_le hb.1
  rw [IntKind.wrap_u64, IntKind.wrap_u64]
  rw [Int.emod_eq_of_lt (by omega) (by omega), Int.emod_eq_of_lt (by omega) (by omega)]
  have := u64_or_nat (x * 256) y (by omega) (by omega)
  rw [Int.natCast_mul] at this
  rw [show ((256 : Nat) : Int) = 256 from rfl] at this
  rw [this, nat_join 8 (x * 256) y (by omega) (by omega)]
  omega
theorem num_snoc (xs : List Int) (b : Int) : num (xs ++ [b]) = num xs * 256 + b := by simp [num]
theorem num_bd (xs : List Int) (hb : Byt xs) : 0 ≤ num xs ∧ num xs < 256 ^ xs.length := by
  suffices h : ∀ (ys : List Int), (∀ x ∈ ys, 0 ≤ x ∧ x < 256) → 0 ≤ num ys.reverse ∧ num ys.reverse < 256 ^ ys.length by
    have := h xs.reverse (fun x hx => hb x (by simpa using hx))
    simpa using this
  intro ys
  induction ys with
  | nil => intro _; simp [num]
  | cons y ys ih =>
    intro h
    have h1 := ih (fun x hx => h x (by simp [hx]))
    have h2 := h y (by simp)
    rw [List.reverse_cons, num_snoc, List.length_cons, Int.pow_succ]
    omega
theorem num_take (xs : List Int) (hb : Byt xs) (k : Nat) (hk : k < xs.length) (h7 : k ≤ 7) :
    bits .or .u64 (IntKind.u64.wrap (num (xs.take k) * 256)) (IntKind.u64.wrap xs[k]) = num (xs.take (k + 1)) := by
  have h1 := num_bd (xs.take k) (hb.take k)
  have h2 := pow_le k h7
  rw [List.length_take, Nat.min_eq_left (by omega)] at h1
  rw [step_or _ _ h1.1 (by omega) (hb _ (List.getElem_mem hk)), List.take_succ_eq_append_getElem hk, num_snoc]
theorem mod_split (a : Int) (m : Nat) : a % 256 ^ (m + 1) = a / 256 ^ m % 256 * 256 ^ m + a % 256 ^ m := by
  have hp : (0 : Int) < 256 ^ m := Int.pow_pos (by decide)
  rw [Int.pow_succ]
  generalize (256 : Int) ^ m = t at *
  have h1 := Int.mul_ediv_add_emod a t
  have h2 := Int.mul_ediv_add_emod (a / t) 256
  have h3 := Int.emod_nonneg a (show t ≠ 0 by omega)
  have h4 := Int.emod_lt_of_pos a hp
  have h5 : 0 ≤ a / t % 256 ∧ a / t % 256 ≤ 255 := by omega
  have e : a = (a / t % 256 * t + a % t) + t * 256 * (a / t / 256) := by
    have h6 : t * (a / t) = t * (256 * (a / t / 256) + a / t % 256) := by rw [h2]
    rw [Int.mul_add, ← Int.mul_assoc, Int.mul_comm t (a / t % 256)] at h6
    omega
  have h7 : a / t % 256 * t ≤ 255 * t := Int.mul_le_mul_of_nonneg_right h5.2 (by omega)
  have h8 : 0 ≤ a / t % 256 * t := Int.mul_nonneg h5.1 (by omega)
  have h9 : ((a / t % 256 * t + a % t) + t * 256 * (a / t / 256)) % (t * 256) = (a / t % 256 * t + a % t) := by
    rw [Int.add_mul_emod_self_left, Int.emod_eq_of_lt (by omega) (by omega)]
  rw [← e] at h9
  exact h9
theorem lex (a b : Int) : ∀ (m k : Nat), k < m → (∀ j, j < k → (putB a m).getD j 0 = (putB b m).getD j 0) → (putB a m).getD k 0 ≠ (putB b m).getD k 0 →
    ((putB a m).getD k 0 < (putB b m).getD k 0 ↔ a % 256 ^ m < b % 256 ^ m) := by
  intro m
  induction m with
  | zero => intro k hk; omega
  | succ m ih =>
    intro k hk hj hne
    have hp : (0 : Int) < 256 ^ m := Int.pow_pos (by decide)
    have ha := Int.emod_nonneg a (show (256 : Int) ^ m ≠ 0 by omega)
    have hb := Int.emod_nonneg b (show (256 : Int) ^ m ≠ 0 by omega)
    have ha' := Int.emod_lt_of_pos a hp
    have hb' := Int.emod_lt_of_pos b hp
    rw [mod_split a m, mod_split b m]
    cases k with
    | zero =>
      simp only [putB, List.getD_cons_zero] at hne ⊢
      generalize a / 256 ^ m % 256 = p at *
      generalize b / 256 ^ m % 256 = q at *
      generalize a % 256 ^ m = r at *
      generalize b % 256 ^ m = s at *
      generalize (256 : Int) ^ m = t at *
      constructor
      · intro h
        have : (p + 1) * t ≤ q * t := Int.mul_le_mul_of_nonneg_right (by omega) (by omega)
        rw [Int.add_mul] at this
        omega
      · intro h
        apply Classical.byContradiction
        intro hc
        have : (q + 1) * t ≤ p * t := Int.mul_le_mul_of_nonneg_right (by omega) (by omega)
        rw [Int.add_mul] at this
        omega
    | succ k =>
      have h0 := hj 0 (by omega)
      simp only [putB, List.getD_cons_zero] at h0
      simp only [putB, List.getD_cons_succ] at hne ⊢
      rw [ih k (by omega) (fun j hj' => by have := hj (j + 1) (by omega); simpa only [putB, List.getD_cons_succ] using this) hne, h0]
      omega
theorem alike (a b : Int) : ∀ (m : Nat), (∀ j, j < m → (putB a m).getD j 0 = (putB b m).getD j 0) → a % 256 ^ m = b % 256 ^ m := by
  intro m
  induction m with
  | zero => intro _; simp [Int.emod_one]
  | succ m ih =>
    intro hj
    have h0 := hj 0 (by omega)
    simp only [putB, List.getD_cons_zero] at h0
    rw [mod_split a m, mod_split b m, h0, ih (fun j hj' => by have := hj (j + 1) (by omega); simpa only [putB, List.getD_cons_succ] using this)]
theorem mod8 (a : Int) (h : 0 ≤ a ∧ a < 18446744073709551616) : a % 256 ^ 8 = a := by
  rw [show (256 : Int) ^ 8 = 18446744073709551616 by decide]; omega

theorem num_append (xs ys : List Int) : num (xs ++ ys) = num xs * 256 ^ ys.length + num ys := by
  suffices h : ∀ (zs : List Int), num (xs ++ zs.reverse) = num xs * 256 ^ zs.length + num zs.reverse by
    simpa using h ys.reverse
  intro zs
  induction zs with
  | nil => simp [num]
  | cons z zs ih =>
    rw [List.reverse_cons, ← List.append_assoc, num_snoc, ih, num_snoc, List.length_cons, Int.pow_succ, Int.add_mul, Int.mul_assoc]
    omega
theorem num_putB (v : Int) (m : Nat) : num (putB v m) = v % 256 ^ m := by
  induction m with
  | zero => simp [putB, num, Int.emod_one]
  | succ m ih =>
    have h := num_append [v / 256 ^ m % 256] (putB v m)
    rw [putB_len, ih] at h
    rw [putB, mod_split, ← List.singleton_append, h]
    simp [num]
theorem tmod_bd (k n : Int) (hn : 1 ≤ n) : -n < k.tmod n ∧ k.tmod n < n := by
  have h := Int.natAbs_tmod k n
  have h2 := Nat.mod_lt k.natAbs (show 0 < n.natAbs by omega)
  omega

theorem putB_split (v : Int) (a b : Nat) : putB v (a + b) = putB (v / 256 ^ b) a ++ putB v b := by
  induction a with
  | zero => simp [putB]
  | succ a ih =>
    rw [show a + 1 + b = (a + b) + 1 by omega]
    simp only [putB, List.cons_append, ih]
    rw [Int.ediv_ediv_of_nonneg (by exact Int.pow_nonneg (by decide)), ← Int.pow_add, Nat.add_comm b a]
/-- A loop by goto: the pass from the label on is walked once. -/
theorem jump_mono {l : Nat} {J J' : Act → World → Prop} {Q : Exit → Act → World → Prop} (h : ∀ a w, J' a w → J a w) (e : Exit) (a : Act) (w : World) (hq : Exit.jump l J' Q e a w) : Exit.jump l J Q e a w := by
  cases e <;> first | exact hq | exact ⟨hq.1, h _ _ hq.2⟩
theorem wp_scope_once {P : Program} {a : Act} {w : World} {Q : Exit → Act → World → Prop} {c rest : Code} (l : Nat) (J : Act → World → Prop) (μ : Act → World → Nat) (hf : findLabel c l = some (Code.skip.seq rest))
    (pass : ∀ a w, J a w → rest.wp P (Exit.jump l (fun a' w' => J a' w' ∧ μ a' w' < μ a w) Q) a w)
    (first : Hid (∀ a w, J a w → rest.wp P (Exit.jump l J Q) a w) → c.wp P (Exit.jump l J Q) a w) : (Code.scope c).wp P Q a w :=
  wp_scope_jumps l J μ hf (first (fun a w h => Code.wp_mono (jump_mono (fun _ _ h => h.1)) (pass a w h))) (fun a w h => wp_seq (wp_skip (pass a w h)))
end Go.Proofs.Ytafnonmpanpfkaa
