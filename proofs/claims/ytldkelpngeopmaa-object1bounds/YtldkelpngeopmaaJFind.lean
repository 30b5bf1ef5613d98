/- What the library's binary search and comparison, and cats.Has, answer of a set: contracts. What cats' merge by goto answers: a contract, for every two lists; and Or, And, Less, In over it. What the functions that only read labels answer, from the levels on: contracts. What the functions that only read labels answer: contracts. -/
import Derived.Test.YtldkelpngeopmaaReads
import Derived.Test.YtldkelpngeopmaaLab
import Derived.Test.YtldkelpngeopmaaJPlane
import Derived.BigQuiet
namespace Go.Proofs.Ytldkelpngeopmaa
open Go.RowKit
set_option maxRecDepth 100000

end Go.Proofs.Ytldkelpngeopmaa

namespace Go.Proofs.Ytldkelpngeopmaa
open Go.RowKit
set_option maxRecDepth 100000

/-- As Q; by a goto to a label: what J says there. -/
def Exit.jumps (J : Nat → Act → World → Prop) (Q : Exit → Act → World → Prop) : Exit → Act → World → Prop
  | .goto l, a, w => J l a w
  | e, a, w => Q e a w
/-- A scope in which the run jumps among several labels: what holds at each jump, and a measure that each pass lowers. -/
theorem wp_scope_labels {P : Program} {a : Act} {w : World} {Q : Exit → Act → World → Prop} {c : Code} (J : Nat → Act → World → Prop) (μ : Nat → Act → World → Nat)
    {rest0 : Code} (l0 : Nat) (hf0 : findLabel c l0 = some (Code.skip.seq rest0))
    (pass : ∀ l a w, J l a w → ∃ rest, findLabel c l = some (Code.skip.seq rest) ∧ rest.wp P (Exit.jumps (fun l' a' w' => J l' a' w' ∧ μ l' a' w' < μ l a w) Q) a w)
    (first : Hid (∀ a w, J l0 a w → rest0.wp P (Exit.jumps J Q) a w) → c.wp P (Exit.jumps J Q) a w) : (Code.scope c).wp P Q a w := by
  have hjm : ∀ (J J' : Nat → Act → World → Prop) (_ : ∀ l a w, J' l a w → J l a w) (e : Exit) (a : Act) (w : World), Exit.jumps J' Q e a w → Exit.jumps J Q e a w := by
    intro J J' h e a w hq
    cases e <;> first | exact hq | exact h _ _ _ hq
  replace first := first (by
    intro a w hJ
    obtain ⟨rest, hf, hwp⟩ := pass l0 a w hJ
    rw [hf0] at hf
    have he : rest0 = rest := by injection hf with h; injection h
    subst he
    exact Code.wp_mono (hjm _ _ (fun _ _ _ h => h.1)) hwp)
  replace pass : ∀ l a w, J l a w → ∃ rest, findLabel c l = some rest ∧ rest.wp P (Exit.jumps (fun l' a' w' => J l' a' w' ∧ μ l' a' w' < μ l a w) Q) a w := by
    intro l a w hJ
    obtain ⟨rest, hf, hwp⟩ := pass l a w hJ
    exact ⟨_, hf, wp_seq (wp_skip hwp)⟩
  intro b k cs
  have key : ∀ n l a w, μ l a w = n → J l a w → ∃ rest, findLabel c l = some rest ∧ ∃ e a' w', Q e a' w' ∧ Arrives P (lone (b.at a (.code rest :: .inScope c :: k)) cs w) b k cs e a' w' := by
    intro n
    induction n using Nat.strongRecOn with
    | _ n ih =>
      intro l a w hn hJ
      obtain ⟨rest, hf, hwp⟩ := pass l a w hJ
      refine ⟨rest, hf, ?_⟩
      obtain ⟨e, a₁, w₁, hq, harr⟩ := hwp b (.inScope c :: k) cs
      cases e with
      | normal => exact ⟨.normal, a₁, w₁, hq, Steps.trans harr (.one step_inScope)⟩
      | exit id => exact ⟨.exit id, a₁, w₁, hq, fun k' hk => harr k' (by simp [exitTo, hk])⟩
      | goto l' =>
        obtain ⟨hJ', hlt⟩ := hq
        obtain ⟨rest', hf', e₂, a₂, w₂, hq₂, harr₂⟩ := ih _ (by omega) l' a₁ w₁ rfl hJ'
        have hg : gotoIn l' (.inScope c :: k) = some (.code rest' :: .inScope c :: k) := by simp [gotoIn, hf']
        exact ⟨e₂, a₂, w₂, hq₂, .of_steps (harr _ hg) harr₂⟩
      | ret => exact ⟨_, a₁, w₁, hq, harr⟩
      | panic ch => exact ⟨_, a₁, w₁, hq, harr⟩
      | outgrown => exact ⟨_, a₁, w₁, hq, harr⟩
  obtain ⟨e, a₁, w₁, hq, harr⟩ := first b (.inScope c :: k) cs
  cases e with
  | normal => exact ⟨.normal, a₁, w₁, hq, .head step_scope (Steps.trans harr (.one step_inScope))⟩
  | exit id => exact ⟨.exit id, a₁, w₁, hq, fun k' hk => .head step_scope (harr k' (by simp [exitTo, hk]))⟩
  | goto l' =>
    obtain ⟨rest', hf', e₂, a₂, w₂, hq₂, harr₂⟩ := key _ l' a₁ w₁ rfl hq
    have hg : gotoIn l' (.inScope c :: k) = some (.code rest' :: .inScope c :: k) := by simp [gotoIn, hf']
    exact ⟨e₂, a₂, w₂, hq₂, .of_steps (.head step_scope (harr _ hg)) harr₂⟩
  | ret => exact ⟨_, a₁, w₁, hq, .of_steps (.one step_scope) harr⟩
  | panic ch => exact ⟨_, a₁, w₁, hq, .of_steps (.one step_scope) harr⟩
  | outgrown => exact ⟨_, a₁, w₁, hq, .of_steps (.one step_scope) harr⟩

theorem mrg_heads_eq (p q r : Bool) (xs ys : List Int) (hx : 0 < xs.length) (hy : 0 < ys.length) (h : xs.getD 0 0 = ys.getD 0 0) : mrg p q r xs ys = kp q (xs.take 1) ++ mrg p q r (xs.drop 1) (ys.drop 1) := by
  cases xs with
  | nil => simp at hx
  | cons x xs => cases ys with
    | nil => simp at hy
    | cons y ys => exact mrg_eq p q r (by simpa using h)
theorem mrg_heads_lt (p q r : Bool) (xs ys : List Int) (hx : 0 < xs.length) (hy : 0 < ys.length) (h : xs.getD 0 0 < ys.getD 0 0) : mrg p q r xs ys = kp p (xs.take 1) ++ mrg p q r (xs.drop 1) ys := by
  cases xs with
  | nil => simp at hx
  | cons x xs => cases ys with
    | nil => simp at hy
    | cons y ys => exact mrg_lt p q r (by simpa using h)
theorem mrg_heads_gt (p q r : Bool) (xs ys : List Int) (hx : 0 < xs.length) (hy : 0 < ys.length) (h : ys.getD 0 0 < xs.getD 0 0) : mrg p q r xs ys = kp r (ys.take 1) ++ mrg p q r xs (ys.drop 1) := by
  cases xs with
  | nil => simp at hx
  | cons x xs => cases ys with
    | nil => simp at hy
    | cons y ys => exact mrg_gt p q r (by simpa using h)
theorem kp_len (q : Bool) (l : List Int) : (kp q (l.take 1)).length ≤ 1 := by cases q <;> simp; omega
theorem same_drew (w : World) (n : Nat) : Below w.heap.size w (w.drewN n) := bel_drewN (Below.refl _ _) _
theorem same_drew2 (w : World) (n m : Nat) : Below w.heap.size w ((w.drewN n).drewN m) := bel_drewN (bel_drewN (Below.refl _ _) _) _
theorem RowW.tail1 {w : World} {b off n cap : Nat} {xs : List Int} (h : RowW w (some ⟨b, off, none⟩) n cap xs) (hn : 0 < n) (hc : cap = 1) : RowW w (some ⟨b, off, none⟩) (n - 1) 0 (xs.drop 1) := by
  subst hc
  have h1 := h.cap_le
  have h2 := h.len
  obtain rfl : n = 1 := by omega
  rw [List.drop_of_length_le (by omega)]
  exact RowW.none_of _ _ _ (by omega)
def slen : Value → Nat
  | .slice _ n _ => n
  | _ => 0
/-- What holds at a label of the merge: how the run stands there. -/
def MAt (w : World) (K : Int) (p q r : Bool) (zs : List Int) (A Bn : Nat) (l : Nat) (a' : Act) (w' : World) : Prop :=
  ∃ (aa ab so : Option Addr) (na ca nb cb no co : Nat) (xs ys os : List Int) (s8 s9 s10 s11 s12 s13 s14 s15 s16 s17 s18 s19 s20 s21 s22 s23 s24 s25 s26 s27 s28 s29 s30 s31 s32 s33 s34 s35 s36 s37 s38 s39 s40 s41 s42 s43 s44 s45 s46 s47 s48 s49 s50 s51 s52 s53 s54 s55 s56 s57 s58 s59 s60 s61 s62 s63 s64 s65 s66 s67 s68 : Value),
    a' = { tmps := #[.slice aa na ca, .slice ab nb cb, .int .i64 K, undef, undef, undef, .slice none 0 0, .slice so no co, s8, s9, s10, s11, s12, s13, s14, s15, s16, s17, s18, s19, s20, s21, s22, s23, s24, s25, s26, s27, s28, s29, s30, s31, s32, s33, s34, s35, s36, s37, s38, s39, s40, s41, s42, s43, s44, s45, s46, s47, s48, s49, s50, s51, s52, s53, s54, s55, s56, s57, s58, s59, s60, s61, s62, s63, s64, s65, s66, s67, s68], defers := [] } ∧ Below w.heap.size w w' ∧ RowW w aa na ca xs ∧ RowW w ab nb cb ys ∧ na ≤ A ∧ nb ≤ Bn ∧
    OwnW 42 w' w.heap.size so no co os ∧ no + na + nb ≤ A + Bn ∧ os ++ mrg p q r xs ys = zs ∧
    ((l = 0) ∨ (l = 1 ∧ 0 < na ∧ 0 < nb ∧ xs.getD 0 0 < ys.getD 0 0) ∨ (l = 2 ∧ 0 < na ∧ 0 < nb ∧ ys.getD 0 0 < xs.getD 0 0))
def MMu (l : Nat) (a' : Act) (_ : World) : Nat := 2 * (slen (a'.tmps.getD 0 undef) + slen (a'.tmps.getD 1 undef)) + (if l = 0 then 1 else 0)

end Go.Proofs.Ytldkelpngeopmaa

namespace Go.Proofs.Ytldkelpngeopmaa
open Go.RowKit
set_option maxRecDepth 100000

theorem lev_of {x : Int} (h : 0 ≤ x ∧ x ≤ 5) : ∃ i : Fin 6, lev i = x := ⟨⟨x.toNat, by omega⟩, by simp [lev]; omega⟩
theorem top_lev (i j : Fin 6) : lev (top i j) = max (lev i) (lev j) := by revert i j; decide
theorem low_lev (i j : Fin 6) : lev (low i j) = min (lev i) (lev j) := by revert i j; decide
def riseL (x : Int) : Int := if x = 0 then 5 else x
theorem lmay_num (x : Int) (hx : 0 ≤ x) (w : World) : Calls Try.prog 57 #[.int .u8 x] w fun e w' => e = .returned (.bool (decide (x ≤ 4))) ∧ w' = w := by
  by_cases h : x ≤ 5
  · obtain ⟨i, rfl⟩ := lev_of ⟨hx, h⟩
    rw [show decide (lev i ≤ 4) = decide (i ≤ 4) by revert i; decide]
    exact may_lev i w
  · rw [decide_eq_false (by omega)]
    exact may_above x (by omega) w

/-- How two numbers stand. -/
def cmpI (x y : Int) : Int := if x < y then -1 else if y < x then 1 else 0
theorem UpL.lt {ps : List (Int × Int)} (h : UpL ps) {i j : Nat} {x y x' y' : Int} (hij : i < j) (hi : ps[i]? = some (x, y)) (hj : ps[j]? = some (x', y')) : x < x' := by
  obtain ⟨hi1, hi2⟩ := List.getElem?_eq_some_iff.1 hi
  obtain ⟨hj1, hj2⟩ := List.getElem?_eq_some_iff.1 hj
  have := List.pairwise_iff_getElem.1 h i j hi1 hj1 hij
  rw [hi2, hj2] at this
  exact this

end Go.Proofs.Ytldkelpngeopmaa

namespace Go.Proofs.Ytldkelpngeopmaa
open Go.RowKit
set_option maxRecDepth 100000

theorem atL_found {d : Int} {xs : List (Int × Int)} (hs : UpL xs) {p : Nat} {c y : Int} (h : xs[p]? = some (c, y)) : atL d xs c = y := atL_mem d hs (List.mem_of_getElem? h)
theorem atL_lost {d : Int} {xs : List (Int × Int)} {p : Nat} {c : Int} (hlo : ∀ t x y, xs[t]? = some (x, y) → t < p → x < c) (hhi : ∀ t x y, xs[t]? = some (x, y) → p ≤ t → c ≤ x) (hs : UpL xs) (hn : ¬ ∃ y, xs[p]? = some (c, y)) : atL d xs c = d := by
  refine atL_off d xs c fun q hq => ?_
  obtain ⟨i, hi, rfl⟩ := List.mem_iff_getElem.1 hq
  intro he
  have hx : xs[i]? = some (c, xs[i].2) := by rw [List.getElem?_eq_getElem hi, ← he]
  by_cases h1 : i < p
  · have := hlo i _ _ hx h1; omega
  · by_cases h2 : i = p
    · subst h2; exact hn ⟨_, hx⟩
    · have hp : p < xs.length := by omega
      have h3 : xs[p]? = some (xs[p].1, xs[p].2) := List.getElem?_eq_getElem hp
      have h4 := hhi p _ _ h3 (Nat.le_refl _)
      have h5 := hs.lt (show p < i by omega) h3 hx
      omega
theorem pairs_ext {xs ys : List (Int × Int)} (hl : xs.length = ys.length) (h : ∀ (i : Nat) (x y x' y' : Int), xs[i]? = some (x, y) → ys[i]? = some (x', y') → x = x' ∧ y = y') : xs = ys := by
  apply List.ext_getElem hl
  intro i h1 h2
  obtain ⟨e1, e2⟩ := h i xs[i].1 xs[i].2 ys[i].1 ys[i].2 (List.getElem?_eq_getElem h1) (List.getElem?_eq_getElem h2)
  exact Prod.ext e1 e2
set_option maxHeartbeats 1000000 in
theorem equal_any (a : Option Addr) (n cap : Nat) (xs : List (Int × Int)) (b : Option Addr) (m cap2 : Nat) (ys : List (Int × Int)) (w : World) (hr : RowG PE w a n cap xs) (hs : RowG PE w b m cap2 ys) :
    Calls Try.prog 50 #[.slice a n cap, .slice b m cap2] w fun e w' => e = .returned (.bool (decide (xs = ys))) ∧ Below w.heap.size w w' := by
  have hl : Hid (xs.length = n) := hr.len
  have hm : Hid (ys.length = m) := hs.len
  have hcap := hr.cap_le
  by_cases hnm : n = m
  · subst hnm
    go_enter Try.func50, Try.ntmps50
    go_wp2_with fail
    go_loopw [13] (fun i wr => ∃ k : Nat, k ≤ n ∧ i = .int .i64 k ∧ Below w.heap.size w wr ∧ ∀ j x y x' y', j < k → xs[j]? = some (x, y) → ys[j]? = some (x', y') → x = x' ∧ y = y') (fun i _ => n - (intOf i).toNat)
    case atStart => exact ⟨0, by omega, rfl, Below.refl _ _, fun j _ _ _ _ h => by omega⟩
    case round =>
      obtain ⟨k, hk, rfl, hbel, hup⟩ := hrel
      by_cases hlt : k < n
      · have hp : (k : Int) < (n : Int) := by omega
        obtain ⟨b1, off1, rfl, _⟩ := hr.at (by omega)
        obtain ⟨b2, off2, rfl, _⟩ := hs.at (by omega)
        obtain ⟨X, Y, hX, _⟩ := hr.get2 k hlt
        obtain ⟨X', Y', hX', _⟩ := hs.get2 k hlt
        obtain ⟨c1, c2⟩ := (hr.below hbel).pair hX
        obtain ⟨c3, c4⟩ := (hs.below hbel).pair hX'
        have HX : Hid (xs[k]? = some (X, Y)) := hX
        have HX' : Hid (ys[k]? = some (X', Y')) := hX'
        clear hX hX'
        by_cases hle : X = X' ∧ Y = Y'
        · obtain ⟨rfl, rfl⟩ := hle
          go_wp2
          go_quiet (fail)
          go_wp2
          go_roundw
          case rel =>
            refine ⟨k + 1, by omega, by go_num, bel_drewN hbel _, fun j x y x' y' h2 hx hx' => ?_⟩
            by_cases hj : j < k
            · exact hup j x y x' y' hj hx hx'
            · obtain rfl : j = k := by omega
              rw [HX.out] at hx; rw [HX'.out] at hx'
              simp only [Option.some.injEq, Prod.mk.injEq] at hx hx'
              omega
          case measure => simp [intOf]; omega
        · by_cases hXX : X = X'
          · subst hXX
            have hle' : (Y == Y') = false := by simp only [beq_eq_false_iff_ne, ne_eq]; exact fun e => hle ⟨rfl, e⟩
            go_wp2
            go_quiet (fail)
            go_wp2
            go_ret
            refine ⟨?_, bel_drewN hbel _⟩
            rw [decide_eq_false (fun e => (show ¬ Y = Y' by simpa using hle') (by have h1 := HX.out; rw [e, HX'.out] at h1; simp at h1; exact h1.symm))]; rfl
          · have hle' : (X == X') = false := by simpa using hXX
            go_wp2
            go_quiet (fail)
            go_wp2
            go_ret
            refine ⟨?_, bel_drewN hbel _⟩
            rw [decide_eq_false (fun e => hle (by have h1 := HX.out; rw [e, HX'.out] at h1; simp at h1; exact ⟨h1.1.symm, h1.2.symm⟩))]; rfl
      · obtain rfl : k = n := by omega
        go_wp2
        go_ret
        refine ⟨?_, hbel⟩
        rw [decide_eq_true (pairs_ext (hl.out.trans hm.out.symm) (fun j x y x' y' hx hx' => hup j x y x' y' (by have := hl.out; have := (List.getElem?_eq_some_iff.1 hx).1; omega) hx hx'))]; rfl
  · have h1 : ((n : Int) == (m : Int)) = false := by simp; omega
    go_enter Try.func50, Try.ntmps50
    go_wp2_with fail
    go_ret
    refine ⟨?_, Below.refl _ _⟩
    rw [decide_eq_false (fun e => hnm (by rw [← hl.out, ← hm.out, e]))]; rfl
end Go.Proofs.Ytldkelpngeopmaa
