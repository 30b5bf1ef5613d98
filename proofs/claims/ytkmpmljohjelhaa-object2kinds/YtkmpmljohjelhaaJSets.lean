/- What the library's binary search and comparison, and cats.Has, answer of a set: contracts. What cats' merge by goto answers: a contract, for every two lists; and Or, And, Less, In over it. What the document's own Make of a list of categories is: a contract, for every list. What the document's own Or, And, Less, In of lists of categories are: contracts. Sets of categories: what the merges hold, and which three sets make a label. No program of the seat is named here. A label of sets in memory: three slices, what each reads as, and how it lies in a variable. -/
import Derived.Test.YtkmpmljohjelhaaReads
import Derived.Test.YtkmpmljohjelhaaRegion
import Derived.Test.YtkmpmljohjelhaaSets
namespace Go.Proofs.Ytkmpmljohjelhaa
open Go.RowKit
set_option maxRecDepth 100000

end Go.Proofs.Ytkmpmljohjelhaa

namespace Go.Proofs.Ytkmpmljohjelhaa
open Go.RowKit
set_option maxRecDepth 100000

/-- As Q; by a goto to a label: what J says there. -/
def Exit.jumps (J : Nat → Act → World → Prop) (Q : Exit → Act → World → Prop) : Exit → Act → World → Prop
  | .goto l, a, w => J l a w
  | e, a, w => Q e a w
/-- A scope in which the run jumps among several labels: what holds at each jump, and a measure that each pass lowers. -/
theorem wp_scope_labels {P : Program} {a : Act} {w : World} {Q : Exit → Act → World → Prop} {c : Code} (J : Nat → Act → World → Prop) (μ : Nat → Act → World → Nat)
    {rest0 : Code} (l0 : Nat) (hf0 : findLabel c l0 = some (Code.skip.seq rest0))
    (pass : ∀ l a w, J l a w → ∃ rest, findLabel c l = some (Code.skip.seq rest) ∧ rest.wp P (Exit.jumps (fun l' a' w' => J l' a' w' ∧ μ l' a' w' < μ l a w) Q) a w)
    (first : Hid (∀ a w, J l0 a w → rest0.wp P (Exit.jumps J Q) a w) → c.wp P (Exit.jumps J Q) a w) : (Code.scope c).wp P Q a w := by
  have hjm : ∀ (J J' : Nat → Act → World → Prop) (_ : ∀ l a w, J' l a w → J l a w) (e : Exit) (a : Act) (w : World), Exit.jumps J' Q e a w → Exit.jumps J Q e a w := by
    intro J J' h e a w hq
    cases e <;> first | exact hq | exact h _ _ _ hq
  replace first := first (by
    intro a w hJ
    obtain ⟨rest, hf, hwp⟩ := pass l0 a w hJ
    rw [hf0] at hf
    have he : rest0 = rest := by injection hf with h; injection h
    subst he
    exact Code.wp_mono (hjm _ _ (fun _ _ _ h => h.1)) hwp)
  replace pass : ∀ l a w, J l a w → ∃ rest, findLabel c l = some rest ∧ rest.wp P (Exit.jumps (fun l' a' w' => J l' a' w' ∧ μ l' a' w' < μ l a w) Q) a w := by
    intro l a w hJ
    obtain ⟨rest, hf, hwp⟩ := pass l a w hJ
    exact ⟨_, hf, wp_seq (wp_skip hwp)⟩
  intro b k cs
  have key : ∀ n l a w, μ l a w = n → J l a w → ∃ rest, findLabel c l = some rest ∧ ∃ e a' w', Q e a' w' ∧ Arrives P (lone (b.at a (.code rest :: .inScope c :: k)) cs w) b k cs e a' w' := by
    intro n
    induction n using Nat.strongRecOn with
    | _ n ih =>
      intro l a w hn hJ
      obtain ⟨rest, hf, hwp⟩ := pass l a w hJ
      refine ⟨rest, hf, ?_⟩
      obtain ⟨e, a₁, w₁, hq, harr⟩ := hwp b (.inScope c :: k) cs
      cases e with
      | normal => exact ⟨.normal, a₁, w₁, hq, Steps.trans harr (.one step_inScope)⟩
      | exit id => exact ⟨.exit id, a₁, w₁, hq, fun k' hk => harr k' (by simp [exitTo, hk])⟩
      | goto l' =>
        obtain ⟨hJ', hlt⟩ := hq
        obtain ⟨rest', hf', e₂, a₂, w₂, hq₂, harr₂⟩ := ih _ (by omega) l' a₁ w₁ rfl hJ'
        have hg : gotoIn l' (.inScope c :: k) = some (.code rest' :: .inScope c :: k) := by simp [gotoIn, hf']
        exact ⟨e₂, a₂, w₂, hq₂, .of_steps (harr _ hg) harr₂⟩
      | ret => exact ⟨_, a₁, w₁, hq, harr⟩
      | panic ch => exact ⟨_, a₁, w₁, hq, harr⟩
      | outgrown => exact ⟨_, a₁, w₁, hq, harr⟩
  obtain ⟨e, a₁, w₁, hq, harr⟩ := first b (.inScope c :: k) cs
  cases e with
  | normal => exact ⟨.normal, a₁, w₁, hq, .head step_scope (Steps.trans harr (.one step_inScope))⟩
  | exit id => exact ⟨.exit id, a₁, w₁, hq, fun k' hk => .head step_scope (harr k' (by simp [exitTo, hk]))⟩
  | goto l' =>
    obtain ⟨rest', hf', e₂, a₂, w₂, hq₂, harr₂⟩ := key _ l' a₁ w₁ rfl hq
    have hg : gotoIn l' (.inScope c :: k) = some (.code rest' :: .inScope c :: k) := by simp [gotoIn, hf']
    exact ⟨e₂, a₂, w₂, hq₂, .of_steps (.head step_scope (harr _ hg)) harr₂⟩
  | ret => exact ⟨_, a₁, w₁, hq, .of_steps (.one step_scope) harr⟩
  | panic ch => exact ⟨_, a₁, w₁, hq, .of_steps (.one step_scope) harr⟩
  | outgrown => exact ⟨_, a₁, w₁, hq, .of_steps (.one step_scope) harr⟩

set_option maxHeartbeats 400000 in
theorem appendIf_any (so : Option Addr) (n cap : Nat) (ys : List Int) (ao : Option Addr) (m c : Nat) (xs : List Int) (q : Bool) (w : World) (B : Nat) (hB : B ≤ w.heap.size) (w0 : World) (hbel : Below B w0 w)
    (hown : OwnW 42 w B so n cap ys) (hrow : RowW w ao m c xs) (hbd : n + m ≤ 70368744177664) :
    Calls Try.prog 69 #[.slice so n cap, .slice ao m c, .bool q] w fun e w' => ∃ so' cap' k, e = .returned (.slice so' k cap') ∧ OwnW 42 w' B so' k cap' (ys ++ kp q xs) ∧ Below B w0 w' := by
  cases q
  · go_enter Try.func69, Try.ntmps69
    go_wp2_with fail
    go_ret
    exact ⟨so, cap, n, rfl, by simpa using hown, hbel⟩
  · go_enter Try.func69, Try.ntmps69
    go_wp2_with (at_builtin; refine wp_append_words _ rfl (.tmp 10) (.tmp 11) 26 rfl 42 Try.underlying26 info27 B n cap so ys rfl hown ao m c xs rfl hrow hbd hB w0 hbel ?_; intro so' cap' w1 hown1 hbel1)
    go_ret
    exact ⟨so', cap', n + m, rfl, by simpa using hown1, hbel1⟩

theorem mrg_heads_eq (p q r : Bool) (xs ys : List Int) (hx : 0 < xs.length) (hy : 0 < ys.length) (h : xs.getD 0 0 = ys.getD 0 0) : mrg p q r xs ys = kp q (xs.take 1) ++ mrg p q r (xs.drop 1) (ys.drop 1) := by
  cases xs with
  | nil => simp at hx
  | cons x xs => cases ys with
    | nil => simp at hy
    | cons y ys => exact mrg_eq p q r (by simpa using h)
theorem mrg_heads_lt (p q r : Bool) (xs ys : List Int) (hx : 0 < xs.length) (hy : 0 < ys.length) (h : xs.getD 0 0 < ys.getD 0 0) : mrg p q r xs ys = kp p (xs.take 1) ++ mrg p q r (xs.drop 1) ys := by
  cases xs with
  | nil => simp at hx
  | cons x xs => cases ys with
    | nil => simp at hy
    | cons y ys => exact mrg_lt p q r (by simpa using h)
theorem mrg_heads_gt (p q r : Bool) (xs ys : List Int) (hx : 0 < xs.length) (hy : 0 < ys.length) (h : ys.getD 0 0 < xs.getD 0 0) : mrg p q r xs ys = kp r (ys.take 1) ++ mrg p q r xs (ys.drop 1) := by
  cases xs with
  | nil => simp at hx
  | cons x xs => cases ys with
    | nil => simp at hy
    | cons y ys => exact mrg_gt p q r (by simpa using h)
theorem kp_len (q : Bool) (l : List Int) : (kp q (l.take 1)).length ≤ 1 := by cases q <;> simp; omega
theorem same_drew (w : World) (n : Nat) : Below w.heap.size w (w.drewN n) := bel_drewN (Below.refl _ _) _
theorem same_drew2 (w : World) (n m : Nat) : Below w.heap.size w ((w.drewN n).drewN m) := bel_drewN (bel_drewN (Below.refl _ _) _) _
theorem RowW.tail1 {w : World} {b off n cap : Nat} {xs : List Int} (h : RowW w (some ⟨b, off, none⟩) n cap xs) (hn : 0 < n) (hc : cap = 1) : RowW w (some ⟨b, off, none⟩) (n - 1) 0 (xs.drop 1) := by
  subst hc
  have h1 := h.cap_le
  have h2 := h.len
  obtain rfl : n = 1 := by omega
  rw [List.drop_of_length_le (by omega)]
  exact RowW.none_of _ _ _ (by omega)
def slen : Value → Nat
  | .slice _ n _ => n
  | _ => 0
/-- What holds at a label of the merge: how the run stands there. -/
def MAt (w : World) (K : Int) (p q r : Bool) (zs : List Int) (A Bn : Nat) (l : Nat) (a' : Act) (w' : World) : Prop :=
  ∃ (aa ab so : Option Addr) (na ca nb cb no co : Nat) (xs ys os : List Int) (s8 s9 s10 s11 s12 s13 s14 s15 s16 s17 s18 s19 s20 s21 s22 s23 s24 s25 s26 s27 s28 s29 s30 s31 s32 s33 s34 s35 s36 s37 s38 s39 s40 s41 s42 s43 s44 s45 s46 s47 s48 s49 s50 s51 s52 s53 s54 s55 s56 s57 s58 s59 s60 s61 s62 s63 s64 s65 s66 s67 s68 : Value),
    a' = { tmps := #[.slice aa na ca, .slice ab nb cb, .int .i64 K, undef, undef, undef, .slice none 0 0, .slice so no co, s8, s9, s10, s11, s12, s13, s14, s15, s16, s17, s18, s19, s20, s21, s22, s23, s24, s25, s26, s27, s28, s29, s30, s31, s32, s33, s34, s35, s36, s37, s38, s39, s40, s41, s42, s43, s44, s45, s46, s47, s48, s49, s50, s51, s52, s53, s54, s55, s56, s57, s58, s59, s60, s61, s62, s63, s64, s65, s66, s67, s68], defers := [] } ∧ Below w.heap.size w w' ∧ RowW w aa na ca xs ∧ RowW w ab nb cb ys ∧ na ≤ A ∧ nb ≤ Bn ∧
    OwnW 42 w' w.heap.size so no co os ∧ no + na + nb ≤ A + Bn ∧ os ++ mrg p q r xs ys = zs ∧
    ((l = 0) ∨ (l = 1 ∧ 0 < na ∧ 0 < nb ∧ xs.getD 0 0 < ys.getD 0 0) ∨ (l = 2 ∧ 0 < na ∧ 0 < nb ∧ ys.getD 0 0 < xs.getD 0 0))
def MMu (l : Nat) (a' : Act) (_ : World) : Nat := 2 * (slen (a'.tmps.getD 0 undef) + slen (a'.tmps.getD 1 undef)) + (if l = 0 then 1 else 0)

set_option maxHeartbeats 4000000 in
theorem merge_any (a b : Option Addr) (n cap m cap2 : Nat) (xs0 ys0 : List Int) (K : Int) (p q r : Bool) (w : World) (hr : RowW w a n cap xs0) (hs : RowW w b m cap2 ys0) (hbd : n + m ≤ 70368744177664)
    (hK : (K = 7 ∧ p = true ∧ q = true ∧ r = true) ∨ (K = 2 ∧ p = false ∧ q = true ∧ r = false) ∨ (K = 1 ∧ p = true ∧ q = false ∧ r = false)) :
    Calls Try.prog 68 #[.slice a n cap, .slice b m cap2, .int .i64 K] w fun e w' => ∃ so k co, e = .returned (.slice so k co) ∧ OwnW 42 w' w.heap.size so k co (mrg p q r xs0 ys0) ∧ Below w.heap.size w w' := by
  have h4 : (bits .and .i64 K 4 != 0) = r := by rcases hK with ⟨rfl, _, _, rfl⟩ | ⟨rfl, _, _, rfl⟩ | ⟨rfl, _, _, rfl⟩ <;> decide
  have h2 : (bits .and .i64 K 2 != 0) = q := by rcases hK with ⟨rfl, _, rfl, _⟩ | ⟨rfl, _, rfl, _⟩ | ⟨rfl, _, rfl, _⟩ <;> decide
  have h1 : (bits .and .i64 K 1 != 0) = p := by rcases hK with ⟨rfl, rfl, _, _⟩ | ⟨rfl, rfl, _, _⟩ | ⟨rfl, rfl, _, _⟩ <;> decide
  clear hK
  go_enter Try.func68, Try.ntmps68
  go_wp2_with fail
  refine wp_scope_labels (MAt w K p q r (mrg p q r xs0 ys0) n m) MMu 0 rfl ?_ ?_
  · rintro l a' w' ⟨aa, ab, so, na, ca, nb, cb, no, co, xs, ys, os, s8, s9, s10, s11, s12, s13, s14, s15, s16, s17, s18, s19, s20, s21, s22, s23, s24, s25, s26, s27, s28, s29, s30, s31, s32, s33, s34, s35, s36, s37, s38, s39, s40, s41, s42, s43, s44, s45, s46, s47, s48, s49, s50, s51, s52, s53, s54, s55, s56, s57, s58, s59, s60, s61, s62, s63, s64, s65, s66, s67, s68, rfl, hbel, hra, hrb, hna, hnb, hown, hsum, hzs, hl⟩
    have hla := hra.len
    have hlb := hrb.len
    rcases hl with rfl | ⟨rfl, hl⟩ | ⟨rfl, hl⟩
    · refine ⟨_, rfl, ?_⟩
      by_cases ha0 : na = 0
      · subst ha0
        have hx : xs = [] := List.eq_nil_of_length_eq_zero hla
        subst hx
        go_wp2_with fail
        refine (appendIf_any so no co os ab nb cb ys r w' w.heap.size hbel.size w hbel hown (hrb.below hbel) (by omega)).mono ?_
        rintro e w2 ⟨so', cap', k, rfl, hown2, hbel2⟩
        go_wp2_with fail
        simp only [Exit.jumps]
        go_ret
        exact ⟨so', k, cap', rfl, by rw [← hzs, mrg_nil_left]; exact hown2, hbel2⟩
      · have e1 : ((na : Int) == 0) = false := by simp; omega
        by_cases hb0 : nb = 0
        · subst hb0
          have hy : ys = [] := List.eq_nil_of_length_eq_zero hlb
          subst hy
          go_wp2_with fail
          refine (appendIf_any so no co os aa na ca xs p w' w.heap.size hbel.size w hbel hown (hra.below hbel) (by omega)).mono ?_
          rintro e w2 ⟨so', cap', k, rfl, hown2, hbel2⟩
          go_wp2_with fail
          simp only [Exit.jumps]
          go_ret
          exact ⟨so', k, cap', rfl, by rw [← hzs, mrg_nil_right]; exact hown2, hbel2⟩
        · have e2 : ((nb : Int) == 0) = false := by simp; omega
          obtain ⟨ba, offa, rfl, hca⟩ := (hra.below hbel).at (by omega)
          obtain ⟨bb, offb, rfl, hcb⟩ := (hrb.below hbel).at (by omega)
          have c1 : w'.cell? ⟨ba, offa, none⟩ = _ := hca 0 (by omega)
          have c2 : w'.cell? ⟨bb, offb, none⟩ = _ := hcb 0 (by omega)
          have p1 : (0 : Int) < (na : Int) := by omega
          have p2 : (0 : Int) < (nb : Int) := by omega
          have q1 : (1 : Int) ≤ (ca : Int) := by have := hra.cap_le; omega
          have q2 : (1 : Int) ≤ (cb : Int) := by have := hrb.cap_le; omega
          have q3 : (1 : Int) ≤ (na : Int) := by omega
          have q4 : (1 : Int) ≤ (nb : Int) := by omega
          generalize hX : xs.getD 0 0 = X at c1
          generalize hY : ys.getD 0 0 = Y at c2
          have HX : Hid (xs.getD 0 0 = X) := hX
          have HY : Hid (ys.getD 0 0 = Y) := hY
          have HLA : Hid (xs.length = na) := hla
          have HLB : Hid (ys.length = nb) := hlb
          have HZS : Hid (os ++ mrg p q r xs ys = mrg p q r xs0 ys0) := hzs
          clear hX hY hla hlb hca hcb hzs
          by_cases hXY : X < Y
          · go_wp2
            go_quiet (fail)
            go_wp2_with fail
            go_step3
            refine ⟨⟨_, _, so, na, ca, nb, cb, no, co, xs, ys, os, _, _, _, _, _, _, _, _, _, _, _, _, _, _, _, _, _, _, _, _, _, _, _, _, _, _, _, _, _, _, _, _, _, _, _, _, _, _, _, _, _, _, _, _, _, _, _, _, _, _, _, _, _, _, _, _, _, _, _, _, _, rfl, bel_drewN hbel _, hra, hrb, hna, hnb, hown.below (bel_drewN (Below.refl _ _) _), hsum, HZS.out, .inr (.inl ⟨rfl, by omega, by omega, by rw [HX.out, HY.out]; exact hXY⟩)⟩, ?_⟩
            simp [MMu, slen]
          · have hXY' : decide (X < Y) = false := by simpa using hXY
            by_cases hYX : Y < X
            · go_wp2
              go_quiet (fail)
              go_wp2
              go_quiet (fail)
              go_wp2_with fail
              go_step3
              refine ⟨⟨_, _, so, na, ca, nb, cb, no, co, xs, ys, os, _, _, _, _, _, _, _, _, _, _, _, _, _, _, _, _, _, _, _, _, _, _, _, _, _, _, _, _, _, _, _, _, _, _, _, _, _, _, _, _, _, _, _, _, _, _, _, _, _, _, _, _, _, _, _, _, _, _, _, _, _, rfl, bel_drewN (bel_drewN hbel _) _, hra, hrb, hna, hnb, hown.below (same_drew2 _ _ _), hsum, HZS.out, .inr (.inr ⟨rfl, by omega, by omega, by rw [HX.out, HY.out]; exact hYX⟩)⟩, ?_⟩
              simp [MMu, slen]
            · have hYX' : decide (Y < X) = false := by simpa using hYX
              go_wp2
              go_quiet (fail)
              go_wp2
              go_quiet (fail)
              go_wp2_with fail
              refine (appendIf_any so no co os (some ⟨ba, offa, none⟩) 1 ca (xs.take 1) q _ w.heap.size (by simpa using hbel.size) w (bel_drewN hbel _) (hown.below (bel_drewN (Below.refl _ _) _)) ((hra.pre 1 (by omega)).below (bel_drewN hbel _)) (by omega)).mono ?_
              rintro e w2 ⟨so', cap', k, rfl, hown2, hbel2⟩
              have hk : k ≤ no + 1 := by
                have h5 := hown2.1
                have h6 := kp_len q xs
                rw [List.length_append, hown.1] at h5
                omega
              have hE : X = Y := by omega
              have hz2 : (os ++ kp q (xs.take 1)) ++ mrg p q r (xs.drop 1) (ys.drop 1) = mrg p q r xs0 ys0 := by
                rw [← HZS.out, mrg_heads_eq p q r xs ys (by have := HLA.out; omega) (by have := HLB.out; omega) (by rw [HX.out, HY.out, hE]), List.append_assoc]
              have hz3 : Hid (_ = _) := hz2
              clear hz2
              go_wp2
              go_quiet (fail)
              go_wp2_with fail
              all_goals go_step3
              all_goals refine ⟨⟨_, _, so', na - 1, _, nb - 1, _, k, cap', xs.drop 1, ys.drop 1, os ++ kp q (xs.take 1), _, _, _, _, _, _, _, _, _, _, _, _, _, _, _, _, _, _, _, _, _, _, _, _, _, _, _, _, _, _, _, _, _, _, _, _, _, _, _, _, _, _, _, _, _, _, _, _, _, _, _, _, _, _, _, _, _, _, _, _, _, rfl, bel_drewN hbel2 _, ?_, ?_, by omega, by omega, hown2.below (same_drew _ _), by omega, hz3.out, .inl rfl⟩, ?_⟩
              all_goals first | (simp [MMu, slen]; omega) | exact hra.tail 1 (by omega) | exact hrb.tail 1 (by omega) | exact hra.tail1 (by omega) (by omega) | exact hrb.tail1 (by omega) (by omega)
    · refine ⟨_, rfl, ?_⟩
      obtain ⟨ha0, hb0, hlt⟩ := hl
      obtain ⟨ba, offa, rfl, hca⟩ := (hra.below hbel).at (by omega)
      have q1 : (1 : Int) ≤ (ca : Int) := by have := hra.cap_le; omega
      have q3 : (1 : Int) ≤ (na : Int) := by omega
      have HZS : Hid (os ++ mrg p q r xs ys = mrg p q r xs0 ys0) := hzs
      have HLA : Hid (xs.length = na) := hla
      have HLB : Hid (ys.length = nb) := hlb
      clear hzs hla hlb hca
      go_wp2_with fail
      refine (appendIf_any so no co os (some ⟨ba, offa, none⟩) 1 ca (xs.take 1) p _ w.heap.size hbel.size w hbel hown ((hra.pre 1 (by omega)).below hbel) (by omega)).mono ?_
      rintro e w2 ⟨so', cap', k, rfl, hown2, hbel2⟩
      have hk : k ≤ no + 1 := by
        have h5 := hown2.1
        have h6 := kp_len p xs
        rw [List.length_append, hown.1] at h5
        omega
      have hz3 : Hid ((os ++ kp p (xs.take 1)) ++ mrg p q r (xs.drop 1) ys = mrg p q r xs0 ys0) := by
        show _ = _
        rw [← HZS.out, mrg_heads_lt p q r xs ys (by have := HLA.out; omega) (by have := HLB.out; omega) hlt, List.append_assoc]
      go_wp2_with fail
      all_goals go_step3
      all_goals refine ⟨⟨_, _, so', na - 1, _, nb, _, k, cap', xs.drop 1, ys, os ++ kp p (xs.take 1), _, _, _, _, _, _, _, _, _, _, _, _, _, _, _, _, _, _, _, _, _, _, _, _, _, _, _, _, _, _, _, _, _, _, _, _, _, _, _, _, _, _, _, _, _, _, _, _, _, _, _, _, _, _, _, _, _, _, _, _, _, rfl, hbel2, ?_, hrb, by omega, by omega, hown2, by omega, hz3.out, .inl rfl⟩, ?_⟩
      all_goals first | (simp [MMu, slen]; omega) | exact hra.tail 1 (by omega) | exact hra.tail1 (by omega) (by omega)
    · refine ⟨_, rfl, ?_⟩
      obtain ⟨ha0, hb0, hlt⟩ := hl
      obtain ⟨bb, offb, rfl, hcb⟩ := (hrb.below hbel).at (by omega)
      have q1 : (1 : Int) ≤ (cb : Int) := by have := hrb.cap_le; omega
      have q3 : (1 : Int) ≤ (nb : Int) := by omega
      have HZS : Hid (os ++ mrg p q r xs ys = mrg p q r xs0 ys0) := hzs
      have HLA : Hid (xs.length = na) := hla
      have HLB : Hid (ys.length = nb) := hlb
      clear hzs hla hlb hcb
      go_wp2_with fail
      refine (appendIf_any so no co os (some ⟨bb, offb, none⟩) 1 cb (ys.take 1) r _ w.heap.size hbel.size w hbel hown ((hrb.pre 1 (by omega)).below hbel) (by omega)).mono ?_
      rintro e w2 ⟨so', cap', k, rfl, hown2, hbel2⟩
      have hk : k ≤ no + 1 := by
        have h5 := hown2.1
        have h6 := kp_len r ys
        rw [List.length_append, hown.1] at h5
        omega
      have hz3 : Hid ((os ++ kp r (ys.take 1)) ++ mrg p q r xs (ys.drop 1) = mrg p q r xs0 ys0) := by
        show _ = _
        rw [← HZS.out, mrg_heads_gt p q r xs ys (by have := HLA.out; omega) (by have := HLB.out; omega) hlt, List.append_assoc]
      go_wp2_with fail
      all_goals go_step3
      all_goals refine ⟨⟨_, _, so', na, _, nb - 1, _, k, cap', xs, ys.drop 1, os ++ kp r (ys.take 1), _, _, _, _, _, _, _, _, _, _, _, _, _, _, _, _, _, _, _, _, _, _, _, _, _, _, _, _, _, _, _, _, _, _, _, _, _, _, _, _, _, _, _, _, _, _, _, _, _, _, _, _, _, _, _, _, _, _, _, _, _, rfl, hbel2, hra, ?_, by omega, by omega, hown2, by omega, hz3.out, .inl rfl⟩, ?_⟩
      all_goals first | (simp [MMu, slen]; omega) | exact hrb.tail 1 (by omega) | exact hrb.tail1 (by omega) (by omega)
  · intro hpass
    go_wp2_with fail
    go_step3
    rename_i hK
    refine hK _ _ ?_
    exact hpass.out _ _ ⟨a, b, none, n, cap, m, cap2, 0, 0, xs0, ys0, [], _, _, _, _, _, _, _, _, _, _, _, _, _, _, _, _, _, _, _, _, _, _, _, _, _, _, _, _, _, _, _, _, _, _, _, _, _, _, _, _, _, _, _, _, _, _, _, _, _, _, _, _, _, _, _, _, _, _, _, _, _, rfl, Below.refl _ _, hr, hs, Nat.le_refl _, Nat.le_refl _, OwnW.of_nil _ _ _, by omega, by simp, .inl rfl⟩

set_option maxHeartbeats 400000 in
theorem and_any (a b : Option Addr) (n cap m cap2 : Nat) (xs ys : List Int) (w : World) (hr : RowW w a n cap xs) (hs : RowW w b m cap2 ys) (hbd : n + m ≤ 70368744177664) :
    Calls Try.prog 67 #[.slice a n cap, .slice b m cap2] w fun e w' => ∃ so k co, e = .returned (.slice so k co) ∧ OwnW 42 w' w.heap.size so k co (mrg false true false xs ys) ∧ Below w.heap.size w w' := by
  go_enter Try.func67, Try.ntmps67
  go_wp2_with fail
  refine (merge_any a b n cap m cap2 xs ys 2 false true false w hr hs hbd (.inr (.inl ⟨rfl, rfl, rfl, rfl⟩))).mono ?_
  rintro e w2 ⟨so, k, co, rfl, hown, hbel⟩
  go_wp2_with fail
  go_ret
  exact ⟨so, k, co, rfl, hown, hbel⟩
end Go.Proofs.Ytkmpmljohjelhaa

namespace Go.Proofs.Ytkmpmljohjelhaa
open Go.RowKit
set_option maxRecDepth 100000

theorem mem_take_succ {xs : List Int} {i : Nat} (hi : i < xs.length) {x : Int} : x ∈ xs.take (i + 1) ↔ x ∈ xs.take i ∨ x = xs.getD i 0 := by
  rw [List.take_succ_eq_append_getElem hi, List.mem_append, List.mem_singleton, getD_eq hi]
theorem ownw_lit_at (w : World) (g : Nat) (hg : w.heap.size = g) (e : TypeId) (xs : List Int) (n : Nat) (hn : xs.length = n) (hm : n ≤ 9223372036854775807) (hb : Wrd xs) {B : Nat} (hB : B ≤ w.heap.size) : OwnW e (w.alloc (.cells (xs.map (Value.int .u16)).toArray e)) B (some ⟨g, 0, none⟩) n n xs := by
  subst hg; exact (ownw_lit w e xs n hn hm hb).mono hB
theorem roww_lit_at (w : World) (g : Nat) (hg : w.heap.size = g) (e : TypeId) (xs : List Int) (n : Nat) (hn : xs.length = n) (hm : n ≤ 9223372036854775807) (hb : Wrd xs) : RowW (w.alloc (.cells (xs.map (Value.int .u16)).toArray e)) (some ⟨g, 0, none⟩) n n xs := by
  subst hg; exact roww_lit w e xs n hn hm hb

set_option maxHeartbeats 4000000 in
theorem refMake_any (a : Option Addr) (n cap : Nat) (xs : List Int) (w : World) (hr : RowW w a n cap xs) (hbd : n ≤ 35184372088832) :
    Calls Try.prog 54 #[.slice a n cap] w fun e w' => ∃ so k co zs, e = .returned (.slice so k co) ∧ OwnW 42 w' w.heap.size so k co zs ∧ Below w.heap.size w w' ∧ Srt zs ∧ (∀ x, x ∈ zs ↔ x ∈ xs) ∧ k ≤ n := by
  have hl : Hid (xs.length = n) := hr.len
  have hcap := hr.cap_le
  go_enter Try.func54, Try.ntmps54
  go_wp2_with fail
  go_loopw [3, 4] (fun o iv wr => ∃ (i : Nat) (so : Option Addr) (no co : Nat) (zs : List Int), i ≤ n ∧ o = .slice so no co ∧ iv = .int .i64 i ∧ OwnW 42 wr w.heap.size so no co zs ∧ Below w.heap.size w wr ∧ Srt zs ∧ (∀ x, x ∈ zs ↔ x ∈ xs.take i) ∧ no ≤ i) (fun _ i _ => n - (intOf i).toNat)
  case atStart => exact ⟨0, none, 0, 0, [], by omega, rfl, rfl, OwnW.of_nil _ _ _, Below.refl _ _, Srt.nil, by simp, by omega⟩
  case round =>
    obtain ⟨i, so, no, co, zs, hi, rfl, rfl, hown, hbel, hsrt, hmem, hno⟩ := hrel
    have hlz : Hid (zs.length = no) := hown.1
    have hco := hown.row.cap_le
    by_cases hlt : i < n
    · have hp : (i : Int) < (n : Int) := by omega
      obtain ⟨b, off, rfl, hc⟩ := (hr.below hbel).at (by omega)
      have c1 := hc i hlt
      generalize hX : xs.getD i 0 = X at c1
      have HX : Hid (xs.getD i 0 = X) := hX
      have HXb : 0 ≤ X ∧ X < 65536 := by rw [← hX]; exact hr.wrd.get i
      clear hX hc
      go_wp2_with fail
      obtain ⟨wo, rfl⟩ : ∃ x, x = wr := ⟨_, rfl⟩
      go_loopw [5] (fun kv wi => ∃ k : Nat, k ≤ no ∧ kv = .int .i64 k ∧ Below wo.heap.size wo wi ∧ (∀ j, j < k → zs.getD j 0 < X)) (fun kv _ => no - (intOf kv).toNat)
      case atStart => exact ⟨0, by omega, rfl, Below.refl _ _, fun j h => by omega⟩
      case round =>
        obtain ⟨k, hk, rfl, hbi, hlo⟩ := hrel
        have c1i : wr.cell? ⟨b, off + i, none⟩ = some (.int .u16 X) := by rw [hbi.cell (lt_of_cell c1)]; exact c1
        by_cases hkn : k < no
        · have hp2 : (k : Int) < (no : Int) := by omega
          obtain ⟨g, goff, rfl, hcz⟩ := (hown.row.below hbi).at (by omega)
          have c2 := hcz k hkn
          generalize hY : zs.getD k 0 = Y at c2
          have HY : Hid (zs.getD k 0 = Y) := hY
          clear hY hcz
          by_cases hYX : Y < X
          · go_wp2
            go_quiet (fail)
            go_wp2
            go_roundw
            case rel =>
              refine ⟨k + 1, by omega, by go_num, bel_drewN hbi _, fun j hj => ?_⟩
              by_cases hjk : j < k
              · exact hlo j hjk
              · obtain rfl : j = k := by omega
                rw [HY.out]; exact hYX
            case measure => simp [intOf]; omega
          · have hYX' : decide (Y < X) = false := by simpa using hYX
            have hpe : ((k : Int) == (no : Int)) = false := by simp; omega
            by_cases hE : Y = X
            · subst hE
              go_wp2
              go_quiet (fail)
              obtain ⟨nq1, rfl⟩ : ∃ x, x = nq := ⟨_, rfl⟩
              go_wp2
              go_quiet (fail)
              go_wp2
              go_roundw
              case rel =>
                have hbw : Below wo.heap.size wo (wr.drewN (nq1 + nq)) := bel_drewN hbi _
                refine ⟨i + 1, _, no, co, zs, by omega, rfl, by go_num, hown.below hbw, ext_trans hbel hbw, hsrt, fun x => ?_, by omega⟩
                rw [mem_take_succ (by rw [hl.out]; exact hlt), HX.out, ← hmem]
                refine ⟨Or.inl, fun h => h.elim id (fun e => ?_)⟩
                rw [e]
                exact mem_getD.2 ⟨k, by rw [hlz.out]; exact hkn, HY.out⟩
              case measure => simp [intOf]; omega
            · have hE' : (Y == X) = false := by simpa using hE
              have hhi : Hid (k < no → X < zs.getD k 0) := fun _ => by rw [HY.out]; omega
              have hk1 : k ≤ co := by omega
              have hk2 : (k : Int) ≤ (co : Int) := by omega
              have hk3 : (k : Int) ≤ (no : Int) := by omega
              have hk4 : ¬ co = k := by omega
              go_wp2
              go_quiet (fail)
              obtain ⟨nq1, rfl⟩ : ∃ x, x = nq := ⟨_, rfl⟩
              go_wp2
              go_quiet (fail)
              go_wp2_with fail
              have hSat : Hid (∀ W, Below wr.heap.size wr W → RowW W (some ⟨g, goff, none⟩) no co zs ∧ W.cell? ⟨b, off + i, none⟩ = some (.int .u16 X)) := fun W h => ⟨(hown.row.below hbi).below h, by rw [h.cell (lt_of_cell c1i)]; exact c1i⟩
              refine wp_region_noPanic ?_
              refine wp_region_held_drew (S := fun W => RowW W (some ⟨g, goff, none⟩) no co zs ∧ W.cell? ⟨b, off + i, none⟩ = some (.int .u16 X)) (by kernel_rfl) (hSat.out _ (Below.drew (bel_drewN (bel_drewN (Below.refl _ _) _) _))) fun hS => ?_
              refine take_to (i := 1) (v := ?_) 45 rfl rfl (by kernel_rfl) (by kernel_rfl) (by kernel_rfl) (fun _ _ _ h => h) (Or.inl ⟨by rfl, ?_⟩) hS ?_
              rotate_left
              · intro W hW
                go_simp
                try with_reducible rfl
              simp only [List.setIfInBounds_toArray, List.set_cons_zero, List.set_cons_succ]
              refine take_to (i := 2) (v := ?_) 46 rfl rfl (by kernel_rfl) (by kernel_rfl) (by kernel_rfl) (fun _ _ _ h => h) (Or.inl ⟨by rfl, ?_⟩) hS ?_
              rotate_left
              · intro W hW
                go_simp
                try with_reducible rfl
              simp only [List.setIfInBounds_toArray, List.set_cons_zero, List.set_cons_succ]
              refine take_to (i := 3) (v := ?_) 47 rfl rfl (by kernel_rfl) (by kernel_rfl) (by kernel_rfl) (fun _ _ _ h => h) (Or.inl ⟨by rfl, ?_⟩) hS ?_
              rotate_left
              · intro W hW
                go_simp
                try with_reducible rfl
              simp only [List.setIfInBounds_toArray, List.set_cons_zero, List.set_cons_succ]
              refine take_to (i := 5) (v := ?_) 49 rfl rfl (by kernel_rfl) (by kernel_rfl) (by kernel_rfl) (fun _ _ _ h => h) (Or.inl ⟨by rfl, ?_⟩) hS ?_
              rotate_left
              · intro W hW
                go_simp
                try with_reducible rfl
              simp only [List.setIfInBounds_toArray, List.set_cons_zero, List.set_cons_succ]
              refine take_to (i := 6) (v := ?_) 50 rfl rfl (by kernel_rfl) (by kernel_rfl) (by kernel_rfl) (fun _ _ _ h => h) (Or.inl ⟨by rfl, ?_⟩) hS ?_
              rotate_left
              · intro W hW
                go_simp
                try with_reducible rfl
              simp only [List.setIfInBounds_toArray, List.set_cons_zero, List.set_cons_succ]
              refine take_to (i := 7) (v := ?_) 51 rfl rfl (by kernel_rfl) (by kernel_rfl) (by kernel_rfl) (fun _ _ _ h => h) (Or.inl ⟨by rfl, ?_⟩) hS ?_
              rotate_left
              · intro W hW
                go_simp
                try with_reducible rfl
              simp only [List.setIfInBounds_toArray, List.set_cons_zero, List.set_cons_succ]
              refine take_to (i := 8) (v := ?_) 52 rfl rfl (by kernel_rfl) (by kernel_rfl) (by kernel_rfl) (fun _ _ _ h => h) (Or.inl ⟨by rfl, ?_⟩) hS ?_
              rotate_left
              · intro W hW
                have hcX := hW.2
                go_simp
                try with_reducible rfl
              simp only [List.setIfInBounds_toArray, List.set_cons_zero, List.set_cons_succ]
              refine take_to (i := 11) (v := ?_) 55 rfl rfl (by kernel_rfl) (by kernel_rfl) (by kernel_rfl) (fun _ _ _ h => h) (Or.inl ⟨by rfl, ?_⟩) hS ?_
              rotate_left
              · intro W hW
                go_simp
                try with_reducible rfl
              simp only [List.setIfInBounds_toArray, List.set_cons_zero, List.set_cons_succ]
              refine take_to (i := 12) (v := ?_) 56 rfl rfl (by kernel_rfl) (by kernel_rfl) (by kernel_rfl) (fun _ _ _ h => h) (Or.inl ⟨by rfl, ?_⟩) hS ?_
              rotate_left
              · intro W hW
                go_simp
                try with_reducible rfl
              simp only [List.setIfInBounds_toArray, List.set_cons_zero, List.set_cons_succ]
              refine take_to (i := 13) (v := ?_) 57 rfl rfl (by kernel_rfl) (by kernel_rfl) (by kernel_rfl) (fun _ _ _ h => h) (Or.inl ⟨by rfl, ?_⟩) hS ?_
              rotate_left
              · intro W hW
                go_simp
                try with_reducible rfl
              simp only [List.setIfInBounds_toArray, List.set_cons_zero, List.set_cons_succ]
              
              have hbz : Below wr.heap.size wr (wr.drewN (nq1 + nq + 1)) := bel_drewN (Below.refl _ _) _
              refine wpAnyH_ready (rs := [0, 9]) (by kernel_rfl) (by simp) ?_
              refine AllReadyH.cons rfl (fun K hK => ?_) (AllReadyH.cons rfl (fun K hK => ?_) AllReadyH.nil)
              · go_simp
                have h0_0 : Below wr.heap.size wr ((wr.drewN (nq1 + nq + 1)).alloc (.cells #[] 42)) := hbz.alloc hbz.size _
                refine hK.out _ _ (hSat.out _ h0_0) fun _ => ?_
                clear hK K
                have o0 : OwnW 42 ((wr.drewN (nq1 + nq + 1)).alloc (.cells #[] 42)) wr.heap.size (some ⟨wr.heap.size, 0, none⟩) 0 0 [] := ownw_lit_at _ _ (by simp) 42 [] 0 rfl (by omega) Wrd.nil (by simp)
                refine wpAnyH_ready (rs := [4, 9]) (by kernel_rfl) (by simp) ?_
                refine AllReadyH.cons rfl (fun K hK => ?_) (AllReadyH.cons rfl (fun K hK => ?_) AllReadyH.nil)
                · refine Eq.mpr (if_pos (by kernel_rfl)) ?_
                  refine op_append_words_g _ (.tmp 44) (.tmp 47) 26 rfl 42 Try.underlying26 info27 wr.heap.size 0 0 _ [] rfl o0 (some ⟨g, goff, none⟩) k co (zs.take k) rfl (((hSat.out _ h0_0).1).pre k hk) (by omega) h0_0.size wr h0_0 ?_
                  intro s4 c4 w4_1 o4 h4_1 g4
                  refine hK.out _ _ (hSat.out _ h4_1) fun _ => ?_
                  clear hK K
                  rw [Nat.zero_add, List.nil_append] at o4
                  refine wpAnyH_ready (rs := [9]) (by kernel_rfl) (by simp) ?_
                  refine AllReadyH.cons rfl (fun K hK => ?_) AllReadyH.nil
                  go_simp
                  have h9_2 : Below wr.heap.size wr (w4_1.alloc (.cells #[Value.int .u16 X] 42)) := h4_1.alloc h4_1.size _
                  refine hK.out _ _ (hSat.out _ h9_2) fun _ => ?_
                  clear hK K
                  replace o4 := o4.below (below_alloc _ (.cells #[Value.int .u16 X] 42))
                  have r9 : RowW (w4_1.alloc (.cells #[Value.int .u16 X] 42)) (some ⟨w4_1.heap.size, 0, none⟩) 1 1 [X] := roww_lit_at _ _ (by simp) 42 [X] 1 rfl (by omega) (Wrd.one HXb)
                  refine wpAnyH_ready (rs := [10]) (by kernel_rfl) (by simp) ?_
                  refine AllReadyH.cons rfl (fun K hK => ?_) AllReadyH.nil
                  refine Eq.mpr (if_pos (by kernel_rfl)) ?_
                  refine op_append_words _ (.tmp 48) (.tmp 53) 26 rfl 42 Try.underlying26 info27 wr.heap.size _ c4 s4 _ rfl o4 _ 1 1 [X] rfl r9 (by omega) h9_2.size wr h9_2 ?_
                  intro s10 c10 w10 o10 h10_3
                  refine hK.out _ _ (hSat.out _ h10_3) fun _ => ?_
                  clear hK K
                  refine wpAnyH_ready (rs := [14]) (by kernel_rfl) (by simp) ?_
                  refine AllReadyH.cons rfl (fun K hK => ?_) AllReadyH.nil
                  refine Eq.mpr (if_pos (by kernel_rfl)) ?_
                  refine op_append_words _ (.tmp 54) (.tmp 57) 26 rfl 42 Try.underlying26 info27 wr.heap.size _ c10 s10 _ rfl o10 _ _ _ (zs.drop k) rfl ((hSat.out _ h10_3).1.tail k hk) (by omega) h10_3.size wr h10_3 ?_
                  intro s14 c14 w14 o14 h14_4
                  refine hK.out _ _ (hSat.out _ h14_4) fun _ => ?_
                  clear hK K
                  refine wpAnyH_ready (rs := [15]) (by kernel_rfl) (by simp) ?_
                  refine AllReadyH.cons rfl (fun K hK => ?_) AllReadyH.nil
                  go_simp
                  refine hK.out _ _ (hSat.out _ h14_4) fun _ => ?_
                  clear hK K
                  try simp only [Nat.zero_add, List.nil_append] at o14
                  refine wpAnyH_done (by kernel_rfl) ?_ _
                  refine NoPanic.normal ?_
                  go_wp2_with fail
                  go_roundw
                  case rel =>
                    have hins := ins_place hsrt (x := X) (k := k) (by rw [hlz.out]; exact hk) hlo (fun h => hhi.out (by rw [← hlz.out]; exact h))
                    refine ⟨i + 1, s14, _, c14, zs.take k ++ [X] ++ zs.drop k, by omega, rfl, by go_num, o14.mono (Nat.le_trans hbel.size hbi.size), ext_trans (ext_trans hbel hbi) h14_4, hins.1, fun x => ?_, by omega⟩
                    rw [hins.2, mem_take_succ (by rw [hl.out]; exact hlt), HX.out, hmem]
                    exact Or.comm
                  case measure => simp [intOf]; omega
                · go_simp
                  have h9_1 : Below wr.heap.size wr (((wr.drewN (nq1 + nq + 1)).alloc (.cells #[] 42)).alloc (.cells #[Value.int .u16 X] 42)) := h0_0.alloc h0_0.size _
                  refine hK.out _ _ (hSat.out _ h9_1) fun _ => ?_
                  clear hK K
                  replace o0 := o0.below (below_alloc _ (.cells #[Value.int .u16 X] 42))
                  have r9 : RowW (((wr.drewN (nq1 + nq + 1)).alloc (.cells #[] 42)).alloc (.cells #[Value.int .u16 X] 42)) (some ⟨(wr.heap.size + 1), 0, none⟩) 1 1 [X] := roww_lit_at _ _ (by simp) 42 [X] 1 rfl (by omega) (Wrd.one HXb)
                  refine wpAnyH_ready (rs := [4]) (by kernel_rfl) (by simp) ?_
                  refine AllReadyH.cons rfl (fun K hK => ?_) AllReadyH.nil
                  refine Eq.mpr (if_pos (by kernel_rfl)) ?_
                  refine op_append_words_g _ (.tmp 44) (.tmp 47) 26 rfl 42 Try.underlying26 info27 wr.heap.size 0 0 _ [] rfl o0 (some ⟨g, goff, none⟩) k co (zs.take k) rfl (((hSat.out _ h9_1).1).pre k hk) (by omega) h9_1.size wr h9_1 ?_
                  intro s4 c4 w4_2 o4 h4_2 g4
                  refine hK.out _ _ (hSat.out _ h4_2) fun _ => ?_
                  clear hK K
                  replace r9 := r9.grown g4 (by intro x hx; cases hx; simp [Value.ownBlock])
                  refine wpAnyH_ready (rs := [10]) (by kernel_rfl) (by simp) ?_
                  refine AllReadyH.cons rfl (fun K hK => ?_) AllReadyH.nil
                  refine Eq.mpr (if_pos (by kernel_rfl)) ?_
                  refine op_append_words _ (.tmp 48) (.tmp 53) 26 rfl 42 Try.underlying26 info27 wr.heap.size _ c4 s4 _ rfl o4 _ 1 1 [X] rfl r9 (by omega) h4_2.size wr h4_2 ?_
                  intro s10 c10 w10 o10 h10_3
                  refine hK.out _ _ (hSat.out _ h10_3) fun _ => ?_
                  clear hK K
                  refine wpAnyH_ready (rs := [14]) (by kernel_rfl) (by simp) ?_
                  refine AllReadyH.cons rfl (fun K hK => ?_) AllReadyH.nil
                  refine Eq.mpr (if_pos (by kernel_rfl)) ?_
                  refine op_append_words _ (.tmp 54) (.tmp 57) 26 rfl 42 Try.underlying26 info27 wr.heap.size _ c10 s10 _ rfl o10 _ _ _ (zs.drop k) rfl ((hSat.out _ h10_3).1.tail k hk) (by omega) h10_3.size wr h10_3 ?_
                  intro s14 c14 w14 o14 h14_4
                  refine hK.out _ _ (hSat.out _ h14_4) fun _ => ?_
                  clear hK K
                  refine wpAnyH_ready (rs := [15]) (by kernel_rfl) (by simp) ?_
                  refine AllReadyH.cons rfl (fun K hK => ?_) AllReadyH.nil
                  go_simp
                  refine hK.out _ _ (hSat.out _ h14_4) fun _ => ?_
                  clear hK K
                  try simp only [Nat.zero_add, List.nil_append] at o14
                  refine wpAnyH_done (by kernel_rfl) ?_ _
                  refine NoPanic.normal ?_
                  go_wp2_with fail
                  go_roundw
                  case rel =>
                    have hins := ins_place hsrt (x := X) (k := k) (by rw [hlz.out]; exact hk) hlo (fun h => hhi.out (by rw [← hlz.out]; exact h))
                    refine ⟨i + 1, s14, _, c14, zs.take k ++ [X] ++ zs.drop k, by omega, rfl, by go_num, o14.mono (Nat.le_trans hbel.size hbi.size), ext_trans (ext_trans hbel hbi) h14_4, hins.1, fun x => ?_, by omega⟩
                    rw [hins.2, mem_take_succ (by rw [hl.out]; exact hlt), HX.out, hmem]
                    exact Or.comm
                  case measure => simp [intOf]; omega
              · go_simp
                have h9_0 : Below wr.heap.size wr ((wr.drewN (nq1 + nq + 1)).alloc (.cells #[Value.int .u16 X] 42)) := hbz.alloc hbz.size _
                refine hK.out _ _ (hSat.out _ h9_0) fun _ => ?_
                clear hK K
                have r9 : RowW ((wr.drewN (nq1 + nq + 1)).alloc (.cells #[Value.int .u16 X] 42)) (some ⟨wr.heap.size, 0, none⟩) 1 1 [X] := roww_lit_at _ _ (by simp) 42 [X] 1 rfl (by omega) (Wrd.one HXb)
                refine wpAnyH_ready (rs := [0]) (by kernel_rfl) (by simp) ?_
                refine AllReadyH.cons rfl (fun K hK => ?_) AllReadyH.nil
                go_simp
                have h0_1 : Below wr.heap.size wr (((wr.drewN (nq1 + nq + 1)).alloc (.cells #[Value.int .u16 X] 42)).alloc (.cells #[] 42)) := h9_0.alloc h9_0.size _
                refine hK.out _ _ (hSat.out _ h0_1) fun _ => ?_
                clear hK K
                replace r9 := r9.below (below_alloc _ (.cells #[] 42))
                have o0 : OwnW 42 (((wr.drewN (nq1 + nq + 1)).alloc (.cells #[Value.int .u16 X] 42)).alloc (.cells #[] 42)) wr.heap.size (some ⟨(wr.heap.size + 1), 0, none⟩) 0 0 [] := ownw_lit_at _ _ (by simp) 42 [] 0 rfl (by omega) Wrd.nil (by simp)
                refine wpAnyH_ready (rs := [4]) (by kernel_rfl) (by simp) ?_
                refine AllReadyH.cons rfl (fun K hK => ?_) AllReadyH.nil
                refine Eq.mpr (if_pos (by kernel_rfl)) ?_
                refine op_append_words_g _ (.tmp 44) (.tmp 47) 26 rfl 42 Try.underlying26 info27 wr.heap.size 0 0 _ [] rfl o0 (some ⟨g, goff, none⟩) k co (zs.take k) rfl (((hSat.out _ h0_1).1).pre k hk) (by omega) h0_1.size wr h0_1 ?_
                intro s4 c4 w4_2 o4 h4_2 g4
                refine hK.out _ _ (hSat.out _ h4_2) fun _ => ?_
                clear hK K
                replace r9 := r9.grown g4 (by intro x hx; cases hx; simp [Value.ownBlock])
                refine wpAnyH_ready (rs := [10]) (by kernel_rfl) (by simp) ?_
                refine AllReadyH.cons rfl (fun K hK => ?_) AllReadyH.nil
                refine Eq.mpr (if_pos (by kernel_rfl)) ?_
                refine op_append_words _ (.tmp 48) (.tmp 53) 26 rfl 42 Try.underlying26 info27 wr.heap.size _ c4 s4 _ rfl o4 _ 1 1 [X] rfl r9 (by omega) h4_2.size wr h4_2 ?_
                intro s10 c10 w10 o10 h10_3
                refine hK.out _ _ (hSat.out _ h10_3) fun _ => ?_
                clear hK K
                refine wpAnyH_ready (rs := [14]) (by kernel_rfl) (by simp) ?_
                refine AllReadyH.cons rfl (fun K hK => ?_) AllReadyH.nil
                refine Eq.mpr (if_pos (by kernel_rfl)) ?_
                refine op_append_words _ (.tmp 54) (.tmp 57) 26 rfl 42 Try.underlying26 info27 wr.heap.size _ c10 s10 _ rfl o10 _ _ _ (zs.drop k) rfl ((hSat.out _ h10_3).1.tail k hk) (by omega) h10_3.size wr h10_3 ?_
                intro s14 c14 w14 o14 h14_4
                refine hK.out _ _ (hSat.out _ h14_4) fun _ => ?_
                clear hK K
                refine wpAnyH_ready (rs := [15]) (by kernel_rfl) (by simp) ?_
                refine AllReadyH.cons rfl (fun K hK => ?_) AllReadyH.nil
                go_simp
                refine hK.out _ _ (hSat.out _ h14_4) fun _ => ?_
                clear hK K
                try simp only [Nat.zero_add, List.nil_append] at o14
                refine wpAnyH_done (by kernel_rfl) ?_ _
                refine NoPanic.normal ?_
                go_wp2_with fail
                go_roundw
                case rel =>
                  have hins := ins_place hsrt (x := X) (k := k) (by rw [hlz.out]; exact hk) hlo (fun h => hhi.out (by rw [← hlz.out]; exact h))
                  refine ⟨i + 1, s14, _, c14, zs.take k ++ [X] ++ zs.drop k, by omega, rfl, by go_num, o14.mono (Nat.le_trans hbel.size hbi.size), ext_trans (ext_trans hbel hbi) h14_4, hins.1, fun x => ?_, by omega⟩
                  rw [hins.2, mem_take_succ (by rw [hl.out]; exact hlt), HX.out, hmem]
                  exact Or.comm
                case measure => simp [intOf]; omega
        · have hpf : decide ((k : Int) < (no : Int)) = false := by simp; omega
          have hk1 : k ≤ co := by omega
          have hk2 : (k : Int) ≤ (co : Int) := by omega
          have hk3 : (k : Int) ≤ (no : Int) := by omega
          have hpe : ((k : Int) == (no : Int)) = true := by simp; omega
          have hhi : Hid (k < no → X < zs.getD k 0) := fun h => absurd h hkn
          go_wp2
          go_quiet (fail)
          obtain ⟨nq1, rfl⟩ : ∃ x, x = nq := ⟨_, rfl⟩
          go_wp2
          go_quiet (fail)
          go_wp2_with fail
          have hSat : Hid (∀ W, Below wr.heap.size wr W → RowW W so no co zs ∧ W.cell? ⟨b, off + i, none⟩ = some (.int .u16 X)) := fun W h => ⟨(hown.row.below hbi).below h, by rw [h.cell (lt_of_cell c1i)]; exact c1i⟩
          refine wp_region_noPanic ?_
          refine wp_region_held_drew (S := fun W => RowW W so no co zs ∧ W.cell? ⟨b, off + i, none⟩ = some (.int .u16 X)) (by kernel_rfl) (hSat.out _ (Below.drew (bel_drewN (bel_drewN (Below.refl _ _) _) _))) fun hS => ?_
          refine take_to (i := 1) (v := ?_) 45 rfl rfl (by kernel_rfl) (by kernel_rfl) (by kernel_rfl) (fun _ _ _ h => h) (Or.inl ⟨by rfl, ?_⟩) hS ?_
          rotate_left
          · intro W hW
            go_simp
            try with_reducible rfl
          simp only [List.setIfInBounds_toArray, List.set_cons_zero, List.set_cons_succ]
          refine take_to (i := 2) (v := ?_) 46 rfl rfl (by kernel_rfl) (by kernel_rfl) (by kernel_rfl) (fun _ _ _ h => h) (Or.inl ⟨by rfl, ?_⟩) hS ?_
          rotate_left
          · intro W hW
            go_simp
            try with_reducible rfl
          simp only [List.setIfInBounds_toArray, List.set_cons_zero, List.set_cons_succ]
          refine take_to (i := 3) (v := ?_) 47 rfl rfl (by kernel_rfl) (by kernel_rfl) (by kernel_rfl) (fun _ _ _ h => h) (Or.inl ⟨by rfl, ?_⟩) hS ?_
          rotate_left
          · intro W hW
            go_simp
            try with_reducible rfl
          simp only [List.setIfInBounds_toArray, List.set_cons_zero, List.set_cons_succ]
          refine take_to (i := 5) (v := ?_) 49 rfl rfl (by kernel_rfl) (by kernel_rfl) (by kernel_rfl) (fun _ _ _ h => h) (Or.inl ⟨by rfl, ?_⟩) hS ?_
          rotate_left
          · intro W hW
            go_simp
            try with_reducible rfl
          simp only [List.setIfInBounds_toArray, List.set_cons_zero, List.set_cons_succ]
          refine take_to (i := 6) (v := ?_) 50 rfl rfl (by kernel_rfl) (by kernel_rfl) (by kernel_rfl) (fun _ _ _ h => h) (Or.inl ⟨by rfl, ?_⟩) hS ?_
          rotate_left
          · intro W hW
            go_simp
            try with_reducible rfl
          simp only [List.setIfInBounds_toArray, List.set_cons_zero, List.set_cons_succ]
          refine take_to (i := 7) (v := ?_) 51 rfl rfl (by kernel_rfl) (by kernel_rfl) (by kernel_rfl) (fun _ _ _ h => h) (Or.inl ⟨by rfl, ?_⟩) hS ?_
          rotate_left
          · intro W hW
            go_simp
            try with_reducible rfl
          simp only [List.setIfInBounds_toArray, List.set_cons_zero, List.set_cons_succ]
          refine take_to (i := 8) (v := ?_) 52 rfl rfl (by kernel_rfl) (by kernel_rfl) (by kernel_rfl) (fun _ _ _ h => h) (Or.inl ⟨by rfl, ?_⟩) hS ?_
          rotate_left
          · intro W hW
            have hcX := hW.2
            go_simp
            try with_reducible rfl
          simp only [List.setIfInBounds_toArray, List.set_cons_zero, List.set_cons_succ]
          refine take_to (i := 11) (v := ?_) 55 rfl rfl (by kernel_rfl) (by kernel_rfl) (by kernel_rfl) (fun _ _ _ h => h) (Or.inl ⟨by rfl, ?_⟩) hS ?_
          rotate_left
          · intro W hW
            go_simp
            try with_reducible rfl
          simp only [List.setIfInBounds_toArray, List.set_cons_zero, List.set_cons_succ]
          refine take_to (i := 12) (v := ?_) 56 rfl rfl (by kernel_rfl) (by kernel_rfl) (by kernel_rfl) (fun _ _ _ h => h) (Or.inl ⟨by rfl, ?_⟩) hS ?_
          rotate_left
          · intro W hW
            go_simp
            try with_reducible rfl
          simp only [List.setIfInBounds_toArray, List.set_cons_zero, List.set_cons_succ]
          refine take_to (i := 13) (v := ?_) 57 rfl rfl (by kernel_rfl) (by kernel_rfl) (by kernel_rfl) (fun _ _ _ h => h) (Or.inl ⟨by rfl, ?_⟩) hS ?_
          rotate_left
          · intro W hW
            go_simp
            try with_reducible rfl
          simp only [List.setIfInBounds_toArray, List.set_cons_zero, List.set_cons_succ]
          
          have hbz : Below wr.heap.size wr (wr.drewN (nq1 + nq + 1)) := bel_drewN (Below.refl _ _) _
          refine wpAnyH_ready (rs := [0, 9]) (by kernel_rfl) (by simp) ?_
          refine AllReadyH.cons rfl (fun K hK => ?_) (AllReadyH.cons rfl (fun K hK => ?_) AllReadyH.nil)
          · go_simp
            have h0_0 : Below wr.heap.size wr ((wr.drewN (nq1 + nq + 1)).alloc (.cells #[] 42)) := hbz.alloc hbz.size _
            refine hK.out _ _ (hSat.out _ h0_0) fun _ => ?_
            clear hK K
            have o0 : OwnW 42 ((wr.drewN (nq1 + nq + 1)).alloc (.cells #[] 42)) wr.heap.size (some ⟨wr.heap.size, 0, none⟩) 0 0 [] := ownw_lit_at _ _ (by simp) 42 [] 0 rfl (by omega) Wrd.nil (by simp)
            refine wpAnyH_ready (rs := [4, 9]) (by kernel_rfl) (by simp) ?_
            refine AllReadyH.cons rfl (fun K hK => ?_) (AllReadyH.cons rfl (fun K hK => ?_) AllReadyH.nil)
            · refine Eq.mpr (if_pos (by kernel_rfl)) ?_
              refine op_append_words_g _ (.tmp 44) (.tmp 47) 26 rfl 42 Try.underlying26 info27 wr.heap.size 0 0 _ [] rfl o0 so k co (zs.take k) rfl (((hSat.out _ h0_0).1).pre k hk) (by omega) h0_0.size wr h0_0 ?_
              intro s4 c4 w4_1 o4 h4_1 g4
              refine hK.out _ _ (hSat.out _ h4_1) fun _ => ?_
              clear hK K
              rw [Nat.zero_add, List.nil_append] at o4
              refine wpAnyH_ready (rs := [9]) (by kernel_rfl) (by simp) ?_
              refine AllReadyH.cons rfl (fun K hK => ?_) AllReadyH.nil
              go_simp
              have h9_2 : Below wr.heap.size wr (w4_1.alloc (.cells #[Value.int .u16 X] 42)) := h4_1.alloc h4_1.size _
              refine hK.out _ _ (hSat.out _ h9_2) fun _ => ?_
              clear hK K
              replace o4 := o4.below (below_alloc _ (.cells #[Value.int .u16 X] 42))
              have r9 : RowW (w4_1.alloc (.cells #[Value.int .u16 X] 42)) (some ⟨w4_1.heap.size, 0, none⟩) 1 1 [X] := roww_lit_at _ _ (by simp) 42 [X] 1 rfl (by omega) (Wrd.one HXb)
              refine wpAnyH_ready (rs := [10]) (by kernel_rfl) (by simp) ?_
              refine AllReadyH.cons rfl (fun K hK => ?_) AllReadyH.nil
              refine Eq.mpr (if_pos (by kernel_rfl)) ?_
              refine op_append_words _ (.tmp 48) (.tmp 53) 26 rfl 42 Try.underlying26 info27 wr.heap.size _ c4 s4 _ rfl o4 _ 1 1 [X] rfl r9 (by omega) h9_2.size wr h9_2 ?_
              intro s10 c10 w10 o10 h10_3
              refine hK.out _ _ (hSat.out _ h10_3) fun _ => ?_
              clear hK K
              refine wpAnyH_ready (rs := [14]) (by kernel_rfl) (by simp) ?_
              refine AllReadyH.cons rfl (fun K hK => ?_) AllReadyH.nil
              refine Eq.mpr (if_pos (by kernel_rfl)) ?_
              refine op_append_words _ (.tmp 54) (.tmp 57) 26 rfl 42 Try.underlying26 info27 wr.heap.size _ c10 s10 _ rfl o10 _ _ _ (zs.drop k) rfl ((hSat.out _ h10_3).1.from k hk) (by omega) h10_3.size wr h10_3 ?_
              intro s14 c14 w14 o14 h14_4
              refine hK.out _ _ (hSat.out _ h14_4) fun _ => ?_
              clear hK K
              refine wpAnyH_ready (rs := [15]) (by kernel_rfl) (by simp) ?_
              refine AllReadyH.cons rfl (fun K hK => ?_) AllReadyH.nil
              go_simp
              refine hK.out _ _ (hSat.out _ h14_4) fun _ => ?_
              clear hK K
              try simp only [Nat.zero_add, List.nil_append] at o14
              refine wpAnyH_done (by kernel_rfl) ?_ _
              refine NoPanic.normal ?_
              go_wp2_with fail
              go_roundw
              case rel =>
                have hins := ins_place hsrt (x := X) (k := k) (by rw [hlz.out]; exact hk) hlo (fun h => hhi.out (by rw [← hlz.out]; exact h))
                refine ⟨i + 1, s14, _, c14, zs.take k ++ [X] ++ zs.drop k, by omega, rfl, by go_num, o14.mono (Nat.le_trans hbel.size hbi.size), ext_trans (ext_trans hbel hbi) h14_4, hins.1, fun x => ?_, by omega⟩
                rw [hins.2, mem_take_succ (by rw [hl.out]; exact hlt), HX.out, hmem]
                exact Or.comm
              case measure => simp [intOf]; omega
            · go_simp
              have h9_1 : Below wr.heap.size wr (((wr.drewN (nq1 + nq + 1)).alloc (.cells #[] 42)).alloc (.cells #[Value.int .u16 X] 42)) := h0_0.alloc h0_0.size _
              refine hK.out _ _ (hSat.out _ h9_1) fun _ => ?_
              clear hK K
              replace o0 := o0.below (below_alloc _ (.cells #[Value.int .u16 X] 42))
              have r9 : RowW (((wr.drewN (nq1 + nq + 1)).alloc (.cells #[] 42)).alloc (.cells #[Value.int .u16 X] 42)) (some ⟨(wr.heap.size + 1), 0, none⟩) 1 1 [X] := roww_lit_at _ _ (by simp) 42 [X] 1 rfl (by omega) (Wrd.one HXb)
              refine wpAnyH_ready (rs := [4]) (by kernel_rfl) (by simp) ?_
              refine AllReadyH.cons rfl (fun K hK => ?_) AllReadyH.nil
              refine Eq.mpr (if_pos (by kernel_rfl)) ?_
              refine op_append_words_g _ (.tmp 44) (.tmp 47) 26 rfl 42 Try.underlying26 info27 wr.heap.size 0 0 _ [] rfl o0 so k co (zs.take k) rfl (((hSat.out _ h9_1).1).pre k hk) (by omega) h9_1.size wr h9_1 ?_
              intro s4 c4 w4_2 o4 h4_2 g4
              refine hK.out _ _ (hSat.out _ h4_2) fun _ => ?_
              clear hK K
              replace r9 := r9.grown g4 (by intro x hx; cases hx; simp [Value.ownBlock])
              refine wpAnyH_ready (rs := [10]) (by kernel_rfl) (by simp) ?_
              refine AllReadyH.cons rfl (fun K hK => ?_) AllReadyH.nil
              refine Eq.mpr (if_pos (by kernel_rfl)) ?_
              refine op_append_words _ (.tmp 48) (.tmp 53) 26 rfl 42 Try.underlying26 info27 wr.heap.size _ c4 s4 _ rfl o4 _ 1 1 [X] rfl r9 (by omega) h4_2.size wr h4_2 ?_
              intro s10 c10 w10 o10 h10_3
              refine hK.out _ _ (hSat.out _ h10_3) fun _ => ?_
              clear hK K
              refine wpAnyH_ready (rs := [14]) (by kernel_rfl) (by simp) ?_
              refine AllReadyH.cons rfl (fun K hK => ?_) AllReadyH.nil
              refine Eq.mpr (if_pos (by kernel_rfl)) ?_
              refine op_append_words _ (.tmp 54) (.tmp 57) 26 rfl 42 Try.underlying26 info27 wr.heap.size _ c10 s10 _ rfl o10 _ _ _ (zs.drop k) rfl ((hSat.out _ h10_3).1.from k hk) (by omega) h10_3.size wr h10_3 ?_
              intro s14 c14 w14 o14 h14_4
              refine hK.out _ _ (hSat.out _ h14_4) fun _ => ?_
              clear hK K
              refine wpAnyH_ready (rs := [15]) (by kernel_rfl) (by simp) ?_
              refine AllReadyH.cons rfl (fun K hK => ?_) AllReadyH.nil
              go_simp
              refine hK.out _ _ (hSat.out _ h14_4) fun _ => ?_
              clear hK K
              try simp only [Nat.zero_add, List.nil_append] at o14
              refine wpAnyH_done (by kernel_rfl) ?_ _
              refine NoPanic.normal ?_
              go_wp2_with fail
              go_roundw
              case rel =>
                have hins := ins_place hsrt (x := X) (k := k) (by rw [hlz.out]; exact hk) hlo (fun h => hhi.out (by rw [← hlz.out]; exact h))
                refine ⟨i + 1, s14, _, c14, zs.take k ++ [X] ++ zs.drop k, by omega, rfl, by go_num, o14.mono (Nat.le_trans hbel.size hbi.size), ext_trans (ext_trans hbel hbi) h14_4, hins.1, fun x => ?_, by omega⟩
                rw [hins.2, mem_take_succ (by rw [hl.out]; exact hlt), HX.out, hmem]
                exact Or.comm
              case measure => simp [intOf]; omega
          · go_simp
            have h9_0 : Below wr.heap.size wr ((wr.drewN (nq1 + nq + 1)).alloc (.cells #[Value.int .u16 X] 42)) := hbz.alloc hbz.size _
            refine hK.out _ _ (hSat.out _ h9_0) fun _ => ?_
            clear hK K
            have r9 : RowW ((wr.drewN (nq1 + nq + 1)).alloc (.cells #[Value.int .u16 X] 42)) (some ⟨wr.heap.size, 0, none⟩) 1 1 [X] := roww_lit_at _ _ (by simp) 42 [X] 1 rfl (by omega) (Wrd.one HXb)
            refine wpAnyH_ready (rs := [0]) (by kernel_rfl) (by simp) ?_
            refine AllReadyH.cons rfl (fun K hK => ?_) AllReadyH.nil
            go_simp
            have h0_1 : Below wr.heap.size wr (((wr.drewN (nq1 + nq + 1)).alloc (.cells #[Value.int .u16 X] 42)).alloc (.cells #[] 42)) := h9_0.alloc h9_0.size _
            refine hK.out _ _ (hSat.out _ h0_1) fun _ => ?_
            clear hK K
            replace r9 := r9.below (below_alloc _ (.cells #[] 42))
            have o0 : OwnW 42 (((wr.drewN (nq1 + nq + 1)).alloc (.cells #[Value.int .u16 X] 42)).alloc (.cells #[] 42)) wr.heap.size (some ⟨(wr.heap.size + 1), 0, none⟩) 0 0 [] := ownw_lit_at _ _ (by simp) 42 [] 0 rfl (by omega) Wrd.nil (by simp)
            refine wpAnyH_ready (rs := [4]) (by kernel_rfl) (by simp) ?_
            refine AllReadyH.cons rfl (fun K hK => ?_) AllReadyH.nil
            refine Eq.mpr (if_pos (by kernel_rfl)) ?_
            refine op_append_words_g _ (.tmp 44) (.tmp 47) 26 rfl 42 Try.underlying26 info27 wr.heap.size 0 0 _ [] rfl o0 so k co (zs.take k) rfl (((hSat.out _ h0_1).1).pre k hk) (by omega) h0_1.size wr h0_1 ?_
            intro s4 c4 w4_2 o4 h4_2 g4
            refine hK.out _ _ (hSat.out _ h4_2) fun _ => ?_
            clear hK K
            replace r9 := r9.grown g4 (by intro x hx; cases hx; simp [Value.ownBlock])
            refine wpAnyH_ready (rs := [10]) (by kernel_rfl) (by simp) ?_
            refine AllReadyH.cons rfl (fun K hK => ?_) AllReadyH.nil
            refine Eq.mpr (if_pos (by kernel_rfl)) ?_
            refine op_append_words _ (.tmp 48) (.tmp 53) 26 rfl 42 Try.underlying26 info27 wr.heap.size _ c4 s4 _ rfl o4 _ 1 1 [X] rfl r9 (by omega) h4_2.size wr h4_2 ?_
            intro s10 c10 w10 o10 h10_3
            refine hK.out _ _ (hSat.out _ h10_3) fun _ => ?_
            clear hK K
            refine wpAnyH_ready (rs := [14]) (by kernel_rfl) (by simp) ?_
            refine AllReadyH.cons rfl (fun K hK => ?_) AllReadyH.nil
            refine Eq.mpr (if_pos (by kernel_rfl)) ?_
            refine op_append_words _ (.tmp 54) (.tmp 57) 26 rfl 42 Try.underlying26 info27 wr.heap.size _ c10 s10 _ rfl o10 _ _ _ (zs.drop k) rfl ((hSat.out _ h10_3).1.from k hk) (by omega) h10_3.size wr h10_3 ?_
            intro s14 c14 w14 o14 h14_4
            refine hK.out _ _ (hSat.out _ h14_4) fun _ => ?_
            clear hK K
            refine wpAnyH_ready (rs := [15]) (by kernel_rfl) (by simp) ?_
            refine AllReadyH.cons rfl (fun K hK => ?_) AllReadyH.nil
            go_simp
            refine hK.out _ _ (hSat.out _ h14_4) fun _ => ?_
            clear hK K
            try simp only [Nat.zero_add, List.nil_append] at o14
            refine wpAnyH_done (by kernel_rfl) ?_ _
            refine NoPanic.normal ?_
            go_wp2_with fail
            go_roundw
            case rel =>
              have hins := ins_place hsrt (x := X) (k := k) (by rw [hlz.out]; exact hk) hlo (fun h => hhi.out (by rw [← hlz.out]; exact h))
              refine ⟨i + 1, s14, _, c14, zs.take k ++ [X] ++ zs.drop k, by omega, rfl, by go_num, o14.mono (Nat.le_trans hbel.size hbi.size), ext_trans (ext_trans hbel hbi) h14_4, hins.1, fun x => ?_, by omega⟩
              rw [hins.2, mem_take_succ (by rw [hl.out]; exact hlt), HX.out, hmem]
              exact Or.comm
            case measure => simp [intOf]; omega
    · obtain rfl : i = n := by omega
      go_wp2_with fail
      go_ret
      exact ⟨so, no, co, zs, rfl, hown, hbel, hsrt, fun x => by rw [hmem, List.take_of_length_le (by rw [hl.out]; exact Nat.le_refl _)], hno⟩
end Go.Proofs.Ytkmpmljohjelhaa

namespace Go.Proofs.Ytkmpmljohjelhaa
open Go.RowKit
set_option maxRecDepth 100000

set_option maxHeartbeats 400000 in
theorem refOr_any (a b : Option Addr) (n cap m cap2 : Nat) (xs ys : List Int) (w : World) (hr : RowW w a n cap xs) (hs : RowW w b m cap2 ys) (hbd : n + m ≤ 1000000) :
    Calls Try.prog 40 #[.slice a n cap, .slice b m cap2] w fun e w' => ∃ so k co zs, e = .returned (.slice so k co) ∧ OwnW 42 w' w.heap.size so k co zs ∧ Below w.heap.size w w' ∧ Srt zs ∧ (∀ x, x ∈ zs ↔ x ∈ xs ++ ys) := by
  go_enter Try.func40, Try.ntmps40
  go_wp2_with (first | (at_builtin; refine wp_append_words _ rfl (.tmp 5) (.tmp 6) 26 rfl 42 Try.underlying26 info27 w.heap.size 0 0 _ [] rfl (ownw_lit_at w _ rfl 42 [] 0 rfl (by omega) Wrd.nil (Nat.le_refl _)) a n cap xs rfl (hr.below (below_alloc _ _)) (by omega) (by simp) w (below_alloc _ _) ?_; intro s1 c1 w1 o1 b1; rw [Nat.zero_add, List.nil_append] at o1) | (at_builtin; refine wp_append_words _ rfl (.tmp 7) (.tmp 8) 26 rfl 42 Try.underlying26 info27 w.heap.size n c1 s1 xs rfl o1 b m cap2 ys rfl (hs.below b1) (by omega) b1.size w b1 ?_; intro s2 c2 w2 o2 b2) | fail)
  refine (refMake_any _ _ _ _ _ o2.row (by omega)).mono ?_
  rintro e w3 ⟨so, k, co, zs, rfl, hown, hbel, hs, hm, _⟩
  go_wp2_with fail
  go_ret
  exact ⟨so, k, co, zs, rfl, hown.mono b2.size, ext_trans b2 hbel, hs, hm⟩
end Go.Proofs.Ytkmpmljohjelhaa

namespace Go.Proofs.Ytkmpmljohjelhaa
set_option maxRecDepth 100000

theorem or_mem {A B : List Int} (hA : Srt A) (hB : Srt B) (z : Int) : z ∈ mrg true true true A B ↔ z ∈ A ∨ z ∈ B := by
  rw [mrg_mem _ _ _ _ _ hA hB]
  by_cases h1 : z ∈ A <;> by_cases h2 : z ∈ B <;> simp [h1, h2]
theorem and_mem {A B : List Int} (hA : Srt A) (hB : Srt B) (z : Int) : z ∈ mrg false true false A B ↔ z ∈ A ∧ z ∈ B := by
  rw [mrg_mem _ _ _ _ _ hA hB]
  by_cases h1 : z ∈ A <;> by_cases h2 : z ∈ B <;> simp [h1, h2]
theorem less_mem {A B : List Int} (hA : Srt A) (hB : Srt B) (z : Int) : z ∈ mrg true false false A B ↔ z ∈ A ∧ z ∉ B := by
  rw [mrg_mem _ _ _ _ _ hA hB]
  by_cases h1 : z ∈ A <;> by_cases h2 : z ∈ B <;> simp [h1, h2]
theorem and_eq {A B : List Int} (hA : Srt A) (hB : Srt B) : mrg false true false A B = A.filter fun x => decide (x ∈ B) == true :=
  srt_unique (mrg_srt _ _ _ _ _ hA hB) (hA.filter _) fun x => by rw [mrg_mem _ _ _ _ _ hA hB, List.mem_filter]; simp
theorem less_eq {A B : List Int} (hA : Srt A) (hB : Srt B) : mrg true false false A B = A.filter fun x => decide (x ∈ B) == false :=
  srt_unique (mrg_srt _ _ _ _ _ hA hB) (hA.filter _) fun x => by rw [mrg_mem _ _ _ _ _ hA hB, List.mem_filter]; simp
theorem or_eq {A B Z : List Int} (hA : Srt A) (hB : Srt B) (hZ : Srt Z) (hm : ∀ x, x ∈ Z ↔ x ∈ A ++ B) : mrg true true true A B = Z :=
  srt_unique (mrg_srt _ _ _ _ _ hA hB) hZ fun x => by
    rw [mrg_mem _ _ _ _ _ hA hB, hm, List.mem_append]
    by_cases h1 : x ∈ A <;> by_cases h2 : x ∈ B <;> simp [h1, h2]
theorem mrg_sum (a b : List Int) : (mrg true true true a b).length + (mrg false true false a b).length = a.length + b.length := by
  induction a, b using mrg_ind with
  | case1 b => simp [mrg_nil_left]
  | case2 x a => simp [mrg_nil_right]
  | case3 x a y b h ih => rw [mrg_lt _ _ _ h, mrg_lt _ _ _ h]; simp at ih ⊢; omega
  | case4 x a y b h h' ih => rw [mrg_gt _ _ _ h', mrg_gt _ _ _ h']; simp at ih ⊢; omega
  | case5 x a y b h h' ih => rw [mrg_eq _ _ _ (by omega), mrg_eq _ _ _ (by omega)]; simp at ih ⊢; omega
theorem srt_one (c : Int) : Srt [c] := List.pairwise_singleton _ _

theorem and_nil {A B : List Int} (hA : Srt A) (hB : Srt B) : mrg false true false A B = [] ↔ ∀ z, z ∈ A → z ∉ B := by
  rw [List.eq_nil_iff_forall_not_mem]
  exact ⟨fun h z h1 h2 => h z ((and_mem hA hB z).2 ⟨h1, h2⟩), fun h z hz => h z ((and_mem hA hB z).1 hz).1 ((and_mem hA hB z).1 hz).2⟩
theorem less_nil {A B : List Int} (hA : Srt A) (hB : Srt B) : mrg true false false A B = [] ↔ ∀ z, z ∈ A → z ∈ B := by
  rw [List.eq_nil_iff_forall_not_mem]
  exact ⟨fun h z h1 => Classical.byContradiction fun h2 => h z ((less_mem hA hB z).2 ⟨h1, h2⟩), fun h z hz => ((less_mem hA hB z).1 hz).2 (h z ((less_mem hA hB z).1 hz).1)⟩
theorem filter_nil {A B : List Int} : (A.filter fun x => decide (x ∈ B) == false) = [] ↔ ∀ z, z ∈ A → z ∈ B := by
  rw [List.filter_eq_nil_iff]
  exact ⟨fun h z hz => by simpa using h z hz, fun h z hz => by simpa using h z hz⟩

/-- Are these three a label of sets? -/
def MayP (A B C : List Int) : Prop := (Srt A ∧ Srt B ∧ Srt C) ∧ ((∀ z, z ∈ A → z ∉ B) ∧ (∀ z, z ∈ A → z ∉ C) ∧ ∀ z, z ∈ B → z ∉ C) ∧ A.length + B.length + C.length ≤ 16
/-- No category is in both. -/
def apB (A B : List Int) : Bool := decide (mrg false true false A B = [])
def mayS' (xs : List Int) : Bool := decide (xs.length ≤ 16) && asc xs
theorem mayS'_iff (xs : List Int) : mayS' xs = true ↔ xs.length ≤ 16 ∧ Srt xs := by unfold mayS'; rw [Bool.and_eq_true, decide_eq_true_eq, asc_iff]
/-- The same, as a test. -/
def mayV (A B C : List Int) : Bool := (mayS' A && mayS' B && mayS' C) && (apB A B && apB A C && apB B C) && decide (A.length + B.length + C.length ≤ 16)
theorem mayV_iff (A B C : List Int) : mayV A B C = true ↔ MayP A B C := by
  unfold mayV MayP
  simp only [Bool.and_eq_true, mayS'_iff, decide_eq_true_eq]
  constructor
  · rintro ⟨⟨⟨⟨hA, hB⟩, hC⟩, ⟨h1, h2⟩, h3⟩, h4⟩
    exact ⟨⟨hA.2, hB.2, hC.2⟩, ⟨(and_nil hA.2 hB.2).1 (by simpa [apB] using h1), (and_nil hA.2 hC.2).1 (by simpa [apB] using h2), (and_nil hB.2 hC.2).1 (by simpa [apB] using h3)⟩, h4⟩
  · rintro ⟨⟨hA, hB, hC⟩, ⟨h1, h2, h3⟩, h4⟩
    exact ⟨⟨⟨⟨⟨by omega, hA⟩, by omega, hB⟩, by omega, hC⟩, ⟨by simpa [apB] using (and_nil hA hB).2 h1, by simpa [apB] using (and_nil hA hC).2 h2⟩, by simpa [apB] using (and_nil hB hC).2 h3⟩, h4⟩
/-- How many there are in all tells whether one is in two of them. -/
theorem or_count {A B C Y Z : List Int} (hA : Srt A) (hB : Srt B) (hC : Srt C) (hY : Srt Y) (hZ : Srt Z) (hy : ∀ x, x ∈ Y ↔ x ∈ A ++ B) (hz : ∀ x, x ∈ Z ↔ x ∈ Y ++ C) :
    Z.length = A.length + B.length + C.length ↔ apB A B = true ∧ apB A C = true ∧ apB B C = true := by
  have e1 := or_eq hA hB hY hy
  have e2 := or_eq hY hC hZ hz
  have s1 := mrg_sum A B
  have s2 := mrg_sum Y C
  rw [e1] at s1
  rw [e2] at s2
  have n1 : (mrg false true false A B).length = 0 ↔ apB A B = true := by rw [List.length_eq_zero_iff]; simp [apB]
  have n2 : (mrg false true false Y C).length = 0 ↔ apB A C = true ∧ apB B C = true := by
    rw [List.length_eq_zero_iff, and_nil hY hC]
    simp only [apB, decide_eq_true_eq, and_nil hA hC, and_nil hB hC]
    constructor
    · exact fun h => ⟨fun z h1 => h z ((hy z).2 (by simp [h1])), fun z h1 => h z ((hy z).2 (by simp [h1]))⟩
    · rintro ⟨h1, h2⟩ z h3
      rcases List.mem_append.1 ((hy z).1 h3) with h4 | h4
      · exact h1 z h4
      · exact h2 z h4
  rw [← n1, ← n2]
  omega
theorem mayV_or {A B C Y Z : List Int} (hA : mayS' A = true) (hB : mayS' B = true) (hC : mayS' C = true) (hY : Srt Y) (hZ : Srt Z) (hy : ∀ x, x ∈ Y ↔ x ∈ A ++ B) (hz : ∀ x, x ∈ Z ↔ x ∈ Y ++ C) :
    mayV A B C = (decide (Z.length = A.length + B.length + C.length) && decide (Z.length ≤ 16)) := by
  have h := or_count ((mayS'_iff _).1 hA).2 ((mayS'_iff _).1 hB).2 ((mayS'_iff _).1 hC).2 hY hZ hy hz
  unfold mayV
  rw [hA, hB, hC]
  by_cases hl : Z.length = A.length + B.length + C.length
  · obtain ⟨h1, h2, h3⟩ := h.1 hl
    rw [h1, h2, h3, hl]
    simp
  · have : (apB A B && apB A C && apB B C) = false := by
      cases h1 : apB A B && apB A C && apB B C
      · rfl
      · simp only [Bool.and_eq_true] at h1
        exact absurd (h.2 ⟨h1.1.1, h1.1.2, h1.2⟩) hl
    rw [this, decide_eq_false hl]
    simp
/-- What flows. -/
def FlS (A B A' B' : List Int) : Prop := (∀ z, z ∈ A → z ∈ A') ∧ ∀ z, z ∈ B' → z ∈ B
end Go.Proofs.Ytkmpmljohjelhaa

namespace Go.Proofs.Ytkmpmljohjelhaa
open Go.RowKit
set_option maxRecDepth 100000

/-- Three slices, and what each reads as. -/
structure Sv where
  a1 : Option Addr
  n1 : Nat
  c1 : Nat
  xs : List Int
  a2 : Option Addr
  n2 : Nat
  c2 : Nat
  ys : List Int
  a3 : Option Addr
  n3 : Nat
  c3 : Nat
  zs : List Int
structure Sv.In (x : Sv) (w : World) : Prop where
  r1 : RowW w x.a1 x.n1 x.c1 x.xs
  r2 : RowW w x.a2 x.n2 x.c2 x.ys
  r3 : RowW w x.a3 x.n3 x.c3 x.zs
theorem Sv.In.below {x : Sv} {w w' : World} (h : x.In w) (hb : Below w.heap.size w w') : x.In w' := ⟨h.r1.below hb, h.r2.below hb, h.r3.below hb⟩
/-- The same with an empty third set. -/
def Sv.opened (x : Sv) : Sv := { x with a3 := none, n3 := 0, c3 := 0, zs := [] }
theorem Sv.In.opened {x : Sv} {w : World} (h : x.In w) : x.opened.In w := ⟨h.r1, h.r2, RowW.nil _⟩
def Sv.none : Sv := ⟨.none, 0, 0, [], .none, 0, 0, [], .none, 0, 0, []⟩
theorem Sv.none_in (w : World) : Sv.none.In w := ⟨RowW.nil _, RowW.nil _, RowW.nil _⟩

theorem sv_two_allocs (w : World) (x y : Obj) : Below w.heap.size w ((w.alloc x).alloc y) := ext_trans (below_alloc _ _) (below_alloc _ _)
theorem sv_cell_old {w : World} {p : Addr} {v : Value} (o : Obj) (h : w.cell? p = some v) : (w.alloc o).cell? p = some v := by rw [(below_alloc w o).cell (lt_of_cell h)]; exact h
theorem sv_cell_of_heap {w : World} {g : Nat} {cs : Array Value} {e : TypeId} {fz : Nat × Nat} (h : w.heap[g]? = some (.cells cs e fz)) (i : Nat) (v : Value) (hv : cs[i]? = some v) : w.cell? ⟨g, i, none⟩ = some v := by
  rw [cell_of_row w g i cs e fz h]; exact hv
theorem sv_heap_new_at (w : World) (o : Obj) (g : Nat) (hg : w.heap.size = g) : (w.alloc o).heap[g]? = some o := by subst hg; exact heap_alloc_new w o

theorem one_sv (w : World) (x : Sv) : ∀ W, Below (w.alloc (Obj.cells #[.slice x.a1 x.n1 x.c1, .slice x.a2 x.n2 x.c2, .slice x.a3 x.n3 x.c3] 28)).heap.size (w.alloc (Obj.cells #[.slice x.a1 x.n1 x.c1, .slice x.a2 x.n2 x.c2, .slice x.a3 x.n3 x.c3] 28)) W → W.cell? ⟨w.heap.size, 0, none⟩ = some (.slice x.a1 x.n1 x.c1) ∧ W.cell? ⟨w.heap.size, 1, none⟩ = some (.slice x.a2 x.n2 x.c2) ∧ W.cell? ⟨w.heap.size, 2, none⟩ = some (.slice x.a3 x.n3 x.c3) ∧ Below w.heap.size w W := fun W h =>
  ⟨by rw [h.cell (by simp)]; simp, by rw [h.cell (by simp)]; simp, by rw [h.cell (by simp)]; simp, ext_trans (below_alloc _ _) h⟩
theorem two_sv (w : World) (x y : Sv) : ∀ W, Below ((w.alloc (Obj.cells #[.slice x.a1 x.n1 x.c1, .slice x.a2 x.n2 x.c2, .slice x.a3 x.n3 x.c3] 28)).alloc (Obj.cells #[.slice y.a1 y.n1 y.c1, .slice y.a2 y.n2 y.c2, .slice y.a3 y.n3 y.c3] 28)).heap.size ((w.alloc (Obj.cells #[.slice x.a1 x.n1 x.c1, .slice x.a2 x.n2 x.c2, .slice x.a3 x.n3 x.c3] 28)).alloc (Obj.cells #[.slice y.a1 y.n1 y.c1, .slice y.a2 y.n2 y.c2, .slice y.a3 y.n3 y.c3] 28)) W →
    W.cell? ⟨w.heap.size, 0, none⟩ = some (.slice x.a1 x.n1 x.c1) ∧ W.cell? ⟨w.heap.size, 1, none⟩ = some (.slice x.a2 x.n2 x.c2) ∧ W.cell? ⟨w.heap.size, 2, none⟩ = some (.slice x.a3 x.n3 x.c3) ∧ W.cell? ⟨w.heap.size + 1, 0, none⟩ = some (.slice y.a1 y.n1 y.c1) ∧ W.cell? ⟨w.heap.size + 1, 1, none⟩ = some (.slice y.a2 y.n2 y.c2) ∧ W.cell? ⟨w.heap.size + 1, 2, none⟩ = some (.slice y.a3 y.n3 y.c3) ∧ Below w.heap.size w W := fun W h =>
  ⟨by rw [h.cell (by simp <;> omega)]; simp, by rw [h.cell (by simp <;> omega)]; simp, by rw [h.cell (by simp <;> omega)]; simp, by rw [h.cell (by simp)]; simp, by rw [h.cell (by simp)]; simp, by rw [h.cell (by simp)]; simp, ext_trans (sv_two_allocs _ _ _) h⟩

theorem sv_grown_set (W : World) (R i : Nat) (v : Value) : W.grownBy (W.setCell ⟨R, i, none⟩ v) (some R) := ⟨rfl, rfl, rfl, by simp [World.setCell], fun k _ hk => Below.heap_setCell _ _ _ _ (fun e => hk (by rw [e]))⟩
/-- The three stores that put a label into a variable at block R. -/
def put3 (W : World) (R : Nat) (x : Sv) : World := ((W.setCell ⟨R, 0, none⟩ (.slice x.a1 x.n1 x.c1)).setCell ⟨R, 1, none⟩ (.slice x.a2 x.n2 x.c2)).setCell ⟨R, 2, none⟩ (.slice x.a3 x.n3 x.c3)
theorem put3_heap {W : World} {R : Nat} {v0 v1 v2 : Value} (hR : W.heap[R]? = some (.cells #[v0, v1, v2] 28 (0, 0))) (x : Sv) : (put3 W R x).heap[R]? = some (.cells #[.slice x.a1 x.n1 x.c1, .slice x.a2 x.n2 x.c2, .slice x.a3 x.n3 x.c3] 28 (0, 0)) := by
  have h1 : (W.setCell ⟨R, 0, none⟩ (.slice x.a1 x.n1 x.c1)).heap[R]? = some (.cells #[.slice x.a1 x.n1 x.c1, v1, v2] 28 (0, 0)) := by rw [heap_setCell_same W R 0 _ 28 _ hR]; rfl
  have h2 : ((W.setCell ⟨R, 0, none⟩ (.slice x.a1 x.n1 x.c1)).setCell ⟨R, 1, none⟩ (.slice x.a2 x.n2 x.c2)).heap[R]? = some (.cells #[.slice x.a1 x.n1 x.c1, .slice x.a2 x.n2 x.c2, v2] 28 (0, 0)) := by rw [heap_setCell_same _ R 1 _ 28 _ h1]; rfl
  unfold put3
  rw [heap_setCell_same _ R 2 _ 28 _ h2]; rfl
theorem put3_row {W : World} {R : Nat} {x : Sv} {a : Option Addr} {n c : Nat} {l : List Int} (h : RowW W a n c l) (hne : ∀ p, a = some p → R ≠ p.block) : RowW (put3 W R x) a n c l :=
  have k : ∀ p, a = some p → some R ≠ some p.block := fun p hp e => hne p hp (by simpa using e)
  ((h.grown (sv_grown_set _ _ _ _) k).grown (sv_grown_set _ _ _ _) k).grown (sv_grown_set _ _ _ _) k
theorem put3_below {w W : World} {B R : Nat} (h : Below B w W) (hR : B ≤ R) (x : Sv) : Below B w (put3 W R x) := ((h.setCell hR _).setCell hR _).setCell hR _
theorem ownw_ne {e : TypeId} {w : World} {B R n cap : Nat} {so : Option Addr} {l : List Int} (h : OwnW e w B so n cap l) (hR : R < B) : ∀ p, so = some p → R ≠ p.block := fun p hp e => by
  subst hp
  rcases h.cases with ⟨h, _⟩ | ⟨g, cur, hv, hB, _⟩
  · simp at h
  · obtain rfl := Option.some.inj hv
    subst e
    exact absurd hB (Nat.not_le_of_lt hR)
/-- A call that hands back a label by a variable of its own. -/
theorem ret_sv {fn : Func} {p : Tmp} (h : fn.results = #[.cell p 28]) (tmps : Array Value) (w : World) (g : Nat) (x : Sv) (hp : tmps.getD p undef = .pointer (some ⟨g, 0, none⟩))
    (hg : w.heap[g]? = some (.cells #[.slice x.a1 x.n1 x.c1, .slice x.a2 x.n2 x.c2, .slice x.a3 x.n3 x.c3] 28 (0, 0))) : (results fn tmps).run Try.prog w = .ok (.agg #[.slice x.a1 x.n1 x.c1, .slice x.a2 x.n2 x.c2, .slice x.a3 x.n3 x.c3]) w :=
  results_cell_row h tmps w g 28 _ (0, 0) _ hp hg Try.underlying28 rfl (by kernel_rfl)
end Go.Proofs.Ytkmpmljohjelhaa
