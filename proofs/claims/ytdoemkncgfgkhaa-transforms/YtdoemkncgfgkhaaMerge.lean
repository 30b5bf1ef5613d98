/- What cats' merge by goto answers: a contract, for every two lists; and Or, And, Less, In over it. -/
import Derived.Test.YtdoemkncgfgkhaaFind
namespace Go.Proofs.Ytdoemkncgfgkhaa
open Go.RowKit
set_option maxRecDepth 100000

/-- As Q; by a goto to a label: what J says there. -/
def Exit.jumps (J : Nat → Act → World → Prop) (Q : Exit → Act → World → Prop) : Exit → Act → World → Prop
  | .goto l, a, w => J l a w
  | e, a, w => Q e a w
/-- A scope in which the run jumps among several labels: what holds at each jump, and a measure that each pass lowers. -/
theorem wp_scope_labels {P : Program} {a : Act} {w : World} {Q : Exit → Act → World → Prop} {c : Code} (J : Nat → Act → World → Prop) (μ : Nat → Act → World → Nat)
    {rest0 : Code} (l0 : Nat) (hf0 : findLabel c l0 = some (Code.skip.seq rest0))
    (pass : ∀ l a w, J l a w → ∃ rest, findLabel c l = some (Code.skip.seq rest) ∧ rest.wp P (Exit.jumps (fun l' a' w' => J l' a' w' ∧ μ l' a' w' < μ l a w) Q) a w)
    (first : Hid (∀ a w, J l0 a w → rest0.wp P (Exit.jumps J Q) a w) → c.wp P (Exit.jumps J Q) a w) : (Code.scope c).wp P Q a w := by
  have hjm : ∀ (J J' : Nat → Act → World → Prop) (_ : ∀ l a w, J' l a w → J l a w) (e : Exit) (a : Act) (w : World), Exit.jumps J' Q e a w → Exit.jumps J Q e a w := by
    intro J J' h e a w hq
    cases e <;> first | exact hq | exact h _ _ _ hq
  replace first := first (by
    intro a w hJ
    obtain ⟨rest, hf, hwp⟩ := pass l0 a w hJ
    rw [hf0] at hf
    have he : rest0 = rest := by injection hf with h; injection h
    subst he
    exact Code.wp_mono (hjm _ _ (fun _ _ _ h => h.1)) hwp)
  replace pass : ∀ l a w, J l a w → ∃ rest, findLabel c l = some rest ∧ rest.wp P (Exit.jumps (fun l' a' w' => J l' a' w' ∧ μ l' a' w' < μ l a w) Q) a w := by
    intro l a w hJ
    obtain ⟨rest, hf, hwp⟩ := pass l a w hJ
    exact ⟨_, hf, wp_seq (wp_skip hwp)⟩
  intro b k cs
  have key : ∀ n l a w, μ l a w = n → J l a w → ∃ rest, findLabel c l = some rest ∧ ∃ e a' w', Q e a' w' ∧ Arrives P (lone (b.at a (.code rest :: .inScope c :: k)) cs w) b k cs e a' w' := by
    intro n
    induction n using Nat.strongRecOn with
    | _ n ih =>
      intro l a w hn hJ
      obtain ⟨rest, hf, hwp⟩ := pass l a w hJ
      refine ⟨rest, hf, ?_⟩
      obtain ⟨e, a₁, w₁, hq, harr⟩ := hwp b (.inScope c :: k) cs
      cases e with
      | normal => exact ⟨.normal, a₁, w₁, hq, Steps.trans harr (.one step_inScope)⟩
      | exit id => exact ⟨.exit id, a₁, w₁, hq, fun k' hk => harr k' (by simp [exitTo, hk])⟩
      | goto l' =>
        obtain ⟨hJ', hlt⟩ := hq
        obtain ⟨rest', hf', e₂, a₂, w₂, hq₂, harr₂⟩ := ih _ (by omega) l' a₁ w₁ rfl hJ'
        have hg : gotoIn l' (.inScope c :: k) = some (.code rest' :: .inScope c :: k) := by simp [gotoIn, hf']
        exact ⟨e₂, a₂, w₂, hq₂, .of_steps (harr _ hg) harr₂⟩
      | ret => exact ⟨_, a₁, w₁, hq, harr⟩
      | panic ch => exact ⟨_, a₁, w₁, hq, harr⟩
      | outgrown => exact ⟨_, a₁, w₁, hq, harr⟩
  obtain ⟨e, a₁, w₁, hq, harr⟩ := first b (.inScope c :: k) cs
  cases e with
  | normal => exact ⟨.normal, a₁, w₁, hq, .head step_scope (Steps.trans harr (.one step_inScope))⟩
  | exit id => exact ⟨.exit id, a₁, w₁, hq, fun k' hk => .head step_scope (harr k' (by simp [exitTo, hk]))⟩
  | goto l' =>
    obtain ⟨rest', hf', e₂, a₂, w₂, hq₂, harr₂⟩ := key _ l' a₁ w₁ rfl hq
    have hg : gotoIn l' (.inScope c :: k) = some (.code rest' :: .inScope c :: k) := by simp [gotoIn, hf']
    exact ⟨e₂, a₂, w₂, hq₂, .of_steps (.head step_scope (harr _ hg)) harr₂⟩
  | ret => exact ⟨_, a₁, w₁, hq, .of_steps (.one step_scope) harr⟩
  | panic ch => exact ⟨_, a₁, w₁, hq, .of_steps (.one step_scope) harr⟩
  | outgrown => exact ⟨_, a₁, w₁, hq, .of_steps (.one step_scope) harr⟩

set_option maxHeartbeats 400000 in
theorem appendIf_any (so : Option Addr) (n cap : Nat) (ys : List Int) (ao : Option Addr) (m c : Nat) (xs : List Int) (q : Bool) (w : World) (B : Nat) (hB : B ≤ w.heap.size) (w0 : World) (hbel : Below B w0 w)
    (hown : OwnW 38 w B so n cap ys) (hrow : RowW w ao m c xs) (hbd : n + m ≤ 70368744177664) :
    Calls Try.prog 87 #[.slice so n cap, .slice ao m c, .bool q] w fun e w' => ∃ so' cap' k, e = .returned (.slice so' k cap') ∧ OwnW 38 w' B so' k cap' (ys ++ kp q xs) ∧ Below B w0 w' := by
  cases q
  · go_enter Try.func87, Try.ntmps87
    go_wp2_with fail
    go_ret
    exact ⟨so, cap, n, rfl, by simpa using hown, hbel⟩
  · go_enter Try.func87, Try.ntmps87
    go_wp2_with (at_builtin; refine wp_append_words _ rfl (.tmp 10) (.tmp 11) 25 rfl 38 Try.underlying25 info27 B n cap so ys rfl hown ao m c xs rfl hrow hbd hB w0 hbel ?_; intro so' cap' w1 hown1 hbel1)
    go_ret
    exact ⟨so', cap', n + m, rfl, by simpa using hown1, hbel1⟩

theorem mrg_heads_eq (p q r : Bool) (xs ys : List Int) (hx : 0 < xs.length) (hy : 0 < ys.length) (h : xs.getD 0 0 = ys.getD 0 0) : mrg p q r xs ys = kp q (xs.take 1) ++ mrg p q r (xs.drop 1) (ys.drop 1) := by
  cases xs with
  | nil => simp at hx
  | cons x xs => cases ys with
    | nil => simp at hy
    | cons y ys => exact mrg_eq p q r (by simpa using h)
theorem mrg_heads_lt (p q r : Bool) (xs ys : List Int) (hx : 0 < xs.length) (hy : 0 < ys.length) (h : xs.getD 0 0 < ys.getD 0 0) : mrg p q r xs ys = kp p (xs.take 1) ++ mrg p q r (xs.drop 1) ys := by
  cases xs with
  | nil => simp at hx
  | cons x xs => cases ys with
    | nil => simp at hy
    | cons y ys => exact mrg_lt p q r (by simpa using h)
theorem mrg_heads_gt (p q r : Bool) (xs ys : List Int) (hx : 0 < xs.length) (hy : 0 < ys.length) (h : ys.getD 0 0 < xs.getD 0 0) : mrg p q r xs ys = kp r (ys.take 1) ++ mrg p q r xs (ys.drop 1) := by
  cases xs with
  | nil => simp at hx
  | cons x xs => cases ys with
    | nil => simp at hy
    | cons y ys => exact mrg_gt p q r (by simpa using h)
theorem kp_len (q : Bool) (l : List Int) : (kp q (l.take 1)).length ≤ 1 := by cases q <;> simp; omega
theorem same_drew (w : World) (n : Nat) : Below w.heap.size w (w.drewN n) := bel_drewN (Below.refl _ _) _
theorem same_drew2 (w : World) (n m : Nat) : Below w.heap.size w ((w.drewN n).drewN m) := bel_drewN (bel_drewN (Below.refl _ _) _) _
theorem RowW.tail1 {w : World} {b off n cap : Nat} {xs : List Int} (h : RowW w (some ⟨b, off, none⟩) n cap xs) (hn : 0 < n) (hc : cap = 1) : RowW w (some ⟨b, off, none⟩) (n - 1) 0 (xs.drop 1) := by
  subst hc
  have h1 := h.cap_le
  have h2 := h.len
  obtain rfl : n = 1 := by omega
  rw [List.drop_of_length_le (by omega)]
  exact RowW.none_of _ _ _ (by omega)
def slen : Value → Nat
  | .slice _ n _ => n
  | _ => 0
/-- What holds at a label of the merge: how the run stands there. -/
def MAt (w : World) (K : Int) (p q r : Bool) (zs : List Int) (A Bn : Nat) (l : Nat) (a' : Act) (w' : World) : Prop :=
  ∃ (aa ab so : Option Addr) (na ca nb cb no co : Nat) (xs ys os : List Int) (s8 s9 s10 s11 s12 s13 s14 s15 s16 s17 s18 s19 s20 s21 s22 s23 s24 s25 s26 s27 s28 s29 s30 s31 s32 s33 s34 s35 s36 s37 s38 s39 s40 s41 s42 s43 s44 s45 s46 s47 s48 s49 s50 s51 s52 s53 s54 s55 s56 s57 s58 s59 s60 s61 s62 s63 s64 s65 s66 s67 s68 : Value),
    a' = { tmps := #[.slice aa na ca, .slice ab nb cb, .int .i64 K, undef, undef, undef, .slice none 0 0, .slice so no co, s8, s9, s10, s11, s12, s13, s14, s15, s16, s17, s18, s19, s20, s21, s22, s23, s24, s25, s26, s27, s28, s29, s30, s31, s32, s33, s34, s35, s36, s37, s38, s39, s40, s41, s42, s43, s44, s45, s46, s47, s48, s49, s50, s51, s52, s53, s54, s55, s56, s57, s58, s59, s60, s61, s62, s63, s64, s65, s66, s67, s68], defers := [] } ∧ Below w.heap.size w w' ∧ RowW w aa na ca xs ∧ RowW w ab nb cb ys ∧ na ≤ A ∧ nb ≤ Bn ∧
    OwnW 38 w' w.heap.size so no co os ∧ no + na + nb ≤ A + Bn ∧ os ++ mrg p q r xs ys = zs ∧
    ((l = 0) ∨ (l = 1 ∧ 0 < na ∧ 0 < nb ∧ xs.getD 0 0 < ys.getD 0 0) ∨ (l = 2 ∧ 0 < na ∧ 0 < nb ∧ ys.getD 0 0 < xs.getD 0 0))
def MMu (l : Nat) (a' : Act) (_ : World) : Nat := 2 * (slen (a'.tmps.getD 0 undef) + slen (a'.tmps.getD 1 undef)) + (if l = 0 then 1 else 0)

set_option maxHeartbeats 4000000 in
theorem merge_any (a b : Option Addr) (n cap m cap2 : Nat) (xs0 ys0 : List Int) (K : Int) (p q r : Bool) (w : World) (hr : RowW w a n cap xs0) (hs : RowW w b m cap2 ys0) (hbd : n + m ≤ 70368744177664)
    (hK : (K = 7 ∧ p = true ∧ q = true ∧ r = true) ∨ (K = 2 ∧ p = false ∧ q = true ∧ r = false) ∨ (K = 1 ∧ p = true ∧ q = false ∧ r = false)) :
    Calls Try.prog 76 #[.slice a n cap, .slice b m cap2, .int .i64 K] w fun e w' => ∃ so k co, e = .returned (.slice so k co) ∧ OwnW 38 w' w.heap.size so k co (mrg p q r xs0 ys0) ∧ Below w.heap.size w w' := by
  have h4 : (bits .and .i64 K 4 != 0) = r := by rcases hK with ⟨rfl, _, _, rfl⟩ | ⟨rfl, _, _, rfl⟩ | ⟨rfl, _, _, rfl⟩ <;> decide
  have h2 : (bits .and .i64 K 2 != 0) = q := by rcases hK with ⟨rfl, _, rfl, _⟩ | ⟨rfl, _, rfl, _⟩ | ⟨rfl, _, rfl, _⟩ <;> decide
  have h1 : (bits .and .i64 K 1 != 0) = p := by rcases hK with ⟨rfl, rfl, _, _⟩ | ⟨rfl, rfl, _, _⟩ | ⟨rfl, rfl, _, _⟩ <;> decide
  clear hK
  go_enter Try.func76, Try.ntmps76
  go_wp2_with fail
  refine wp_scope_labels (MAt w K p q r (mrg p q r xs0 ys0) n m) MMu 0 rfl ?_ ?_
  · rintro l a' w' ⟨aa, ab, so, na, ca, nb, cb, no, co, xs, ys, os, s8, s9, s10, s11, s12, s13, s14, s15, s16, s17, s18, s19, s20, s21, s22, s23, s24, s25, s26, s27, s28, s29, s30, s31, s32, s33, s34, s35, s36, s37, s38, s39, s40, s41, s42, s43, s44, s45, s46, s47, s48, s49, s50, s51, s52, s53, s54, s55, s56, s57, s58, s59, s60, s61, s62, s63, s64, s65, s66, s67, s68, rfl, hbel, hra, hrb, hna, hnb, hown, hsum, hzs, hl⟩
    have hla := hra.len
    have hlb := hrb.len
    rcases hl with rfl | ⟨rfl, hl⟩ | ⟨rfl, hl⟩
    · refine ⟨_, rfl, ?_⟩
      by_cases ha0 : na = 0
      · subst ha0
        have hx : xs = [] := List.eq_nil_of_length_eq_zero hla
        subst hx
        go_wp2_with fail
        refine (appendIf_any so no co os ab nb cb ys r w' w.heap.size hbel.size w hbel hown (hrb.below hbel) (by omega)).mono ?_
        rintro e w2 ⟨so', cap', k, rfl, hown2, hbel2⟩
        go_wp2_with fail
        simp only [Exit.jumps]
        go_ret
        exact ⟨so', k, cap', rfl, by rw [← hzs, mrg_nil_left]; exact hown2, hbel2⟩
      · have e1 : ((na : Int) == 0) = false := by simp; omega
        by_cases hb0 : nb = 0
        · subst hb0
          have hy : ys = [] := List.eq_nil_of_length_eq_zero hlb
          subst hy
          go_wp2_with fail
          refine (appendIf_any so no co os aa na ca xs p w' w.heap.size hbel.size w hbel hown (hra.below hbel) (by omega)).mono ?_
          rintro e w2 ⟨so', cap', k, rfl, hown2, hbel2⟩
          go_wp2_with fail
          simp only [Exit.jumps]
          go_ret
          exact ⟨so', k, cap', rfl, by rw [← hzs, mrg_nil_right]; exact hown2, hbel2⟩
        · have e2 : ((nb : Int) == 0) = false := by simp; omega
          obtain ⟨ba, offa, rfl, hca⟩ := (hra.below hbel).at (by omega)
          obtain ⟨bb, offb, rfl, hcb⟩ := (hrb.below hbel).at (by omega)
          have c1 : w'.cell? ⟨ba, offa, none⟩ = _ := hca 0 (by omega)
          have c2 : w'.cell? ⟨bb, offb, none⟩ = _ := hcb 0 (by omega)
          have p1 : (0 : Int) < (na : Int) := by omega
          have p2 : (0 : Int) < (nb : Int) := by omega
          have q1 : (1 : Int) ≤ (ca : Int) := by have := hra.cap_le; omega
          have q2 : (1 : Int) ≤ (cb : Int) := by have := hrb.cap_le; omega
          have q3 : (1 : Int) ≤ (na : Int) := by omega
          have q4 : (1 : Int) ≤ (nb : Int) := by omega
          generalize hX : xs.getD 0 0 = X at c1
          generalize hY : ys.getD 0 0 = Y at c2
          have HX : Hid (xs.getD 0 0 = X) := hX
          have HY : Hid (ys.getD 0 0 = Y) := hY
          have HLA : Hid (xs.length = na) := hla
          have HLB : Hid (ys.length = nb) := hlb
          have HZS : Hid (os ++ mrg p q r xs ys = mrg p q r xs0 ys0) := hzs
          clear hX hY hla hlb hca hcb hzs
          by_cases hXY : X < Y
          · go_wp2
            go_quiet (fail)
            go_wp2_with fail
            go_step3
            refine ⟨⟨_, _, so, na, ca, nb, cb, no, co, xs, ys, os, _, _, _, _, _, _, _, _, _, _, _, _, _, _, _, _, _, _, _, _, _, _, _, _, _, _, _, _, _, _, _, _, _, _, _, _, _, _, _, _, _, _, _, _, _, _, _, _, _, _, _, _, _, _, _, _, _, _, _, _, _, rfl, bel_drewN hbel _, hra, hrb, hna, hnb, hown.below (bel_drewN (Below.refl _ _) _), hsum, HZS.out, .inr (.inl ⟨rfl, by omega, by omega, by rw [HX.out, HY.out]; exact hXY⟩)⟩, ?_⟩
            simp [MMu, slen]
          · have hXY' : decide (X < Y) = false := by simpa using hXY
            by_cases hYX : Y < X
            · go_wp2
              go_quiet (fail)
              go_wp2
              go_quiet (fail)
              go_wp2_with fail
              go_step3
              refine ⟨⟨_, _, so, na, ca, nb, cb, no, co, xs, ys, os, _, _, _, _, _, _, _, _, _, _, _, _, _, _, _, _, _, _, _, _, _, _, _, _, _, _, _, _, _, _, _, _, _, _, _, _, _, _, _, _, _, _, _, _, _, _, _, _, _, _, _, _, _, _, _, _, _, _, _, _, _, rfl, bel_drewN (bel_drewN hbel _) _, hra, hrb, hna, hnb, hown.below (same_drew2 _ _ _), hsum, HZS.out, .inr (.inr ⟨rfl, by omega, by omega, by rw [HX.out, HY.out]; exact hYX⟩)⟩, ?_⟩
              simp [MMu, slen]
            · have hYX' : decide (Y < X) = false := by simpa using hYX
              go_wp2
              go_quiet (fail)
              go_wp2
              go_quiet (fail)
              go_wp2_with fail
              refine (appendIf_any so no co os (some ⟨ba, offa, none⟩) 1 ca (xs.take 1) q _ w.heap.size (by simpa using hbel.size) w (bel_drewN hbel _) (hown.below (bel_drewN (Below.refl _ _) _)) ((hra.pre 1 (by omega)).below (bel_drewN hbel _)) (by omega)).mono ?_
              rintro e w2 ⟨so', cap', k, rfl, hown2, hbel2⟩
              have hk : k ≤ no + 1 := by
                have h5 := hown2.1
                have h6 := kp_len q xs
                rw [List.length_append, hown.1] at h5
                omega
              have hE : X = Y := by omega
              have hz2 : (os ++ kp q (xs.take 1)) ++ mrg p q r (xs.drop 1) (ys.drop 1) = mrg p q r xs0 ys0 := by
                rw [← HZS.out, mrg_heads_eq p q r xs ys (by have := HLA.out; omega) (by have := HLB.out; omega) (by rw [HX.out, HY.out, hE]), List.append_assoc]
              have hz3 : Hid (_ = _) := hz2
              clear hz2
              go_wp2
              go_quiet (fail)
              go_wp2_with fail
              all_goals go_step3
              all_goals refine ⟨⟨_, _, so', na - 1, _, nb - 1, _, k, cap', xs.drop 1, ys.drop 1, os ++ kp q (xs.take 1), _, _, _, _, _, _, _, _, _, _, _, _, _, _, _, _, _, _, _, _, _, _, _, _, _, _, _, _, _, _, _, _, _, _, _, _, _, _, _, _, _, _, _, _, _, _, _, _, _, _, _, _, _, _, _, _, _, _, _, _, _, rfl, bel_drewN hbel2 _, ?_, ?_, by omega, by omega, hown2.below (same_drew _ _), by omega, hz3.out, .inl rfl⟩, ?_⟩
              all_goals first | (simp [MMu, slen]; omega) | exact hra.tail 1 (by omega) | exact hrb.tail 1 (by omega) | exact hra.tail1 (by omega) (by omega) | exact hrb.tail1 (by omega) (by omega)
    · refine ⟨_, rfl, ?_⟩
      obtain ⟨ha0, hb0, hlt⟩ := hl
      obtain ⟨ba, offa, rfl, hca⟩ := (hra.below hbel).at (by omega)
      have q1 : (1 : Int) ≤ (ca : Int) := by have := hra.cap_le; omega
      have q3 : (1 : Int) ≤ (na : Int) := by omega
      have HZS : Hid (os ++ mrg p q r xs ys = mrg p q r xs0 ys0) := hzs
      have HLA : Hid (xs.length = na) := hla
      have HLB : Hid (ys.length = nb) := hlb
      clear hzs hla hlb hca
      go_wp2_with fail
      refine (appendIf_any so no co os (some ⟨ba, offa, none⟩) 1 ca (xs.take 1) p _ w.heap.size hbel.size w hbel hown ((hra.pre 1 (by omega)).below hbel) (by omega)).mono ?_
      rintro e w2 ⟨so', cap', k, rfl, hown2, hbel2⟩
      have hk : k ≤ no + 1 := by
        have h5 := hown2.1
        have h6 := kp_len p xs
        rw [List.length_append, hown.1] at h5
        omega
      have hz3 : Hid ((os ++ kp p (xs.take 1)) ++ mrg p q r (xs.drop 1) ys = mrg p q r xs0 ys0) := by
        show _ = _
        rw [← HZS.out, mrg_heads_lt p q r xs ys (by have := HLA.out; omega) (by have := HLB.out; omega) hlt, List.append_assoc]
      go_wp2_with fail
      all_goals go_step3
      all_goals refine ⟨⟨_, _, so', na - 1, _, nb, _, k, cap', xs.drop 1, ys, os ++ kp p (xs.take 1), _, _, _, _, _, _, _, _, _, _, _, _, _, _, _, _, _, _, _, _, _, _, _, _, _, _, _, _, _, _, _, _, _, _, _, _, _, _, _, _, _, _, _, _, _, _, _, _, _, _, _, _, _, _, _, _, _, _, _, _, _, rfl, hbel2, ?_, hrb, by omega, by omega, hown2, by omega, hz3.out, .inl rfl⟩, ?_⟩
      all_goals first | (simp [MMu, slen]; omega) | exact hra.tail 1 (by omega) | exact hra.tail1 (by omega) (by omega)
    · refine ⟨_, rfl, ?_⟩
      obtain ⟨ha0, hb0, hlt⟩ := hl
      obtain ⟨bb, offb, rfl, hcb⟩ := (hrb.below hbel).at (by omega)
      have q1 : (1 : Int) ≤ (cb : Int) := by have := hrb.cap_le; omega
      have q3 : (1 : Int) ≤ (nb : Int) := by omega
      have HZS : Hid (os ++ mrg p q r xs ys = mrg p q r xs0 ys0) := hzs
      have HLA : Hid (xs.length = na) := hla
      have HLB : Hid (ys.length = nb) := hlb
      clear hzs hla hlb hcb
      go_wp2_with fail
      refine (appendIf_any so no co os (some ⟨bb, offb, none⟩) 1 cb (ys.take 1) r _ w.heap.size hbel.size w hbel hown ((hrb.pre 1 (by omega)).below hbel) (by omega)).mono ?_
      rintro e w2 ⟨so', cap', k, rfl, hown2, hbel2⟩
      have hk : k ≤ no + 1 := by
        have h5 := hown2.1
        have h6 := kp_len r ys
        rw [List.length_append, hown.1] at h5
        omega
      have hz3 : Hid ((os ++ kp r (ys.take 1)) ++ mrg p q r xs (ys.drop 1) = mrg p q r xs0 ys0) := by
        show _ = _
        rw [← HZS.out, mrg_heads_gt p q r xs ys (by have := HLA.out; omega) (by have := HLB.out; omega) hlt, List.append_assoc]
      go_wp2_with fail
      all_goals go_step3
      all_goals refine ⟨⟨_, _, so', na, _, nb - 1, _, k, cap', xs, ys.drop 1, os ++ kp r (ys.take 1), _, _, _, _, _, _, _, _, _, _, _, _, _, _, _, _, _, _, _, _, _, _, _, _, _, _, _, _, _, _, _, _, _, _, _, _, _, _, _, _, _, _, _, _, _, _, _, _, _, _, _, _, _, _, _, _, _, _, _, _, _, rfl, hbel2, hra, ?_, by omega, by omega, hown2, by omega, hz3.out, .inl rfl⟩, ?_⟩
      all_goals first | (simp [MMu, slen]; omega) | exact hrb.tail 1 (by omega) | exact hrb.tail1 (by omega) (by omega)
  · intro hpass
    go_wp2_with fail
    go_step3
    rename_i hK
    refine hK _ _ ?_
    exact hpass.out _ _ ⟨a, b, none, n, cap, m, cap2, 0, 0, xs0, ys0, [], _, _, _, _, _, _, _, _, _, _, _, _, _, _, _, _, _, _, _, _, _, _, _, _, _, _, _, _, _, _, _, _, _, _, _, _, _, _, _, _, _, _, _, _, _, _, _, _, _, _, _, _, _, _, _, _, _, _, _, _, _, rfl, Below.refl _ _, hr, hs, Nat.le_refl _, Nat.le_refl _, OwnW.of_nil _ _ _, by omega, by simp, .inl rfl⟩

set_option maxHeartbeats 400000 in
theorem or_any (a b : Option Addr) (n cap m cap2 : Nat) (xs ys : List Int) (w : World) (hr : RowW w a n cap xs) (hs : RowW w b m cap2 ys) (hbd : n + m ≤ 70368744177664) :
    Calls Try.prog 55 #[.slice a n cap, .slice b m cap2] w fun e w' => ∃ so k co, e = .returned (.slice so k co) ∧ OwnW 38 w' w.heap.size so k co (mrg true true true xs ys) ∧ Below w.heap.size w w' := by
  go_enter Try.func55, Try.ntmps55
  go_wp2_with fail
  refine (merge_any a b n cap m cap2 xs ys 7 true true true w hr hs hbd (.inl ⟨rfl, rfl, rfl, rfl⟩)).mono ?_
  rintro e w2 ⟨so, k, co, rfl, hown, hbel⟩
  go_wp2_with fail
  go_ret
  exact ⟨so, k, co, rfl, hown, hbel⟩
set_option maxHeartbeats 400000 in
theorem and_any (a b : Option Addr) (n cap m cap2 : Nat) (xs ys : List Int) (w : World) (hr : RowW w a n cap xs) (hs : RowW w b m cap2 ys) (hbd : n + m ≤ 70368744177664) :
    Calls Try.prog 61 #[.slice a n cap, .slice b m cap2] w fun e w' => ∃ so k co, e = .returned (.slice so k co) ∧ OwnW 38 w' w.heap.size so k co (mrg false true false xs ys) ∧ Below w.heap.size w w' := by
  go_enter Try.func61, Try.ntmps61
  go_wp2_with fail
  refine (merge_any a b n cap m cap2 xs ys 2 false true false w hr hs hbd (.inr (.inl ⟨rfl, rfl, rfl, rfl⟩))).mono ?_
  rintro e w2 ⟨so, k, co, rfl, hown, hbel⟩
  go_wp2_with fail
  go_ret
  exact ⟨so, k, co, rfl, hown, hbel⟩
set_option maxHeartbeats 400000 in
theorem less_set_any (a b : Option Addr) (n cap m cap2 : Nat) (xs ys : List Int) (w : World) (hr : RowW w a n cap xs) (hs : RowW w b m cap2 ys) (hbd : n + m ≤ 70368744177664) :
    Calls Try.prog 65 #[.slice a n cap, .slice b m cap2] w fun e w' => ∃ so k co, e = .returned (.slice so k co) ∧ OwnW 38 w' w.heap.size so k co (mrg true false false xs ys) ∧ Below w.heap.size w w' := by
  go_enter Try.func65, Try.ntmps65
  go_wp2_with fail
  refine (merge_any a b n cap m cap2 xs ys 1 true false false w hr hs hbd (.inr (.inr ⟨rfl, rfl, rfl, rfl⟩))).mono ?_
  rintro e w2 ⟨so, k, co, rfl, hown, hbel⟩
  go_wp2_with fail
  go_ret
  exact ⟨so, k, co, rfl, hown, hbel⟩
set_option maxHeartbeats 400000 in
theorem in_any (a b : Option Addr) (n cap m cap2 : Nat) (xs ys : List Int) (w : World) (hr : RowW w a n cap xs) (hs : RowW w b m cap2 ys) (hbd : n + m ≤ 70368744177664) :
    Calls Try.prog 52 #[.slice a n cap, .slice b m cap2] w fun e w' => e = .returned (.bool (decide (mrg true false false xs ys = []))) ∧ Below w.heap.size w w' := by
  go_enter Try.func52, Try.ntmps52
  go_wp2_with fail
  refine (less_set_any a b n cap m cap2 xs ys w hr hs hbd).mono ?_
  rintro e w2 ⟨so, k, co, rfl, hown, hbel⟩
  have hk := hown.1
  by_cases h : k = 0
  · subst h
    go_wp2_with fail
    go_ret
    refine ⟨?_, hbel⟩
    rw [decide_eq_true (List.eq_nil_of_length_eq_zero hk)]; rfl
  · have h1 : ((k : Int) == 0) = false := by simp; omega
    have hk' : Hid (_ = _) := hk
    clear hk
    go_wp2_with fail
    go_ret
    refine ⟨?_, hbel⟩
    rw [decide_eq_false (fun e => h (by rw [← hk'.out, e]; rfl))]; rfl
end Go.Proofs.Ytdoemkncgfgkhaa
