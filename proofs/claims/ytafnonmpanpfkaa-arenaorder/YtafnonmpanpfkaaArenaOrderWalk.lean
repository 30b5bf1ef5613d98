/- In which order records were put is not to be seen: the walk. (Written by tools/drafts/arena/mkarorder.py.) -/
import Derived.Test.YtafnonmpanpfkaaArBegun
import Derived.Test.YtafnonmpanpfkaaRegionT
namespace Go.Proofs.Ytafnonmpanpfkaa
open Go.RowKit
set_option maxRecDepth 100000
set_option linter.unusedVariables false

/-- Each id of s has the record 1, id. -/
def setT (s : List Int) : Tx := fun i => if i ∈ s then some [1, i] else none
theorem setT_one (s : List Int) (x : Int) : upT (setT s) x (some [1, x]) = setT (s ++ [x]) := by
  funext i
  unfold upT setT
  by_cases e : i = x
  · subst e; simp
  · simp [e]
theorem setT_two (s : List Int) (x : Int) (ys : List Int) : upT (upT (setT s) x (some ys)) x (some [1, x]) = setT (s ++ [x]) := by
  rw [← setT_one]
  funext i
  unfold upT
  by_cases e : i = x
  · simp [e]
  · simp [e]
theorem setT_eq {s t : List Int} (h : ∀ x, x ∈ s ↔ x ∈ t) : setT s = setT t := by
  funext i
  unfold setT
  by_cases e : i ∈ s
  · rw [if_pos e, if_pos ((h i).1 e)]
  · rw [if_neg e, if_neg (fun c => e ((h i).2 c))]
/-- The ids as they are put the other way. -/
def turnL (xs : List Int) (k m : Nat) : List Int := (List.range m).map fun t => xs.getD ((t + k) % xs.length) 0
theorem turnL_succ (xs : List Int) (k m : Nat) : turnL xs k (m + 1) = turnL xs k m ++ [xs.getD ((m + k) % xs.length) 0] := by simp [turnL, List.range_succ]
theorem turnL_mem (xs : List Int) (k : Nat) (x : Int) : x ∈ turnL xs k xs.length ↔ x ∈ xs := by
  simp only [turnL, List.mem_map, List.mem_range]
  constructor
  · rintro ⟨t, ht, rfl⟩
    have hl : (t + k) % xs.length < xs.length := Nat.mod_lt _ (by omega)
    rw [List.getD_eq_getElem?_getD, List.getElem?_eq_getElem hl]
    exact List.getElem_mem hl
  · intro h
    obtain ⟨i, hi, rfl⟩ := List.getElem_of_mem h
    have hp : 0 < xs.length := by omega
    refine ⟨(i + (xs.length - k % xs.length)) % xs.length, Nat.mod_lt _ hp, ?_⟩
    have hkm := Nat.mod_lt k hp
    have e : ((i + (xs.length - k % xs.length)) % xs.length + k) % xs.length = i := by
      rw [Nat.mod_add_mod]
      have hk := Nat.div_add_mod k xs.length
      have e2 : i + (xs.length - k % xs.length) + k = i + xs.length * (k / xs.length + 1) := by
        rw [Nat.mul_add, Nat.mul_one]; omega
      rw [e2, Nat.add_mul_mod_self_left, Nat.mod_eq_of_lt hi]
    rw [e, List.getD_eq_getElem?_getD, List.getElem?_eq_getElem hi]
    rfl
theorem byt_getD {xs : List Int} (h : Byt xs) (i : Nat) : 0 ≤ xs.getD i 0 ∧ xs.getD i 0 < 256 := by
  rw [List.getD_eq_getElem?_getD]
  cases hx : xs[i]? with
  | none => simp
  | some y => exact h y (List.mem_of_getElem? hx)
section
variable {w0 w w' : World} {pa pb Na Nb : Nat} {Ta Tb : Tx}
theorem Ar.lst {S : Nat → Prop} {p N : Nat} {v : Int} {T : Tx} (h : Ar w S p v T N) : ∃ ls, Lst T ls ∧ ls.length ≤ N := by
  obtain ⟨x, _, _, hi⟩ := h
  exact ⟨_, hi.lst, Nat.le_trans (says_len _ _) hi.bnd.1⟩
/-- Two arenas that were made since w0, apart. -/
def Two (w0 w : World) (pa : Nat) (Ta : Tx) (Na pb : Nat) (Tb : Tx) (Nb : Nat) : Prop := ∃ Sa Sb, Ar w Sa pa 1 Ta Na ∧ Ar w Sb pb 1 Tb Nb ∧ (∀ b, Sa b → ¬ Sb b) ∧ (∀ b, Sa b → w0.heap.size ≤ b) ∧ (∀ b, Sb b → w0.heap.size ≤ b) ∧ Below w0.heap.size w0 w
theorem Two.below (h : Two w0 w pa Ta Na pb Tb Nb) (hb : Below w.heap.size w w') : Two w0 w' pa Ta Na pb Tb Nb := by
  obtain ⟨Sa, Sb, h1, h2, h3, h4, h5, h6⟩ := h
  exact ⟨Sa, Sb, h1.below hb, h2.below hb, h3, h4, h5, h6.trans (hb.mono h6.size)⟩
theorem Two.symm (h : Two w0 w pa Ta Na pb Tb Nb) : Two w0 w pb Tb Nb pa Ta Na := by
  obtain ⟨Sa, Sb, h1, h2, h3, h4, h5, h6⟩ := h
  exact ⟨Sb, Sa, h2, h1, fun b hb hc => h3 b hc hb, h5, h4, h6⟩
theorem Two.new (h : Two w0 w pa Ta Na pb Tb Nb) : Below w0.heap.size w0 w := by
  obtain ⟨Sa, Sb, h1, h2, h3, h4, h5, h6⟩ := h
  exact h6
/-- A put into the first: bytes that were just laid. -/
theorem Two.put (h : Two w0 w pa Ta Na pb Tb Nb) (hN : Na ≤ 274877906944) (c : Int) (hc : U c) (x : Int) (hx : 0 ≤ x ∧ x < 256) :
    Calls Try.prog 9 #[.pointer (some ⟨pa, 0, none⟩), .int .u64 c, .slice (some ⟨w.heap.size, 0, none⟩) 2 2] (w.alloc (.cells #[.int .u8 1, .int .u8 x] 5)) fun e w2 => e = .returned (.int .i64 0) ∧ Two w0 w2 pa (upT Ta c (some [1, x])) (Na + 2) pb Tb Nb := by
  have hb := below_alloc w (.cells #[.int .u8 1, .int .u8 x] 5)
  have hr : Row (w.alloc (.cells #[.int .u8 1, .int .u8 x] 5)) (some ⟨w.heap.size, 0, none⟩) 2 2 [1, x] := row_lit w 5 [1, x] 2 rfl (by omega) (fun y hy => by simp at hy; rcases hy with rfl | rfl <;> omega)
  have hlt : ∀ (Sa : Nat → Prop), Ar w Sa pa 1 Ta Na → ∀ b, Sa b → b < w.heap.size := fun Sa h => h.lt
  obtain ⟨Sa, Sb, h1, h2, h3, h4, h5, h6⟩ := h
  have k2 := h2.below hb
  refine (put_ok (h1.below hb) hN c hc hr (rec_two 1 x) (fun y hy hS => by obtain rfl := Option.some.inj hy; exact absurd (hlt Sa h1 _ hS) (Nat.lt_irrefl _))).mono ?_
  rintro e w2 ⟨rfl, hA, t⟩
  have h7 := h6.trans (hb.mono h6.size)
  refine ⟨rfl, _, Sb, hA, k2.other t (fun b hb hc => h3 b hc hb), fun b hb hc => hb.elim (fun hb => h3 b hb hc) (fun hb => by have := k2.lt b hc; omega), fun b hb => hb.elim (h4 b) (fun hb => Nat.le_trans h7.size hb.1), h5, ?_⟩
  exact ⟨t.os.trans h7.os, t.tape.trans h7.tape, t.output.trans h7.output, Nat.le_trans h7.size t.size, fun b hb => (t.block b (Nat.lt_of_lt_of_le hb h7.size) (fun hc => by have := h4 b hc; omega)).trans (h7.block b hb)⟩
set_option maxHeartbeats 2000000 in
theorem arenaOrder_true (a : Option Addr) (n c : Nat) (xs : List Int) (t : Nat) (ht : t < 256) (w : World) (hr : Row w a n c xs) :
    Calls Try.prog 5 #[.slice a n c, .int .u8 t] w fun e w' => e = .returned (.bool true) ∧ Below w.heap.size w w' := by
  have hcap := hr.cap_le
  go_enter Try.func5, Try.ntmps5
  go_wp2_with fail
  refine (begun19_true w).mono ?_
  rintro e wb ⟨rfl, b0⟩
  by_cases h0 : n = 0
  · have h1 : ((n : Int) == 0) = true := by simp [h0]
    clear h0
    go_wp2_with fail
    go_ret
    exact ⟨rfl, b0⟩
  have h1 : ((n : Int) == 0) = false := by simp [h0]
  by_cases h10 : 10 < n
  · have h2 : (10 : Int) < (n : Int) := by omega
    go_wp2_with fail
    go_ret
    exact ⟨rfl, b0⟩
  have h2 : decide ((10 : Int) < (n : Int)) = false := by simp; omega
  have hn0 : ¬ (n : Int) = 0 := by omega
  obtain ⟨k, hk⟩ : ∃ k, k = t % n := ⟨_, rfl⟩
  have hkn : k < n := by rw [hk]; exact Nat.mod_lt _ (by omega)
  have hk1 : (t : Int) % (n : Int) = (k : Int) := by rw [hk]; rfl
  clear hk
  go_wp2_with fail
  refine (new_any 1 wb).mono ?_
  rintro e w1 ⟨rfl, hA, b1⟩
  go_wp2_with fail
  refine (new_any 1 w1).mono ?_
  rintro e w2 ⟨rfl, hB, b2⟩
  have hTwo : Two w w2 wb.heap.size (setT []) 0 w1.heap.size (setT []) 0 := by
    have e0 : setT [] = fun _ => none := by funext i; simp [setT]
    rw [e0]
    have s0 := b0.size
    have s1 := b1.size
    exact ⟨_, _, hA.below b2, hB, fun b h1 h2 => h1.elim False.elim (fun h1 => h2.elim False.elim (fun h2 => by omega)), fun b h1 => h1.elim False.elim (fun h1 => by omega), fun b h1 => h1.elim False.elim (fun h1 => by omega), ext_trans (ext_trans b0 b1) b2⟩
  clear hA hB b1 b2
  obtain ⟨pa, hpa⟩ : ∃ pa, pa = wb.heap.size := ⟨_, rfl⟩
  obtain ⟨pb, hpb⟩ : ∃ pb, pb = w1.heap.size := ⟨_, rfl⟩
  rw [← hpa, ← hpb] at hTwo
  rw [← hpa, ← hpb]
  clear hpa hpb b0
  have hl := hr.len
  go_wp2_with fail
  simp only [hk1]
  clear hk1
  go_loopw [8, 9, 10] (fun s8 s9 s10 wr => ∃ j : Nat, j ≤ n ∧ s8 = .int .i64 j ∧ (∃ z : Value, s9 = z) ∧ (∃ z : Value, s10 = z) ∧ Two w wr pa (setT (xs.take j)) (2 * j) pb (setT (turnL xs k j)) (4 * j)) (fun s8 _ _ _ => n - (intOf s8).toNat)
  case atStart => exact ⟨0, by omega, rfl, ⟨_, rfl⟩, ⟨_, rfl⟩, hTwo⟩
  case round =>
    clear hTwo
    obtain ⟨j, hj, rfl, ⟨z9, rfl⟩, ⟨z10, rfl⟩, hT⟩ := hrel
    by_cases hlt : j < n
    · have q1 : (j : Int) < (n : Int) := by omega
      obtain ⟨b, off, rfl, hcs⟩ := (hr.below hT.new).at (by omega)
      obtain ⟨m, hm⟩ : ∃ m, m = (j + k) % n := ⟨_, rfl⟩
      have hmn : m < n := by rw [hm]; exact Nat.mod_lt _ (by omega)
      have q2 : ((j : Int) + (k : Int)) % (n : Int) = (m : Int) := by rw [hm]; rfl
      have q3 : (m : Int) < (n : Int) := by omega
      have c1 := hcs j hlt
      have c2 := hcs m hmn
      have hXb := byt_getD hr.byt j
      have hYb := byt_getD hr.byt m
      have hstepA : Hid (xs.take (j + 1) = xs.take j ++ [xs.getD j 0]) := by
        show _ = _
        have hjl : j < xs.length := by omega
        rw [List.take_add_one, List.getD_eq_getElem?_getD, List.getElem?_eq_getElem hjl]; rfl
      have hstepB : Hid (turnL xs k (j + 1) = turnL xs k j ++ [xs.getD m 0]) := by
        show _ = _
        rw [turnL_succ, hl, ← hm]
      obtain ⟨X, hX⟩ : ∃ X, X = xs.getD j 0 := ⟨_, rfl⟩
      obtain ⟨Y, hY⟩ : ∃ Y, Y = xs.getD m 0 := ⟨_, rfl⟩
      rw [← hX] at c1 hXb hstepA
      rw [← hY] at c2 hYb hstepB
      clear hm hX hY hcs
      have wX : IntKind.u64.wrap X = X := by rw [IntKind.wrap_u64]; omega
      have wY : IntKind.u64.wrap Y = Y := by rw [IntKind.wrap_u64]; omega
      have UX : U X := by unfold U; omega
      have UY : U Y := by unfold U; omega
      go_wp2_with fail
      go_quiet (fail)
      have hT1 := hT.below (bel_drawn wr nq)
      have p1 := hT1.put (by omega) X UX X hXb
      clear hT hT1
      go_wp2_with fail
      refine p1.mono ?_
      rintro e w3 ⟨rfl, hT⟩
      have p2 := hT.symm.put (by omega) Y UY 99 (by omega)
      clear hT p1
      go_wp2_with fail
      refine p2.mono ?_
      rintro e w4 ⟨rfl, hT⟩
      have p3 := hT.put (by omega) Y UY Y hYb
      clear hT p2
      go_wp2_with fail
      refine p3.mono ?_
      rintro e w5 ⟨rfl, hT⟩
      go_wp2_with fail
      go_roundw
      case rel =>
        refine ⟨j + 1, by omega, by go_num, ⟨_, rfl⟩, ⟨_, rfl⟩, ?_⟩
        have h := hT.symm
        rw [setT_one, setT_two] at h
        rw [hstepA.out, hstepB.out]
        exact h
      case measure => simp [intOf]; omega
    · obtain rfl : j = n := by omega
      have eqT : setT (turnL xs k j) = setT (xs.take j) := setT_eq fun x => by
        rw [List.take_of_length_le (by omega), ← hl]
        exact turnL_mem xs k x
      rw [eqT] at hT
      obtain ⟨Sa, Sb, hA, hB, hd, _, _, hb⟩ := hT
      obtain ⟨ls, hL, hlen⟩ := hA.lst
      have hne : 0 < ls.length := by
        cases xs with
        | nil => simp at hl; omega
        | cons y r =>
          have h1 : (y, ([1, y] : List Int)) ∈ ls := (hL.mem _ _).2 (by unfold setT; rw [if_pos]; cases j with | zero => simp at hl | succ j => simp)
          exact List.length_pos_of_mem h1
      have htot : tot ls = 2 * ls.length := by
        have h2 : ∀ q ∈ ls, q.2.length = 2 := fun q hq => by
          have := (hL.mem q.1 q.2).1 hq
          unfold setT at this
          split at this
          · rw [← Option.some.inj this]; rfl
          · cases this
        clear hL hlen hne
        induction ls with
        | nil => rfl
        | cons q ls ih =>
          have h1 := h2 q (by simp)
          have h3 := ih fun q hq => h2 q (by simp [hq])
          have e : tot (q :: ls) = q.2.length + tot ls := by simp [tot]
          rw [e, List.length_cons]; omega
      have hup : (ls.map Prod.fst).Pairwise (· < ·) := by
        rw [List.pairwise_map]
        exact hL.up
      have HT : Hid (tot ls = 2 * ls.length) := htot
      have HL : Hid (Lst (setT (xs.take j)) ls) := hL
      clear eqT htot hL hd
      go_wp2_with fail
      refine (ids_any hA (by omega) HL.out).mono ?_
      rintro e w3 ⟨ia, ic, rfl, hq, b3⟩
      have hA3 := hA.below b3
      have hB3 := hB.below b3
      have hb3 : Below w.heap.size w w3 := hb.trans (b3.mono hb.size)
      obtain ⟨m, hm⟩ : ∃ m, m = ls.length := ⟨_, rfl⟩
      rw [← hm] at hq hlen hne
      rw [← hm]
      have HM : Hid (m = ls.length) := hm
      have hcapq := hq.cap_le
      clear hA hB b3 hb hm
      go_wp2_with fail
      go_loopw [12] (fun s12 wr => ∃ i : Nat, 1 ≤ i ∧ i ≤ m ∧ s12 = .int .i64 i ∧ Below w3.heap.size w3 wr) (fun s12 _ => m - (intOf s12).toNat)
      case atStart => exact ⟨1, by omega, by omega, rfl, Below.refl _ _⟩
      case round =>
        obtain ⟨i, hi1, him, rfl, hbr⟩ := hrel
        by_cases hlt2 : i < m
        · have r1 : (i : Int) < (m : Int) := by omega
          have r2 : (0 : Int) ≤ (i : Int) - 1 := by omega
          have r3 : (i : Int) - 1 < (m : Int) := by omega
          have r4 : ((i : Int) - 1).toNat = i - 1 := by omega
          obtain ⟨b, off, rfl, hcs⟩ := (hq.below hbr).at (by omega)
          have c1 := hcs i hlt2
          have c2 := hcs (i - 1) (by omega)
          have hlx := hq.len
          have hless : ¬ ((ls.map Prod.fst).getD i 0 ≤ (ls.map Prod.fst).getD (i - 1) 0) := by
            have h1 := List.pairwise_iff_getElem.1 hup (i - 1) i (by omega) (by omega) (by omega)
            rw [List.getD_eq_getElem?_getD, List.getD_eq_getElem?_getD, List.getElem?_eq_getElem (show i < _ by omega), List.getElem?_eq_getElem (show i - 1 < _ by omega)]
            show ¬ (_ ≤ _)
            simp only [Option.getD_some]
            omega
          generalize (ls.map Prod.fst).getD i 0 = P at c1 hless
          generalize (ls.map Prod.fst).getD (i - 1) 0 = R at c2 hless
          have r5 : decide (P ≤ R) = false := by simpa using hless
          clear hless hcs hlx
          go_wp2_with fail
          go_quiet (fail)
          go_wp2
          go_roundw
          case rel => exact ⟨i + 1, by omega, by omega, by go_num, below_drewN hbr nq⟩
          case measure => simp [intOf]; omega
        · obtain rfl : i = m := by omega
          have hA4 := hA3.below hbr
          have hB4 := hB3.below hbr
          have hb4 : Below w.heap.size w wr := hb3.trans (hbr.mono hb3.size)
          have q1 : decide ((i : Int) < (i : Int)) = false := by simp
          clear hA3 hB3 hbr hup hq
          go_wp2_with fail
          have hcast : ((2 * i : Nat) : Int) = 2 * (i : Int) := by omega
          have hwrap : IntKind.i64.wrap (2 * (i : Int)) = 2 * (i : Int) := by rw [IntKind.wrap_i64]; omega
          have hpos : (0 : Int) < (i : Int) := by omega
          refine wp_region_noPanic ?_
          refine wp_region_T (S := fun W => Below wr.heap.size wr W) (by kernel_rfl) (ext_drew wr) fun hS => ?_
          refine takeT_to (i := 0) (v := ?_) 91 rfl rfl (by kernel_rfl) (by kernel_rfl) (by kernel_rfl) (by kernel_rfl) (fun _ _ _ h => h) (Or.inl ⟨by rfl, ?_⟩) hS ?_
          rotate_left
          · intro W hW
            go_simp
            try with_reducible rfl
          simp only [List.setIfInBounds_toArray, List.set_cons_zero, List.set_cons_succ]
          refine takeT_to (i := 3) (v := ?_) 94 rfl rfl (by kernel_rfl) (by kernel_rfl) (by kernel_rfl) (by kernel_rfl) (fun _ _ _ h => h) (Or.inl ⟨by rfl, ?_⟩) hS ?_
          rotate_left
          · intro W hW
            go_simp
            try with_reducible rfl
          simp only [List.setIfInBounds_toArray, List.set_cons_zero, List.set_cons_succ]
          refine wpAnyT_ready (rs := [1]) (by kernel_rfl) (by simp) ?_
          refine AllReadyT.cons rfl (fun K hK => ?_) AllReadyT.nil
          go_simp
          refine (arbytes_any (hA4.below hS) (by omega) HL.out).mono ?_
          rintro e w5 ⟨a1, m1, d1, rfl, r1, b1⟩
          have k1 : Below wr.heap.size wr w5 := hS.trans (b1.mono hS.size)
          have HR1 : Hid (∀ W, Below w5.heap.size w5 W → Row W a1 m1 d1 (encA ls)) := fun W hW => r1.below hW
          refine hK.out _ _ (fun _ => k1) ?_
          refine wpAnyT_more (S' := fun W => Below w5.heap.size w5 W) (fun W hW => k1.trans (hW.mono k1.size)) _ _ _ _ ?_
          have hS : Below w5.heap.size w5 w5 := Below.refl _ _
          clear hK K
          refine takeT_to (i := 2) (v := ?_) 93 rfl rfl (by kernel_rfl) (by kernel_rfl) (by kernel_rfl) (by kernel_rfl) (fun _ _ _ h => h) (Or.inl ⟨by rfl, ?_⟩) hS ?_
          rotate_left
          · intro W hW
            have sC := strR.out W a1 m1 d1 _ (HR1.out W hW)
            go_simp
            try with_reducible rfl
          simp only [List.setIfInBounds_toArray, List.set_cons_zero, List.set_cons_succ]
          refine wpAnyT_ready (rs := [4]) (by kernel_rfl) (by simp) ?_
          refine AllReadyT.cons rfl (fun K hK => ?_) AllReadyT.nil
          go_simp
          refine (arbytes_any (hB4.below k1) (by omega) HL.out).mono ?_
          rintro e w6 ⟨a2, m2, d2, rfl, r2, b2⟩
          have k2 : Below wr.heap.size wr w6 := k1.trans (b2.mono k1.size)
          have HR2 : Hid (∀ W, Below w6.heap.size w6 W → Row W a2 m2 d2 (encA ls)) := fun W hW => r2.below hW
          refine hK.out _ _ (fun _ => b2) ?_
          refine wpAnyT_more (S' := fun W => Below w6.heap.size w6 W) (fun W hW => b2.trans (hW.mono b2.size)) _ _ _ _ ?_
          have hS : Below w6.heap.size w6 w6 := Below.refl _ _
          clear hK K
          refine takeT_to (i := 5) (v := ?_) 96 rfl rfl (by kernel_rfl) (by kernel_rfl) (by kernel_rfl) (by kernel_rfl) (fun _ _ _ h => h) (Or.inl ⟨by rfl, ?_⟩) hS ?_
          rotate_left
          · intro W hW
            have sC := strR.out W a2 m2 d2 _ (HR2.out W hW)
            go_simp
            try with_reducible rfl
          simp only [List.setIfInBounds_toArray, List.set_cons_zero, List.set_cons_succ]
          refine takeT_to (i := 6) (v := ?_) 97 rfl rfl (by kernel_rfl) (by kernel_rfl) (by kernel_rfl) (by kernel_rfl) (fun _ _ _ h => h) (Or.inl ⟨by rfl, ?_⟩) hS ?_
          rotate_left
          · intro W hW
            have sB : ((strOfNums (encA ls)).toList == (strOfNums (encA ls)).toList) = true := by simp
            go_simp
            try with_reducible rfl
          simp only [List.setIfInBounds_toArray, List.set_cons_zero, List.set_cons_succ]
          refine takeT_to (i := 7) (v := ?_) 98 rfl rfl (by kernel_rfl) (by kernel_rfl) (by kernel_rfl) (by kernel_rfl) (fun _ _ _ h => h) (Or.inl ⟨by rfl, ?_⟩) hS ?_
          rotate_left
          · intro W hW
            go_simp
            try with_reducible rfl
          simp only [List.setIfInBounds_toArray, List.set_cons_zero, List.set_cons_succ]
          refine takeT_to (i := 8) (v := ?_) 99 rfl rfl (by kernel_rfl) (by kernel_rfl) (by kernel_rfl) (by kernel_rfl) (fun _ _ _ h => h) (Or.inl ⟨by rfl, ?_⟩) hS ?_
          rotate_left
          · intro W hW
            go_simp
            try with_reducible rfl
          simp only [List.setIfInBounds_toArray, List.set_cons_zero, List.set_cons_succ]
          refine takeT_to (i := 10) (v := ?_) 101 rfl rfl (by kernel_rfl) (by kernel_rfl) (by kernel_rfl) (by kernel_rfl) (fun _ _ _ h => h) (Or.inl ⟨by rfl, ?_⟩) hS ?_
          rotate_left
          · intro W hW
            go_simp
            try with_reducible rfl
          simp only [List.setIfInBounds_toArray, List.set_cons_zero, List.set_cons_succ]
          refine takeT_to (i := 11) (v := ?_) 102 rfl rfl (by kernel_rfl) (by kernel_rfl) (by kernel_rfl) (by kernel_rfl) (fun _ _ _ h => h) (Or.inl ⟨by rfl, ?_⟩) hS ?_
          rotate_left
          · intro W hW
            go_simp
            try with_reducible rfl
          simp only [List.setIfInBounds_toArray, List.set_cons_zero, List.set_cons_succ]
          refine takeT_to (i := 12) (v := ?_) 103 rfl rfl (by kernel_rfl) (by kernel_rfl) (by kernel_rfl) (by kernel_rfl) (fun _ _ _ h => h) (Or.inl ⟨by rfl, ?_⟩) hS ?_
          rotate_left
          · intro W hW
            go_simp
            try with_reducible rfl
          simp only [List.setIfInBounds_toArray, List.set_cons_zero, List.set_cons_succ]
          refine wpAnyT_ready (rs := [9]) (by kernel_rfl) (by simp) ?_
          refine AllReadyT.cons rfl (fun K hK => ?_) AllReadyT.nil
          go_simp
          refine (size_any (hA4.below k2) (by omega) HL.out).mono ?_
          rintro e w7 ⟨rfl, b3⟩
          have k3 : Below wr.heap.size wr w7 := k2.trans (b3.mono k2.size)
          rw [HT.out, ← HM.out, hcast]
          refine hK.out _ _ (fun _ => b3) ?_
          refine wpAnyT_more (S' := fun W => Below w7.heap.size w7 W) (fun W hW => b3.trans (hW.mono b3.size)) _ _ _ _ ?_
          have hS : Below w7.heap.size w7 w7 := Below.refl _ _
          clear hK K
          refine takeT_to (i := 13) (v := ?_) 104 rfl rfl (by kernel_rfl) (by kernel_rfl) (by kernel_rfl) (by kernel_rfl) (fun _ _ _ h => h) (Or.inl ⟨by rfl, ?_⟩) hS ?_
          rotate_left
          · intro W hW
            go_simp
            try with_reducible rfl
          simp only [List.setIfInBounds_toArray, List.set_cons_zero, List.set_cons_succ]
          refine takeT_to (i := 14) (v := ?_) 105 rfl rfl (by kernel_rfl) (by kernel_rfl) (by kernel_rfl) (by kernel_rfl) (fun _ _ _ h => h) (Or.inl ⟨by rfl, ?_⟩) hS ?_
          rotate_left
          · intro W hW
            go_simp
            try with_reducible rfl
          simp only [List.setIfInBounds_toArray, List.set_cons_zero, List.set_cons_succ]
          refine takeT_to (i := 15) (v := ?_) 106 rfl rfl (by kernel_rfl) (by kernel_rfl) (by kernel_rfl) (by kernel_rfl) (fun _ _ _ h => h) (Or.inl ⟨by rfl, ?_⟩) hS ?_
          rotate_left
          · intro W hW
            go_simp
            try with_reducible rfl
          simp only [List.setIfInBounds_toArray, List.set_cons_zero, List.set_cons_succ]
          refine takeT_to (i := 16) (v := ?_) 107 rfl rfl (by kernel_rfl) (by kernel_rfl) (by kernel_rfl) (by kernel_rfl) (fun _ _ _ h => h) (Or.inl ⟨by rfl, ?_⟩) hS ?_
          rotate_left
          · intro W hW
            go_simp
            try with_reducible rfl
          simp only [List.setIfInBounds_toArray, List.set_cons_zero, List.set_cons_succ]
          refine takeT_to (i := 17) (v := ?_) 108 rfl rfl (by kernel_rfl) (by kernel_rfl) (by kernel_rfl) (by kernel_rfl) (fun _ _ _ h => h) (Or.inl ⟨by rfl, ?_⟩) hS ?_
          rotate_left
          · intro W hW
            go_simp
            try with_reducible rfl
          simp only [List.setIfInBounds_toArray, List.set_cons_zero, List.set_cons_succ]
          refine takeT_to (i := 18) (v := ?_) 109 rfl rfl (by kernel_rfl) (by kernel_rfl) (by kernel_rfl) (by kernel_rfl) (fun _ _ _ h => h) (Or.inl ⟨by rfl, ?_⟩) hS ?_
          rotate_left
          · intro W hW
            go_simp
            try with_reducible rfl
          simp only [List.setIfInBounds_toArray, List.set_cons_zero, List.set_cons_succ]
          refine takeT_to (i := 19) (v := ?_) 110 rfl rfl (by kernel_rfl) (by kernel_rfl) (by kernel_rfl) (by kernel_rfl) (fun _ _ _ h => h) (Or.inl ⟨by rfl, ?_⟩) hS ?_
          rotate_left
          · intro W hW
            go_simp
            try with_reducible rfl
          simp only [List.setIfInBounds_toArray, List.set_cons_zero, List.set_cons_succ]
          refine wpAnyT_ready (rs := [20]) (by kernel_rfl) (by simp) ?_
          refine AllReadyT.cons rfl (fun K hK => ?_) AllReadyT.nil
          go_simp
          refine hK.out _ _ (fun h => by cases h) ?_
          clear hK K
          refine wpAnyT_done (by kernel_rfl) ?_ _
          refine NoPanic.normal ?_
          go_wp2
          go_ret
          exact ⟨rfl, hb4.trans (k3.mono hb4.size)⟩
theorem arenaOrder_all (a : Option Addr) (n c : Nat) (xs : List Int) (x : Int) (hx : 0 ≤ x ∧ x < 256) (w : World) (hr : Row w a n c xs) :
    Calls Try.prog 5 #[.slice a n c, .int .u8 x] w fun e w' => e = .returned (.bool true) ∧ Below w.heap.size w w' := by
  obtain ⟨t, rfl⟩ := Int.eq_ofNat_of_zero_le hx.1
  exact arenaOrder_true a n c xs t (by omega) w hr
end
end Go.Proofs.Ytafnonmpanpfkaa
