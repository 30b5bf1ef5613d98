/- What the document's own functions on names answer: contracts, for every number. -/
import Derived.Test.YtpnlibdfbopmhaaNmPath
namespace Go.Proofs.Ytpnlibdfbopmhaa
open Go.RowKit
set_option maxRecDepth 100000

theorem len_yes {w : World} {so : Option Addr} {n co : Nat} {x : Int} (h : RowQ w so n co (pth x)) (hN : isN x = true) : n = dN x + 1 := by
  have := h.len; rw [pth_len, if_pos hN] at this; exact this.symm
theorem len_no {w : World} {so : Option Addr} {n co : Nat} {x : Int} (h : RowQ w so n co (pth x)) (hN : isN x = false) : n = 0 := by
  have := h.len; rw [pth_len, if_neg (by simp [hN])] at this; exact this.symm

theorem refMay_any (x : Int) (hx : U x) (w : World) : Calls Try.prog 11 #[.int .u64 x] w fun e w' => e = .returned (.bool (isN x)) ∧ Below w.heap.size w w' := by
  go_enter Try.func11, Try.ntmps11
  go_wp2_with fail
  refine (refPath_any x hx _).mono ?_
  rintro e w1 ⟨so, n, co, rfl, hr, hb⟩
  have hq : decide (0 < n) = isN x := by
    cases h : isN x with
    | true => have := len_yes hr h; simp; omega
    | false => have := len_no hr h; simp; omega
  go_wp2_with fail
  go_ret
  exact ⟨by rw [← hq]; rfl, hb⟩
theorem refDepth_any (x : Int) (hx : U x) (w : World) : Calls Try.prog 17 #[.int .u64 x] w fun e w' => e = .returned (.int .i64 (dN x)) ∧ Below w.heap.size w w' := by
  go_enter Try.func17, Try.ntmps17
  go_wp2_with fail
  refine (refPath_any x hx _).mono ?_
  rintro e w1 ⟨so, n, co, rfl, hr, hb⟩
  have hn7 : n ≤ 7 := by
    have := dN_le x
    cases h : isN x with
    | true => have := len_yes hr h; omega
    | false => have := len_no hr h; omega
  have hq : max ((n : Int) - 1) 0 = (dN x : Int) := by
    cases h : isN x with
    | true => have := len_yes hr h; omega
    | false => have := len_no hr h; have := dN_no h; omega
  go_wp2_with fail
  go_ret
  exact ⟨rfl, hb⟩
theorem refNumber_any (x : Int) (hx : U x) (w : World) : Calls Try.prog 15 #[.int .u64 x] w fun e w' => e = .returned (.int .i64 (nmb x)) ∧ Below w.heap.size w w' := by
  have h63 : x.tmod 64 = x % 64 := Int.tmod_eq_emod_of_nonneg hx.1
  go_enter Try.func15, Try.ntmps15
  go_wp2_with fail
  refine (refPath_any x hx _).mono ?_
  rintro e w1 ⟨so, n, co, rfl, hr, hb⟩
  by_cases h2 : n < 2
  · have q : decide ((n : Int) < 2) = true := by simp; omega
    have hz : nmb x = 0 := by
      unfold nmb
      cases h : isN x with
      | false => simp
      | true =>
        have h1 := len_yes hr h
        have h3 := (nm_of h).2.1
        rw [show dN x = 0 by omega] at h3
        simp at h3
        simp [h3]
    go_wp2_with fail
    go_ret
    exact ⟨by first | rfl | (rw [hz]; rfl), hb⟩
  · have q : decide ((n : Int) < 2) = false := by simp; omega
    have hz : nmb x = x % 64 := by
      unfold nmb
      cases h : isN x with
      | false => have := len_no hr h; omega
      | true =>
        have h1 := len_yes hr h
        rw [if_neg (fun hx1 => ?_)]
        · simp
        · have := (Nm.zero.2 hx1).uniq (nm_of h).2; omega
    have h64 : 0 ≤ x % 64 ∧ x % 64 < 64 := by omega
    go_wp2_with fail
    go_ret
    exact ⟨by first | rfl | (rw [hz]; rfl), hb⟩
theorem refParent_any (x : Int) (hx : U x) (w : World) : Calls Try.prog 13 #[.int .u64 x] w fun e w' => e = .returned (.int .u64 (par x)) ∧ Below w.heap.size w w' := by
  go_enter Try.func13, Try.ntmps13
  go_wp2_with fail
  refine (refPath_any x hx _).mono ?_
  rintro e w1 ⟨so, n, co, rfl, hr, hb⟩
  by_cases h2 : n < 2
  · have q : decide ((n : Int) < 2) = true := by simp; omega
    have hz : par x = 0 := by
      unfold par
      cases h : isN x with
      | false => simp
      | true =>
        have h1 := len_yes hr h
        have h3 := (nm_of h).2.1
        rw [show dN x = 0 by omega] at h3
        simp at h3
        simp [h3]
    go_wp2_with fail
    go_ret
    exact ⟨by first | rfl | (rw [hz]; rfl), hb⟩
  · have q : decide ((n : Int) < 2) = false := by simp; omega
    have hN : isN x = true := by
      cases h : isN x with
      | false => have := len_no hr h; omega
      | true => rfl
    have hl := len_yes hr hN
    have hd := dN_le x
    have hp : (pth x).getD (n - 2) 0 = par x := by
      unfold par
      rw [if_pos hN, pth_yes hN, up_get _ _ _ (by omega), show dN x + 1 - 1 - (n - 2) = 1 by omega, Int.pow_one]
    obtain ⟨k, hk⟩ : ∃ k, k = n - 2 := ⟨_, rfl⟩
    have ek : (n : Int) - 2 = (k : Int) := by omega
    have hkn : k < n := by omega
    have hn7 : n ≤ 7 := by omega
    obtain ⟨b, off, rfl, hc⟩ := hr.at (by omega)
    have c1 := hc k hkn
    rw [hk, hp, ← hk] at c1
    clear hk hc hp hl
    go_wp2_with fail
    go_ret
    exact ⟨by first | rfl | (rw [hz]; rfl), hb⟩
set_option maxHeartbeats 400000 in
theorem refOf_any (b n : Int) (hb : U b) (w : World) : Calls Try.prog 9 #[.int .u64 b, .int .i64 n] w fun e w' => e = .returned (.tuple #[.int .u64 (ofV b n), .int .i64 (ofE b n)]) ∧ Below w.heap.size w w' := by
  cases h : isN b with
  | false =>
    rw [(of_arg (.inl h)).1, (of_arg (.inl h)).2]
    go_enter Try.func9, Try.ntmps9
    go_wp2_with fail
    refine (refMay_any b hb _).mono ?_
    rintro e w1 ⟨rfl, b1⟩
    rw [h]
    go_wp2_with fail
    first | go_ret | go_ret2
    exact ⟨rfl, b1⟩
  | true =>
    have hbd := isN_bd h
    by_cases h1 : n < 1
    · rw [(of_arg (.inr (.inl h1))).1, (of_arg (.inr (.inl h1))).2]
      go_enter Try.func9, Try.ntmps9
      go_wp2_with fail
      refine (refMay_any b hb _).mono ?_
      rintro e w1 ⟨rfl, b1⟩
      rw [h]
      go_wp2_with fail
      first | go_ret | go_ret2
      exact ⟨rfl, b1⟩
    · have q1 : decide (n < 1) = false := by simp; omega
      by_cases h2 : 63 < n
      · rw [(of_arg (.inr (.inr h2))).1, (of_arg (.inr (.inr h2))).2]
        go_enter Try.func9, Try.ntmps9
        go_wp2_with fail
        refine (refMay_any b hb _).mono ?_
        rintro e w1 ⟨rfl, b1⟩
        rw [h]
        go_wp2_with fail
        first | go_ret | go_ret2
        exact ⟨rfl, b1⟩
      · have q2 : decide (63 < n) = false := by simp; omega
        by_cases h6 : dN b = 6
        · rw [(of_deep h (by omega) h6).1, (of_deep h (by omega) h6).2]
          go_enter Try.func9, Try.ntmps9
          go_wp2_with fail
          refine (refMay_any b hb _).mono ?_
          rintro e w1 ⟨rfl, b1⟩
          rw [h]
          go_wp2_with fail
          refine (refPath_any b hb _).mono ?_
          rintro e w2 ⟨so, l, co, rfl, hr, b2⟩
          obtain rfl : l = 7 := by have := len_yes hr h; omega
          go_wp2_with fail
          first | go_ret | go_ret2
          exact ⟨rfl, ext_trans b1 b2⟩
        · have hd := dN_le b
          rw [(of_ok h (by omega) h6).1, (of_ok h (by omega) h6).2]
          go_enter Try.func9, Try.ntmps9
          go_wp2_with fail
          refine (refMay_any b hb _).mono ?_
          rintro e w1 ⟨rfl, b1⟩
          rw [h]
          go_wp2_with fail
          refine (refPath_any b hb _).mono ?_
          rintro e w2 ⟨so, l, co, rfl, hr, b2⟩
          have q6 : decide ((6 : Int) < (l : Int)) = false := by have := len_yes hr h; simp; omega
          go_wp2_with fail
          first | go_ret | go_ret2
          exact ⟨rfl, ext_trans b1 b2⟩
/-- The document's Within: of any two numbers. -/
theorem refWithin_any (x b : Int) (hx : U x) (w : World) : Calls Try.prog 22 #[.int .u64 x, .int .u64 b] w fun e w' => e = .returned (.bool (wi x b)) ∧ Below w.heap.size w w' := by
  suffices H : ∀ xs, xs = pth x → Calls Try.prog 22 #[.int .u64 x, .int .u64 b] w fun e w' => e = .returned (.bool (decide (b ∈ xs))) ∧ Below w.heap.size w w' from H _ rfl
  intro xs hxs
  go_enter Try.func22, Try.ntmps22
  go_wp2_with fail
  refine (refPath_any x hx _).mono ?_
  rintro e w1 ⟨so, n, co, rfl, hr, hb⟩
  rw [← hxs] at hr
  clear hxs
  have hl : Hid (xs.length = n) := hr.len
  have hcap := hr.cap_le
  go_wp2_with fail
  go_loopw [6] (fun i wr => ∃ k : Nat, k ≤ n ∧ i = .int .i64 k ∧ wr = w1 ∧ Hid (∀ j, j < k → xs.getD j 0 ≠ b)) (fun i _ => n - (intOf i).toNat)
  case atStart => exact ⟨0, by omega, rfl, rfl, fun j hj => by omega⟩
  case round =>
    obtain ⟨k, hk, rfl, rfl, hno⟩ := hrel
    by_cases hlt : k < n
    · have hp : (k : Int) < (n : Int) := by omega
      obtain ⟨bb, off, rfl, hc⟩ := hr.at (by omega)
      have c1 := hc k hlt
      generalize hX : xs.getD k 0 = X at c1
      have HX : Hid (xs.getD k 0 = X) := hX
      clear hX hc
      by_cases he : X = b
      · have q : (X == b) = true := by simp [he]
        have hin : decide (b ∈ xs) = true := by
          rw [decide_eq_true_iff, ← he, ← HX.out, List.getD_eq_getElem?_getD, List.getElem?_eq_getElem (by rw [hl.out]; exact hlt)]
          exact List.getElem_mem _
        go_wp2_with fail
        go_ret
        exact ⟨by rw [hin]; rfl, hb⟩
      · have q : (X == b) = false := by simp [he]
        go_wp2_with fail
        go_roundw
        case rel =>
          refine ⟨k + 1, by omega, by go_num, by trivial, fun j hj => ?_⟩
          by_cases hjk : j = k
          · subst hjk; rw [HX.out]; exact he
          · exact hno.out j (by omega)
        case measure => simp [intOf]; omega
    · have hp : decide ((k : Int) < (n : Int)) = false := by simp; omega
      have hin : decide (b ∈ xs) = false := by
        rw [decide_eq_false_iff_not]
        intro hm
        obtain ⟨j, hj, e⟩ := List.getElem_of_mem hm
        refine hno.out j (by have := hl.out; omega) ?_
        rw [List.getD_eq_getElem?_getD, List.getElem?_eq_getElem hj]
        exact e
      go_wp2_with fail
      go_ret
      exact ⟨by rw [hin]; rfl, hb⟩
set_option maxHeartbeats 400000 in
/-- Two lists that read alike are the same. -/
theorem sameIDs_true (a b : Option Addr) (n ca cb : Nat) (xs : List Int) (w : World) (hr : RowQ w a n ca xs) (hs : RowQ w b n cb xs) :
    Calls Try.prog 18 #[.slice a n ca, .slice b n cb] w fun e w' => e = .returned (.bool true) ∧ Below w.heap.size w w' := by
  have hcap := hr.cap_le
  go_enter Try.func18, Try.ntmps18
  go_wp2_with fail
  go_loopw [5] (fun i wr => ∃ k : Nat, k ≤ n ∧ i = .int .i64 k ∧ Below w.heap.size w wr) (fun i _ => n - (intOf i).toNat)
  case atStart => exact ⟨0, by omega, rfl, Below.refl _ _⟩
  case round =>
    obtain ⟨k, hk, rfl, hbel⟩ := hrel
    by_cases hlt : k < n
    · have hp : (k : Int) < (n : Int) := by omega
      obtain ⟨b1, o1, rfl, hc1⟩ := (hr.below hbel).at (by omega)
      obtain ⟨b2, o2, rfl, hc2⟩ := (hs.below hbel).at (by omega)
      have c1 := hc1 k hlt
      have c2 := hc2 k hlt
      generalize xs.getD k 0 = X at c1 c2
      clear hc1 hc2
      go_wp2
      go_quiet (fail)
      go_wp2
      go_roundw
      case rel => exact ⟨k + 1, by omega, by go_num, ⟨hbel.os, hbel.tape, hbel.output, hbel.size, hbel.block⟩⟩
      case measure => simp [intOf]; omega
    · have hp : decide ((k : Int) < (n : Int)) = false := by simp; omega
      go_wp2
      go_ret
      exact ⟨rfl, hbel⟩

end Go.Proofs.Ytpnlibdfbopmhaa
