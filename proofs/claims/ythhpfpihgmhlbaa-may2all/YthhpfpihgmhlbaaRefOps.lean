/- What the document's own Or, And, Less, In of lists of categories are: contracts. -/
import Derived.Test.YthhpfpihgmhlbaaRefSet
namespace Go.Proofs.Ythhpfpihgmhlbaa
open Go.RowKit

set_option maxHeartbeats 1000000 in
theorem part_any (a b : Option Addr) (n cap m cap2 : Nat) (xs ys : List Int) (q : Bool) (w : World) (hr : RowW w a n cap xs) (hs : RowW w b m cap2 ys) (hbd : n ≤ 1000000) :
    Calls Try.prog 33 #[.slice a n cap, .slice b m cap2, .bool q] w fun e w' => ∃ so k co, e = .returned (.slice so k co) ∧ OwnW 33 w' w.heap.size so k co (xs.filter fun x => decide (x ∈ ys) == q) ∧ Below w.heap.size w w' := by
  have hl : Hid (xs.length = n) := hr.len
  have hcap := hr.cap_le
  go_enter Try.func33, Try.ntmps33
  go_wp2_with fail
  go_loopw [7, 8] (fun o iv wr => ∃ (i : Nat) (so : Option Addr) (no co : Nat), i ≤ n ∧ o = .slice so no co ∧ iv = .int .i64 i ∧ OwnW 33 wr w.heap.size so no co ((xs.take i).filter fun x => decide (x ∈ ys) == q) ∧ Below w.heap.size w wr ∧ no ≤ i) (fun _ i _ => n - (intOf i).toNat)
  case atStart => exact ⟨0, none, 0, 0, by omega, rfl, rfl, by simpa using OwnW.of_nil _ _ _, Below.refl _ _, by omega⟩
  case round =>
    obtain ⟨i, so, no, co, hi, rfl, rfl, hown, hbel, hno⟩ := hrel
    have hsz := hbel.size
    by_cases hlt : i < n
    · have hp : (i : Int) < (n : Int) := by omega
      obtain ⟨b1, off, rfl, hc⟩ := (hr.below hbel).at (by omega)
      have c1 := hc i hlt
      generalize hX : xs.getD i 0 = X at c1
      have HX : Hid (xs.getD i 0 = X) := hX
      have HXb : 0 ≤ X ∧ X < 65536 := by rw [← hX]; exact hr.wrd.get i
      clear hX hc
      have hstep : Hid ((xs.take (i + 1)).filter (fun x => decide (x ∈ ys) == q) = (xs.take i).filter (fun x => decide (x ∈ ys) == q) ++ (if (decide (X ∈ ys) == q) = true then [X] else [])) := by
        have hil : i < xs.length := by rw [hl.out]; exact hlt
        show _ = _
        rw [List.take_succ_eq_append_getElem hil, List.filter_append, ← getD_eq hil, HX.out]
        congr 1
        simp only [List.filter_cons, List.filter_nil]
      have hfh := fun W (hW : Below w.heap.size w W) => refHas_any b m cap2 ys X W (hs.below hW)
      have HF : Hid (∀ W, Below w.heap.size w W → Calls Try.prog 43 #[.slice b m cap2, .int .u16 X] W fun e w' => e = .returned (.bool (decide (X ∈ ys))) ∧ w' = W) := hfh
      clear hfh
      generalize hh : (decide (X ∈ ys)) = h at HF hstep
      by_cases hq : h = q
      · subst hq
        simp only [BEq.rfl, if_true] at hstep
        go_wp2_with fail
        refine (HF.out _ hbel).mono ?_
        rintro e w1 ⟨rfl, rfl⟩
        go_wp2_with (at_builtin; refine wp_append_words _ rfl (.tmp 23) (.tmp 28) 22 rfl 33 Try.underlying22 info27 w.heap.size no co so _ rfl (hown.below (below_alloc _ _)) _ 1 1 [X] rfl (roww_lit_at _ _ rfl 33 [X] 1 rfl (by omega) (Wrd.one HXb)) (by omega) (by simp; omega) w (hbel.alloc hsz _) ?_; intro so' cap' w2 hown2 hbel2)
        go_roundw
        case rel => exact ⟨i + 1, so', no + 1, cap', by omega, rfl, by go_num, by rw [hstep.out]; exact hown2, hbel2, by omega⟩
        case measure => simp [intOf]; omega
      · have hq' : (h == q) = false := by simpa using hq
        rw [hq'] at hstep
        simp only [Bool.false_eq_true, if_false, List.append_nil] at hstep
        go_wp2_with fail
        refine (HF.out _ hbel).mono ?_
        rintro e w1 ⟨rfl, rfl⟩
        go_wp2_with fail
        go_roundw
        case rel => exact ⟨i + 1, so, no, co, by omega, rfl, by go_num, by rw [hstep.out]; exact hown, hbel, by omega⟩
        case measure => simp [intOf]; omega
    · obtain rfl : i = n := by omega
      go_wp2_with fail
      go_ret
      refine ⟨so, no, co, rfl, ?_, hbel⟩
      rw [List.take_of_length_le (by rw [hl.out]; exact Nat.le_refl _)] at hown
      exact hown

set_option maxHeartbeats 400000 in
theorem refLess_any (a b : Option Addr) (n cap m cap2 : Nat) (xs ys : List Int) (w : World) (hr : RowW w a n cap xs) (hs : RowW w b m cap2 ys) (hbd : n ≤ 1000000) :
    Calls Try.prog 19 #[.slice a n cap, .slice b m cap2] w fun e w' => ∃ so k co, e = .returned (.slice so k co) ∧ OwnW 33 w' w.heap.size so k co (xs.filter fun x => decide (x ∈ ys) == false) ∧ Below w.heap.size w w' := by
  go_enter Try.func19, Try.ntmps19
  go_wp2_with fail
  refine (part_any a b n cap m cap2 xs ys false w hr hs hbd).mono ?_
  rintro e w2 ⟨so, k, co, rfl, hown, hbel⟩
  go_wp2_with fail
  go_ret
  exact ⟨so, k, co, rfl, hown, hbel⟩
set_option maxHeartbeats 400000 in
theorem refIn_any (a b : Option Addr) (n cap m cap2 : Nat) (xs ys : List Int) (w : World) (hr : RowW w a n cap xs) (hs : RowW w b m cap2 ys) (hbd : n ≤ 1000000) :
    Calls Try.prog 18 #[.slice a n cap, .slice b m cap2] w fun e w' => e = .returned (.bool (decide ((xs.filter fun x => decide (x ∈ ys) == false) = []))) ∧ Below w.heap.size w w' := by
  go_enter Try.func18, Try.ntmps18
  go_wp2_with fail
  refine (part_any a b n cap m cap2 xs ys false w hr hs hbd).mono ?_
  rintro e w2 ⟨so, k, co, rfl, hown, hbel⟩
  have hk : Hid (_ = _) := hown.1
  by_cases h : k = 0
  · subst h
    go_wp2_with fail
    go_ret
    refine ⟨?_, hbel⟩
    rw [decide_eq_true (List.eq_nil_of_length_eq_zero hk.out)]; rfl
  · have h1 : ((k : Int) == 0) = false := by simp; omega
    go_wp2_with fail
    go_ret
    refine ⟨?_, hbel⟩
    rw [decide_eq_false (fun e => h (by rw [← hk.out, e]; rfl))]; rfl

set_option maxHeartbeats 400000 in
theorem refOr_any (a b : Option Addr) (n cap m cap2 : Nat) (xs ys : List Int) (w : World) (hr : RowW w a n cap xs) (hs : RowW w b m cap2 ys) (hbd : n + m ≤ 1000000) :
    Calls Try.prog 22 #[.slice a n cap, .slice b m cap2] w fun e w' => ∃ so k co zs, e = .returned (.slice so k co) ∧ OwnW 33 w' w.heap.size so k co zs ∧ Below w.heap.size w w' ∧ Srt zs ∧ (∀ x, x ∈ zs ↔ x ∈ xs ++ ys) := by
  go_enter Try.func22, Try.ntmps22
  go_wp2_with (first | (at_builtin; refine wp_append_words _ rfl (.tmp 5) (.tmp 6) 22 rfl 33 Try.underlying22 info27 w.heap.size 0 0 _ [] rfl (ownw_lit_at w _ rfl 33 [] 0 rfl (by omega) Wrd.nil (Nat.le_refl _)) a n cap xs rfl (hr.below (below_alloc _ _)) (by omega) (by simp) w (below_alloc _ _) ?_; intro s1 c1 w1 o1 b1; rw [Nat.zero_add, List.nil_append] at o1) | (at_builtin; refine wp_append_words _ rfl (.tmp 7) (.tmp 8) 22 rfl 33 Try.underlying22 info27 w.heap.size n c1 s1 xs rfl o1 b m cap2 ys rfl (hs.below b1) (by omega) b1.size w b1 ?_; intro s2 c2 w2 o2 b2) | fail)
  refine (refMake_any _ _ _ _ _ o2.row (by omega)).mono ?_
  rintro e w3 ⟨so, k, co, zs, rfl, hown, hbel, hs, hm, _⟩
  go_wp2_with fail
  go_ret
  exact ⟨so, k, co, zs, rfl, hown.mono b2.size, ext_trans b2 hbel, hs, hm⟩
end Go.Proofs.Ythhpfpihgmhlbaa
