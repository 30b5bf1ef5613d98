/- What ring's letters, Push and Pop and the document's Copy answer: contracts. -/
import Derived.Test.YtfofnealkfgjfaaRgRead
namespace Go.Proofs.Ytfofnealkfgjfaa
open Go.RowKit
set_option maxRecDepth 100000
set_option linter.unusedVariables false

/-- bytes.Clone of whatever bytes. -/
theorem cloneR_any (a : Option Addr) (n c : Nat) (xs : List Int) (w : World) (hr : Row w a n c xs) (hbd : n ≤ 140737488351232) :
    Calls Try.prog 19 #[.slice a n c] w fun e w' => ∃ a' c', e = .returned (.slice a' n c') ∧ LeO w' w.heap.size ⟨a', n, c', xs⟩ ∧ Below w.heap.size w w' := by
  cases a with
  | some x =>
    refine (clone_some x n c xs w hr hbd).mono ?_
    rintro e w1 ⟨g, c', rfl, ho, hb⟩
    exact ⟨_, c', rfl, LeO.made ho, hb⟩
  | none =>
    obtain ⟨rfl, rfl⟩ := hr.2.2.2.2.1 rfl
    have hnil : xs = [] := List.eq_nil_of_length_eq_zero hr.len
    subst hnil
    have hq := fun W => Lib.run_eql_slice_nil (P := Try.prog) W 22 5 none 0 0 0 0 Try.underlying22
    go_enter Try.func19, Try.ntmps19
    go_wp2_with fail
    go_ret
    exact ⟨none, 0, by simp, LeO.nil _ _, Below.refl _ _⟩

set_option maxHeartbeats 2000000 in
theorem letters_any (a : Option Addr) (n c : Nat) (ps : List Le) (w : World) (hr : RowR w a n c ps) (hn : n ≤ 100000) (hp : ∀ p ∈ ps, p.n ≤ 70368744177664) :
    Calls Try.prog 18 #[.slice a n c] w fun e w' => ∃ (so : Option Addr) (co : Nat) (qs : List Le), e = .returned (.slice so n co) ∧ OwnR w' w.heap.size so n co qs ∧ txt qs = txt ps ∧ Below w.heap.size w w' := by
  have hl := hr.len
  have hcap := hr.cap_le
  go_enter Try.func18, Try.ntmps18
  go_wp2_with (at_make; refine wp_make_ring _ rfl _ _ 24 rfl Try.underlying24 n rfl rfl (by omega) ?_; intro w1 o1 b1)
  have h1 := b1.size
  go_loopw [3, 5, 11] (fun s3 s5 i wr => ∃ (j : Nat) (so : Option Addr) (co : Nat) (qs : List Le), j ≤ n ∧ s3 = .slice so j co ∧ (∃ z : Value, s5 = z) ∧ i = .int .i64 j ∧ OwnR wr w.heap.size so j co qs ∧ txt qs = (txt ps).take j ∧ Below w.heap.size w wr) (fun _ _ i _ => n - (intOf i).toNat)
  case atStart => exact ⟨0, _, n, [], by omega, rfl, ⟨_, rfl⟩, rfl, o1, by simp [txt], b1⟩
  case round =>
    obtain ⟨j, so, co, qs, hj, rfl, ⟨z, rfl⟩, rfl, ho, ht, hbel⟩ := hrel
    by_cases h : j < n
    · have h1 : (j : Int) < (n : Int) := by omega
      obtain ⟨g, off, rfl, hr'⟩ := (hr.below hbel).at (by omega)
      obtain ⟨p, hp1⟩ := hr.get j h
      obtain ⟨c1, r1⟩ := hr'.cell hp1
      have HP : Hid (ps[j]? = some p) := hp1
      have HT : Hid (txt qs = (txt ps).take j) := ht
      have hpn := hp p (List.mem_of_getElem? hp1)
      clear hr' hp1 ht
      go_wp2_with fail
      refine (cloneR_any p.a p.n p.c p.xs _ r1 (by omega)).mono ?_
      rintro e w2 ⟨a', c', rfl, hL, b2⟩
      have b2' := hbel.trans (b2.mono hbel.size)
      have ho2 := ho.below b2
      have hL2 := hL.mono hbel.size
      go_wp2_with (at_builtin; refine wp_append_letter _ rfl (.tmp 15) (.tmp 18) 24 rfl Try.underlying24 w.heap.size j co so qs rfl (ho2.below (below_alloc _ _)) _ 1 ⟨a', p.n, c', p.xs⟩ rfl (lit_one _ ⟨a', p.n, c', p.xs⟩) (hL2.below (below_alloc _ _)) (by omega) (by have := b2'.size; simp; omega) w (b2'.alloc b2'.size _) ?_; intro so' co' w3 o3 b3 _)
      go_roundw
      case rel =>
        refine ⟨j + 1, so', co', _, by omega, rfl, ⟨_, rfl⟩, by go_num, o3, ?_, b3⟩
        rw [txt_append, HT.out, txt_one]
        have := HP.out
        rw [List.take_add_one]
        congr 1
        simp [txt, this]
      case measure => simp [intOf]; omega
    · have h1 : ¬ (j : Int) < (n : Int) := by omega
      obtain rfl : j = n := by omega
      go_wp2_with fail
      go_ret
      exact ⟨so, co, rfl, qs, ho, by rw [ht, List.take_of_length_le (by rw [txt_len]; omega)], hbel⟩

theorem push_long (a : Option Addr) (n c : Nat) (b : Option Addr) (m d : Nat) (w : World) (h : 16 < m) :
    Calls Try.prog 8 #[.slice a n c, .slice b m d] w fun e w' => e = .returned (.tuple #[.slice none 0 0, .int .i64 12]) ∧ w' = w := by
  go_enter Try.func8, Try.ntmps8
  go_wp2_with fail
  refine (isLong_any b m d _).mono ?_
  rintro e w1 ⟨rfl, rfl⟩
  rw [decide_eq_true h]
  go_wp2_with fail
  go_ret2
  exact ⟨rfl, rfl⟩
theorem push_full (a : Option Addr) (n c : Nat) (b : Option Addr) (m d : Nat) (w : World) (h : m ≤ 16) (h4 : 4 ≤ n) :
    Calls Try.prog 8 #[.slice a n c, .slice b m d] w fun e w' => e = .returned (.tuple #[.slice none 0 0, .int .i64 9]) ∧ w' = w := by
  have h1 : (4 : Int) ≤ (n : Int) := by omega
  go_enter Try.func8, Try.ntmps8
  go_wp2_with fail
  refine (isLong_any b m d _).mono ?_
  rintro e w1 ⟨rfl, rfl⟩
  rw [decide_eq_false (show ¬ 16 < m by omega)]
  go_wp2_with fail
  go_ret2
  exact ⟨rfl, rfl⟩
set_option maxHeartbeats 2000000 in
theorem push_ok (a : Option Addr) (n c : Nat) (b : Option Addr) (m d : Nat) (ps : List Le) (ys : List Int) (w : World) (hr : RowR w a n c ps) (hs : Row w b m d ys) (h : m ≤ 16) (h4 : n < 4) (hp : ∀ p ∈ ps, p.n ≤ 70368744177664) :
    Calls Try.prog 8 #[.slice a n c, .slice b m d] w fun e w' => ∃ (so : Option Addr) (co : Nat) (qs : List Le), e = .returned (.tuple #[.slice so (n + 1) co, .int .i64 0]) ∧ OwnR w' w.heap.size so (n + 1) co qs ∧ txt qs = txt ps ++ [ys] ∧ Below w.heap.size w w' := by
  have h1 : ¬ (4 : Int) ≤ (n : Int) := by omega
  go_enter Try.func8, Try.ntmps8
  go_wp2_with fail
  refine (isLong_any b m d _).mono ?_
  rintro e w ⟨rfl, rfl⟩
  rw [decide_eq_false (show ¬ 16 < m by omega)]
  go_wp2_with fail
  refine (letters_any a n c ps _ hr (by omega) hp).mono ?_
  rintro e w2 ⟨so, co, qs, rfl, ho, ht, b2⟩
  go_wp2_with fail
  refine (cloneR_any b m d ys _ (hs.below b2) (by omega)).mono ?_
  rintro e w3 ⟨a', c', rfl, hL, b3⟩
  have b3' := b2.trans (b3.mono b2.size)
  have hL2 := hL.mono b2.size
  have ho2 := ho.below b3
  go_wp2_with (at_builtin; refine wp_append_letter _ rfl (.tmp 12) (.tmp 15) 24 rfl Try.underlying24 w.heap.size n co so qs rfl (ho2.below (below_alloc _ _)) _ 1 ⟨a', m, c', ys⟩ rfl (lit_one _ ⟨a', m, c', ys⟩) (hL2.below (below_alloc _ _)) (by omega) (by have := b3'.size; simp; omega) w (b3'.alloc b3'.size _) ?_; intro so' co' w4 o4 b4 _)
  go_ret2
  exact ⟨so', co', _, rfl, o4, by rw [txt_append, ht, txt_one], b4⟩
theorem pop_none (a : Option Addr) (c : Nat) (w : World) :
    Calls Try.prog 9 #[.slice a 0 c] w fun e w' => e = .returned (.tuple #[.slice none 0 0, .slice none 0 0, .bool false]) ∧ w' = w := by
  go_enter Try.func9, Try.ntmps9
  go_wp2_with fail
  go_ret3
  exact ⟨rfl, rfl⟩
end Go.Proofs.Ytfofnealkfgjfaa
