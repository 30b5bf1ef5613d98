/- SetsMost walked: it answers true, and turns nothing that was there. -/
import Derived.Test.YteageheimghdiaaSvBegun
namespace Go.Proofs.Yteageheimghdiaa
open Go.RowKit

theorem list_ext2 {xs ys : List Int} (hl : xs.length = ys.length) (h : ∀ j, j < xs.length → xs.getD j 0 = ys.getD j 0) : xs = ys := by
  apply List.ext_getElem hl
  intro i h1 h2
  have := h i h1
  rwa [getD_eq h1, getD_eq h2] at this
/-- f, f + 1, .. : so many. -/
def upl (f i : Nat) : List Int := (List.range i).map fun j => ((f + j : Nat) : Int)
theorem upl_len (f i : Nat) : (upl f i).length = i := by simp [upl]
theorem upl_succ (f i : Nat) : upl f (i + 1) = upl f i ++ [((f + i : Nat) : Int)] := by simp [upl, List.range_succ]
theorem upl_get (f i j : Nat) (h : j < i) : (upl f i).getD j 0 = ((f + j : Nat) : Int) := by
  rw [getD_eq (by rw [upl_len]; exact h)]; simp [upl]
theorem upl_srt (f i : Nat) : Srt (upl f i) := Srt.of_steps fun j hj => by
  rw [upl_len] at hj
  rw [upl_get _ _ _ hj, upl_get _ _ _ (by omega)]; omega
theorem upl_wrd (f i : Nat) (h : f + i ≤ 65536) : Wrd (upl f i) := by
  intro x hx
  obtain ⟨j, hj, rfl⟩ := mem_getD.1 hx
  rw [upl_len] at hj
  rw [upl_get _ _ _ hj]; omega
theorem upl_mem {f i : Nat} {x : Int} (h : x ∈ upl f i) : (f : Int) ≤ x ∧ x < f + i := by
  obtain ⟨j, hj, rfl⟩ := mem_getD.1 h
  rw [upl_len] at hj
  rw [upl_get _ _ _ hj]; omega
theorem most_may (a b c : Nat) (ha : a < 20) (hb : b < 20) (_ : c < 20) : mayB (upl 0 a) (upl 100 b) (upl 200 c) = decide (a + b + c ≤ 16) := by
  rw [Bool.eq_iff_iff, mayB_iff, decide_eq_true_eq]
  unfold MayP
  rw [upl_len, upl_len, upl_len]
  exact ⟨fun h => h.2.2, fun h => ⟨⟨upl_srt _ _, upl_srt _ _, upl_srt _ _⟩, ⟨fun z h1 h2 => by have := upl_mem h1; have := upl_mem h2; omega, fun z h1 h2 => by have := upl_mem h1; have := upl_mem h2; omega, fun z h1 h2 => by have := upl_mem h1; have := upl_mem h2; omega⟩, h⟩⟩

set_option maxHeartbeats 2000000 in
theorem row_any (f k : Nat) (X : Int) (hX : X = (f : Int)) (hk : f + k ≤ 1000) (w : World) :
    Calls Try.prog 20 #[.int .i64 X, .int .i64 k] w fun e w' => ∃ so co, e = .returned (.slice so k co) ∧ RowW w' so k co (upl f k) ∧ Below w.heap.size w w' := by
  have HX0 : Hid (X = (f : Int)) := hX
  clear hX
  go_enter Try.func20, Try.ntmps20
  go_wp2_with fail
  go_loopw [5, 6] (fun o iv wr => ∃ (i : Nat) (so : Option Addr) (co : Nat), i ≤ k ∧ iv = .int .i64 i ∧ o = .slice so i co ∧ OwnW 25 wr w.heap.size so i co (upl f i) ∧ Below w.heap.size w wr) (fun _ iv _ => k - (intOf iv).toNat)
  case atStart => exact ⟨0, none, 0, by omega, rfl, rfl, OwnW.of_nil _ _ _, Below.refl _ _⟩
  case round =>
    obtain ⟨i, so, co, hi, rfl, rfl, ol, b1⟩ := hrel
    have hsz := b1.size
    by_cases hlt : i < k
    · have p1 : (i : Int) < (k : Int) := by omega
      obtain ⟨x, hx⟩ : ∃ x : Nat, x = f + i := ⟨_, rfl⟩
      have e2 : X + (i : Int) = (x : Int) := by rw [HX0.out]; omega
      have e3 : IntKind.u16.wrap (x : Int) = (x : Int) := by rw [IntKind.wrap_u16]; omega
      have e4 : IntKind.i64.wrap (x : Int) = (x : Int) := by rw [IntKind.wrap_i64]; omega
      have hxb : x < 65536 := by omega
      have HX : Hid (x = f + i) := hx
      clear hx
      go_wp2_with (at_builtin; refine wp_append_words _ rfl (.tmp 12) (.tmp 17) 22 rfl 25 Try.underlying22 info27 w.heap.size i co so _ rfl (ol.below (below_alloc _ _)) _ 1 1 [(x : Int)] rfl (roww_lit wr 25 [_] 1 rfl (by omega) (Wrd.one (by omega))) (by omega) (by simp; omega) w (b1.alloc hsz _) ?_; intro so' co' w2 o2 b2)
      go_roundw
      case rel => exact ⟨i + 1, so', co', by omega, by go_num, rfl, by rw [upl_succ, ← HX.out]; exact o2, b2⟩
      case measure => simp [intOf]; omega
    · obtain rfl : i = k := by omega
      go_wp2_with fail
      go_ret
      exact ⟨so, co, rfl, ol.row, b1⟩

set_option maxHeartbeats 4000000 in
theorem setsMost_walk (s i o : Int) (hs : 0 ≤ s ∧ s < 256) (hi : 0 ≤ i ∧ i < 256) (ho : 0 ≤ o ∧ o < 256) (w : World) :
    Calls Try.prog 7 #[.int .u8 s, .int .u8 i, .int .u8 o] w fun e w' => e = .returned (.bool true) ∧ Below w.heap.size w w' := by
  obtain ⟨a, ha⟩ : ∃ k : Nat, s % 20 = (k : Int) := ⟨(s % 20).toNat, by omega⟩
  obtain ⟨b, hb⟩ : ∃ k : Nat, i % 20 = (k : Int) := ⟨(i % 20).toNat, by omega⟩
  obtain ⟨c, hc⟩ : ∃ k : Nat, o % 20 = (k : Int) := ⟨(o % 20).toNat, by omega⟩
  have a20 : a < 20 := by omega
  have b20 : b < 20 := by omega
  have c20 : c < 20 := by omega
  have e1 : s.tmod 20 = (a : Int) := by rw [← ha]; exact Int.tmod_eq_emod_of_nonneg hs.1
  have e2 : i.tmod 20 = (b : Int) := by rw [← hb]; exact Int.tmod_eq_emod_of_nonneg hi.1
  have e3 : o.tmod 20 = (c : Int) := by rw [← hc]; exact Int.tmod_eq_emod_of_nonneg ho.1
  clear ha hb hc hs hi ho
  go_enter Try.func7, Try.ntmps7
  go_wp2_with fail
  refine (begun8_true _).mono ?_
  rintro e w1 ⟨rfl, b1⟩
  go_wp2_with fail
  refine (row_any 0 a 0 rfl (by omega) _).mono ?_
  rintro e w2 ⟨so1, co1, rfl, r1, b2⟩
  go_wp2_with fail
  refine (row_any 100 b 100 rfl (by omega) _).mono ?_
  rintro e w3 ⟨so2, co2, rfl, r2, b3⟩
  go_wp2_with fail
  refine (row_any 200 c 200 rfl (by omega) _).mono ?_
  rintro e w4 ⟨so3, co3, rfl, r3, b4⟩
  go_wp2_with fail
  have hIn : (⟨so1, a, co1, upl 0 a, so2, b, co2, upl 100 b, so3, c, co3, upl 200 c⟩ : Sv).In w4 := ⟨(r1.below b3).below b4, r2.below b4, r3⟩
  have hb4 := ext_trans (ext_trans (ext_trans b1 b2) b3) b4
  clear b1 b2 b3 b4 r1 r2 r3
  refine (maySets_any ⟨so1, a, co1, upl 0 a, so2, b, co2, upl 100 b, so3, c, co3, upl 200 c⟩ _ (hIn.below (below_alloc _ _))).mono ?_
  rintro e w5 ⟨rfl, b5⟩
  have hb5 := ext_trans (ext_trans hb4 (below_alloc _ _)) b5
  clear hb4 b5 hIn
  rw [most_may a b c a20 b20 c20]
  by_cases h : a + b + c ≤ 16
  · rw [decide_eq_true h]
    have h1 : (a : Int) + (b : Int) + (c : Int) ≤ 16 := by omega
    have h2 : (a : Int) ≤ 16 := by omega
    have h3 : (b : Int) ≤ 16 := by omega
    have h4 : (c : Int) ≤ 16 := by omega
    go_wp2_with fail
    go_ret
    exact ⟨rfl, hb5⟩
  · rw [decide_eq_false h]
    have h1 : decide ((a : Int) + (b : Int) + (c : Int) ≤ 16) = false := by simp; omega
    go_wp2_with fail
    go_ret
    exact ⟨rfl, hb5⟩
end Go.Proofs.Yteageheimghdiaa
