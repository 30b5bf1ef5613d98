/- What bytes.Clone, num.TakeBytes and num.PutBytes do: contracts. -/
import Derived.Test.YtldkelpngeopmaaPut
namespace Go.Proofs.Ytldkelpngeopmaa
open Go.RowKit
set_option maxRecDepth 100000

set_option maxHeartbeats 400000 in
theorem clone_some (x : Addr) (len cap : Nat) (xs : List Int) (w : World) (hr : Row w (some x) len cap xs) (hbd : len ≤ 140737488351232) :
    Calls Try.prog 56 #[.slice (some x) len cap] w fun e w' => ∃ g cap', e = .returned (.slice (some ⟨g, 0, none⟩) len cap') ∧ Own 5 w' w.heap.size g len cap' xs ∧ Below w.heap.size w w' := by
  have hq := fun W => Lib.run_eql_slice_nil (P := Try.prog) W 29 5 (some x) len cap 0 0 Try.underlying29
  go_enter Try.func56, Try.ntmps56
  go_wp2_with (at_builtin; refine wp_append_bytes _ rfl (.tmp 5) (.tmp 6) 29 rfl 5 Try.underlying29 info5 w.heap.size w.heap.size 0 0 [] rfl (own_lit w 5 [] 0 rfl (by omega) Byt.nil) (some x) len cap xs rfl (hr.below (below_alloc _ _)) (by omega) (by simp) w (below_alloc _ _) ?_; intro g cap' w1 hown hbel)
  go_ret
  exact ⟨g, cap', by simp, by simpa using hown, hbel⟩

set_option maxHeartbeats 400000 in
theorem putBytes_any (a : Option Addr) (len cap : Nat) (xs : List Int) (a2 : Option Addr) (len2 cap2 : Nat) (ys : List Int) (w : World) (hr : Row w a len cap xs) (hr2 : Row w a2 len2 cap2 ys) (hbd : len ≤ 70368744177664) (hbd2 : len2 ≤ 65535) :
    Calls Try.prog 30 #[.slice a len cap, .slice a2 len2 cap2] w fun e w' => ∃ g cap', e = .returned (.slice (some ⟨g, 0, none⟩) (len + 2 + len2) cap') ∧ Own 5 w' w.heap.size g (len + 2 + len2) cap' (xs ++ putB len2 2 ++ ys) ∧ Below w.heap.size w w' := by
  have h1 : ¬ (65535 : Int) < (len2 : Int) := by omega
  have hw : IntKind.u64.wrap (len2 : Int) = (len2 : Int) := by rw [IntKind.wrap_u64]; omega
  go_enter Try.func30, Try.ntmps30
  go_wp2_with fail
  refine (put_any a len cap _ 2 xs _ hr (by omega)).mono ?_
  rintro e w1 ⟨g, cap', rfl, hown, hbel⟩
  have hsz := hbel.size
  go_wp2_with (at_builtin; refine wp_append_bytes _ rfl (.tmp 14) (.tmp 15) 29 rfl 5 Try.underlying29 info5 w.heap.size g (len + 2) cap' (xs ++ putB len2 2) rfl hown a2 len2 cap2 ys rfl (hr2.below hbel) (by omega) hsz w hbel ?_; intro g2 cap2' w2 hown2 hbel2)
  go_ret
  exact ⟨g2, cap2', rfl, hown2, hbel2⟩

set_option maxHeartbeats 400000 in
theorem takeBytes_in (b off len cap : Nat) (xs : List Int) (w : World) (hr : Row w (some ⟨b, off, none⟩) len cap xs) (hbd : len ≤ 140737488351232) (h2 : 2 ≤ len) (m : Nat) (hm : num (xs.take 2) = m) (hml : m + 2 ≤ len) :
    Calls Try.prog 62 #[.slice (some ⟨b, off, none⟩) len cap] w fun e w' => ∃ g cap', e = .returned (.tuple #[.slice (some ⟨g, 0, none⟩) m cap', .int .i64 (2 + m), .int .i64 0]) ∧ Own 5 w' w.heap.size g m cap' ((xs.drop 2).take m) ∧ Below w.heap.size w w' := by
  go_enter Try.func62, Try.ntmps62
  go_wp2_with fail
  refine (take_any (some ⟨b, off, none⟩) len cap 2 xs _ hr).mono ?_
  rintro e w1 ⟨rfl, rfl⟩
  have e1 : takeV xs 2 = m := by unfold takeV; rw [if_neg (by rw [hr.len]; omega)]; exact hm
  have e2 : takeE xs 2 = 0 := by unfold takeE; rw [if_neg (by omega), if_neg (by rw [hr.len]; omega)]
  have hcap := hr.cap_le
  rw [e1, e2]
  go_wp2_with fail
  · have hm0 : m = 0 := by omega
    subst hm0
    refine (clone_some _ 0 0 [] _ (Row.none_of _ _ _ (by omega)) (by omega)).mono ?_
    rintro e w2 ⟨g, cap', rfl, hown, hbel⟩
    go_wp2_with fail
    go_ret3
    exact ⟨g, cap', rfl, by simpa using hown, hbel⟩
  · refine (clone_some _ m (cap - 2) _ _ (hr.sub 2 m (by omega)) (by omega)).mono ?_
    rintro e w2 ⟨g, cap', rfl, hown, hbel⟩
    go_wp2_with fail
    go_ret3
    exact ⟨g, cap', rfl, hown, hbel⟩

set_option maxHeartbeats 400000 in
theorem takeBytes_short (a : Option Addr) (len cap : Nat) (xs : List Int) (w : World) (hr : Row w a len cap xs) (h : len < 2 ∨ len < num (xs.take 2) + 2) :
    Calls Try.prog 62 #[.slice a len cap] w fun e w' => e = .returned (.tuple #[.slice none 0 0, .int .i64 0, .int .i64 3]) ∧ w' = w := by
  have hbd : num (xs.take 2) < 65536 ∧ 0 ≤ num (xs.take 2) := by
    have h1 := num_bd (xs.take 2) (hr.byt.take 2)
    have h2 : (256 : Int) ^ (xs.take 2).length ≤ 65536 := by
      have hl : (xs.take 2).length ≤ 2 := by simp; omega
      match (xs.take 2).length, hl with
      | 0, _ => decide
      | 1, _ => decide
      | 2, _ => decide
    omega
  go_enter Try.func62, Try.ntmps62
  go_wp2_with fail
  refine (take_any a len cap 2 xs _ hr).mono ?_
  rintro e w1 ⟨rfl, rfl⟩
  by_cases h2 : len < 2
  · have e1 : takeV xs 2 = 0 := by unfold takeV; rw [if_pos (by rw [hr.len]; omega)]
    have e2 : takeE xs 2 = 3 := by unfold takeE; rw [if_neg (by omega), if_pos (by rw [hr.len]; omega)]
    rw [e1, e2]
    go_wp2_with fail
    go_ret3
    exact ⟨rfl, rfl⟩
  · have e1 : takeV xs 2 = num (xs.take 2) := by unfold takeV; rw [if_neg (by rw [hr.len]; omega)]; rfl
    have e2 : takeE xs 2 = 0 := by unfold takeE; rw [if_neg (by omega), if_neg (by rw [hr.len]; omega)]
    rw [e1, e2]
    have hlt : (len : Int) < 2 + num (xs.take 2) := by omega
    generalize num (xs.take 2) = q at *
    clear e1 e2
    go_wp2_with fail
    go_ret3
    exact ⟨rfl, rfl⟩
end Go.Proofs.Ytldkelpngeopmaa
