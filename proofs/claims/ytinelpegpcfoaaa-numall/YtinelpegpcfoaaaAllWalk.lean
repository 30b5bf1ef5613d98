/- NumAll walked: it answers true, and turns nothing that was there. -/
import Derived.Test.YtinelpegpcfoaaaBegun
import Derived.Test.YtinelpegpcfoaaaRef
import Derived.Test.YtinelpegpcfoaaaTwin
import Derived.Test.YtinelpegpcfoaaaRegion
namespace Go.Proofs.Ytinelpegpcfoaaa
open Go.RowKit

theorem refTake_bel (a : Option Addr) (len cap : Nat) (n : Int) (xs : List Int) (w : World) (hr : Row w a len cap xs) :
    Calls Try.prog 14 #[.slice a len cap, .int .i64 n] w fun e w' => e = .returned (.tuple #[.int .u64 (takeV xs n), .int .i64 (takeE xs n)]) ∧ Below w.heap.size w w' :=
  (refTake_any a len cap n xs w hr).mono fun _ _ h => ⟨h.1, h.2 ▸ Below.refl _ _⟩

set_option maxHeartbeats 400000 in
theorem numAll_long (a : Option Addr) (len cap : Nat) (v n : Int) (w : World) (h : 40 < len) :
    Calls Try.prog 3 #[.slice a len cap, .int .u64 v, .int .i64 n] w fun e w' => e = .returned (.bool true) ∧ Below w.heap.size w w' := by
  have h1 : (40 : Int) < len := by omega
  go_enter Try.func3, Try.ntmps3
  go_wp2_with fail
  refine (begun_true _).mono ?_
  rintro e w1 ⟨rfl, hb1⟩
  go_wp2_with fail
  go_ret
  exact ⟨rfl, hb1⟩

set_option maxHeartbeats 1000000 in
theorem numAll_walk (a : Option Addr) (len cap : Nat) (xs : List Int) (v n : Int) (w : World) (hr : Row w a len cap xs) :
    Calls Try.prog 3 #[.slice a len cap, .int .u64 v, .int .i64 n] w fun e w' => e = .returned (.bool true) ∧ Below w.heap.size w w' := by
  by_cases hlong : 40 < len
  · exact numAll_long a len cap v n w hlong
  have h1 : ¬ (40 : Int) < len := by omega
  go_enter Try.func3, Try.ntmps3
  go_wp2_with fail
  refine (begun_true _).mono ?_
  rintro e w1 ⟨rfl, hb1⟩
  replace hr := hr.below hb1
  go_wp2_with fail
  refine (twin_any a len cap xs _ hr (by omega)).mono ?_
  rintro e w2 ⟨g2, rfl, hown2, hb2⟩
  replace hr := hr.below hb2
  have ht := hown2.row
  have hpre := ht.pre len (by omega)
  rw [List.take_append_of_le_length (by rw [hr.len]; exact Nat.le_refl _), List.take_of_length_le (by rw [hr.len]; exact Nat.le_refl _)] at hpre
  replace hb1 := ext_trans hb1 hb2
  clear hb2 hown2
  go_wp2_with fail
  refine (put_any _ _ _ v n xs _ hpre (by omega)).mono ?_
  rintro e w3 ⟨g3, c3, rfl, hown3, hb3⟩
  replace hr := hr.below hb3
  replace ht := ht.below hb3
  have hx := hown3.row
  replace hb1 := ext_trans hb1 hb3
  clear hb3 hown3 hpre
  go_wp2_with fail
  refine (kept_any g2 len xs a cap _ ht hr).mono ?_
  rintro e w4 ⟨rfl, hb4⟩
  replace hr := hr.below hb4
  replace hx := hx.below hb4
  replace hb1 := ext_trans hb1 hb4
  clear hb4 ht
  go_wp2_with fail
  refine (take_bel a len cap n xs _ hr).mono ?_
  rintro e w5 ⟨rfl, hb5⟩
  replace hr := hr.below hb5
  replace hx := hx.below hb5
  replace hb1 := ext_trans hb1 hb5
  clear hb5
  go_wp2_with fail
  refine (refTake_bel a len cap n xs _ hr).mono ?_
  rintro e w6 ⟨rfl, hb6⟩
  replace hr := hr.below hb6
  replace hx := hx.below hb6
  replace hb1 := ext_trans hb1 hb6
  clear hb6
  go_wp2_with fail
  have hs := fun (W : World) (ao : Option Addr) (n c : Nat) (zs : List Int) (hrow : Row W ao n c zs) => run_str (P := Try.prog) W 22 9 5 Try.underlying22 Try.underlying5 Try.underlying9 ao n c zs hrow
  have HS : Hid (∀ (W : World) (ao : Option Addr) (n c : Nat) (zs : List Int), Row W ao n c zs → (convert 22 9 (.slice ao n c)).run Try.prog W = .ok (.string (strOfNums zs)) W) := hs
  clear hs
  refine wp_region_noPanic ?_
  refine wp_region_held_drew (S := fun W => Row W (some ⟨g3, 0, none⟩) (len + wid n) c3 (xs ++ putB v (wid n))) (by kernel_rfl) hx.drew fun hS1 => ?_
  refine take_to (i := 0) (v := ?_) 40 rfl rfl (by kernel_rfl) (by kernel_rfl) (by kernel_rfl) (fun _ _ _ h => h) (Or.inl ⟨by rfl, ?_⟩) hS1 ?_
  rotate_left
  · intro W hW
    go_simp
    try with_reducible rfl
  simp only [List.setIfInBounds_toArray, List.set_cons_zero, List.set_cons_succ]
  refine take_to (i := 1) (v := ?_) 41 rfl rfl (by kernel_rfl) (by kernel_rfl) (by kernel_rfl) (fun _ _ _ h => h) (Or.inl ⟨by rfl, ?_⟩) hS1 ?_
  rotate_left
  · intro W hW
    go_simp
    try with_reducible rfl
  simp only [List.setIfInBounds_toArray, List.set_cons_zero, List.set_cons_succ]
  refine take_to (i := 2) (v := ?_) 42 rfl rfl (by kernel_rfl) (by kernel_rfl) (by kernel_rfl) (fun _ _ _ h => h) (Or.inl ⟨by rfl, ?_⟩) hS1 ?_
  rotate_left
  · intro W hW
    go_simp
    try with_reducible rfl
  simp only [List.setIfInBounds_toArray, List.set_cons_zero, List.set_cons_succ]
  refine take_to (i := 3) (v := ?_) 43 rfl rfl (by kernel_rfl) (by kernel_rfl) (by kernel_rfl) (fun _ _ _ h => h) (Or.inl ⟨by rfl, ?_⟩) hS1 ?_
  rotate_left
  · intro W hW
    have hc := HS.out W _ _ _ _ hW
    go_simp
    try with_reducible rfl
  simp only [List.setIfInBounds_toArray, List.set_cons_zero, List.set_cons_succ]
  refine take_to (i := 4) (v := ?_) 44 rfl rfl (by kernel_rfl) (by kernel_rfl) (by kernel_rfl) (fun _ _ _ h => h) (Or.inl ⟨by rfl, ?_⟩) hS1 ?_
  rotate_left
  · intro W hW
    go_simp
    try with_reducible rfl
  simp only [List.setIfInBounds_toArray, List.set_cons_zero, List.set_cons_succ]
  refine take_to (i := 5) (v := ?_) 45 rfl rfl (by kernel_rfl) (by kernel_rfl) (by kernel_rfl) (fun _ _ _ h => h) (Or.inl ⟨by rfl, ?_⟩) hS1 ?_
  rotate_left
  · intro W hW
    go_simp
    try with_reducible rfl
  simp only [List.setIfInBounds_toArray, List.set_cons_zero, List.set_cons_succ]
  refine take_to (i := 6) (v := ?_) 46 rfl rfl (by kernel_rfl) (by kernel_rfl) (by kernel_rfl) (fun _ _ _ h => h) (Or.inl ⟨by rfl, ?_⟩) hS1 ?_
  rotate_left
  · intro W hW
    go_simp
    try with_reducible rfl
  simp only [List.setIfInBounds_toArray, List.set_cons_zero, List.set_cons_succ]
  refine wpAnyH_ready (rs := [7]) (by kernel_rfl) (by simp) ?_
  refine AllReadyH.cons rfl (fun K hK => ?_) AllReadyH.nil
  go_simp
  refine (refPut_any a len cap v n xs _ hr.drew (by omega)).mono ?_
  rintro e w7 ⟨g7, c7, rfl, hown7, hb7⟩
  refine hK.out _ _ (hS1.below hb7) fun _ => ?_
  clear hK K
  refine wpAnyH_more (S' := fun W => Row W (some ⟨g3, 0, none⟩) (len + wid n) c3 (xs ++ putB v (wid n)) ∧ Row W (some ⟨g7, 0, none⟩) (len + wid n) c7 (xs ++ putB v (wid n))) (fun _ h => h.1) _ _ _ _ ?_
  have hS2 : (fun W => Row W (some ⟨g3, 0, none⟩) (len + wid n) c3 (xs ++ putB v (wid n)) ∧ Row W (some ⟨g7, 0, none⟩) (len + wid n) c7 (xs ++ putB v (wid n))) w7 := ⟨hS1.below hb7, hown7.row⟩
  replace hb1 := ext_trans (ext_trans hb1 (ext_drew _)) hb7
  clear hS1 hb7 hown7 hr hx
  refine take_to (i := 8) (v := ?_) 48 rfl rfl (by kernel_rfl) (by kernel_rfl) (by kernel_rfl) (fun _ _ _ h => h) (Or.inl ⟨by rfl, ?_⟩) hS2 ?_
  rotate_left
  · intro W hW
    have hc := HS.out W _ _ _ _ hW.2
    go_simp
    try with_reducible rfl
  simp only [List.setIfInBounds_toArray, List.set_cons_zero, List.set_cons_succ]
  refine take_to (i := 9) (v := ?_) 49 rfl rfl (by kernel_rfl) (by kernel_rfl) (by kernel_rfl) (fun _ _ _ h => h) (Or.inl ⟨by rfl, ?_⟩) hS2 ?_
  rotate_left
  · intro W hW
    go_simp
    try with_reducible rfl
  simp only [List.setIfInBounds_toArray, List.set_cons_zero, List.set_cons_succ]
  refine take_to (i := 10) (v := ?_) 50 rfl rfl (by kernel_rfl) (by kernel_rfl) (by kernel_rfl) (fun _ _ _ h => h) (Or.inl ⟨by rfl, ?_⟩) hS2 ?_
  rotate_left
  · intro W hW
    go_simp
    try with_reducible rfl
  simp only [List.setIfInBounds_toArray, List.set_cons_zero, List.set_cons_succ]
  refine take_to (i := 11) (v := ?_) 51 rfl rfl (by kernel_rfl) (by kernel_rfl) (by kernel_rfl) (fun _ _ _ h => h) (Or.inl ⟨by rfl, ?_⟩) hS2 ?_
  rotate_left
  · intro W hW
    go_simp
    try with_reducible rfl
  simp only [List.setIfInBounds_toArray, List.set_cons_zero, List.set_cons_succ]
  refine take_to (i := 12) (v := ?_) 52 rfl rfl (by kernel_rfl) (by kernel_rfl) (by kernel_rfl) (fun _ _ _ h => h) (Or.inl ⟨by rfl, ?_⟩) hS2 ?_
  rotate_left
  · intro W hW
    go_simp
    try with_reducible rfl
  simp only [List.setIfInBounds_toArray, List.set_cons_zero, List.set_cons_succ]
  refine take_to (i := 13) (v := ?_) 53 rfl rfl (by kernel_rfl) (by kernel_rfl) (by kernel_rfl) (fun _ _ _ h => h) (Or.inl ⟨by rfl, ?_⟩) hS2 ?_
  rotate_left
  · intro W hW
    go_simp
    try with_reducible rfl
  simp only [List.setIfInBounds_toArray, List.set_cons_zero, List.set_cons_succ]
  refine take_to (i := 14) (v := ?_) 54 rfl rfl (by kernel_rfl) (by kernel_rfl) (by kernel_rfl) (fun _ _ _ h => h) (Or.inl ⟨by rfl, ?_⟩) hS2 ?_
  rotate_left
  · intro W hW
    go_simp
    try with_reducible rfl
  simp only [List.setIfInBounds_toArray, List.set_cons_zero, List.set_cons_succ]
  refine take_to (i := 15) (v := ?_) 55 rfl rfl (by kernel_rfl) (by kernel_rfl) (by kernel_rfl) (fun _ _ _ h => h) (Or.inl ⟨by rfl, ?_⟩) hS2 ?_
  rotate_left
  · intro W hW
    go_simp
    try with_reducible rfl
  simp only [List.setIfInBounds_toArray, List.set_cons_zero, List.set_cons_succ]
  refine take_to (i := 16) (v := ?_) 56 rfl rfl (by kernel_rfl) (by kernel_rfl) (by kernel_rfl) (fun _ _ _ h => h) (Or.inl ⟨by rfl, ?_⟩) hS2 ?_
  rotate_left
  · intro W hW
    go_simp
    try with_reducible rfl
  simp only [List.setIfInBounds_toArray, List.set_cons_zero, List.set_cons_succ]
  refine take_to (i := 17) (v := ?_) 57 rfl rfl (by kernel_rfl) (by kernel_rfl) (by kernel_rfl) (fun _ _ _ h => h) (Or.inl ⟨by rfl, ?_⟩) hS2 ?_
  rotate_left
  · intro W hW
    go_simp
    try with_reducible rfl
  simp only [List.setIfInBounds_toArray, List.set_cons_zero, List.set_cons_succ]
  refine take_to (i := 18) (v := ?_) 58 rfl rfl (by kernel_rfl) (by kernel_rfl) (by kernel_rfl) (fun _ _ _ h => h) (Or.inl ⟨by rfl, ?_⟩) hS2 ?_
  rotate_left
  · intro W hW
    go_simp
    try with_reducible rfl
  simp only [List.setIfInBounds_toArray, List.set_cons_zero, List.set_cons_succ]
  refine take_to (i := 19) (v := ?_) 59 rfl rfl (by kernel_rfl) (by kernel_rfl) (by kernel_rfl) (fun _ _ _ h => h) (Or.inl ⟨by rfl, ?_⟩) hS2 ?_
  rotate_left
  · intro W hW
    go_simp
    try with_reducible rfl
  simp only [List.setIfInBounds_toArray, List.set_cons_zero, List.set_cons_succ]
  refine take_to (i := 20) (v := ?_) 60 rfl rfl (by kernel_rfl) (by kernel_rfl) (by kernel_rfl) (fun _ _ _ h => h) (Or.inl ⟨by rfl, ?_⟩) hS2 ?_
  rotate_left
  · intro W hW
    go_simp
    try with_reducible rfl
  simp only [List.setIfInBounds_toArray, List.set_cons_zero, List.set_cons_succ]
  refine take_to (i := 21) (v := ?_) 6 rfl rfl (by kernel_rfl) (by kernel_rfl) (by kernel_rfl) (fun _ _ _ h => h) (Or.inl ⟨by rfl, ?_⟩) hS2 ?_
  rotate_left
  · intro W hW
    go_simp
    try with_reducible rfl
  simp only [List.setIfInBounds_toArray, List.set_cons_zero, List.set_cons_succ]
  refine wpAnyH_done (by kernel_rfl) ?_ _
  refine NoPanic.normal ?_
  go_wp2_with fail
  go_ret
  exact ⟨rfl, hb1⟩
end Go.Proofs.Ytinelpegpcfoaaa
