/- LabelForms answers true: the walk. -/
import Derived.Test.YtgpndbfefbdibabLabBegun
namespace Go.Proofs.Ytgpndbfefbdibab
open Go.RowKit

set_option maxHeartbeats 4000000 in
theorem labelForms_walk (w : World) : Calls Try.prog 4 #[] w fun e w' => e = .returned (.bool true) ∧ Below w.heap.size w w' := by
  have h0 := two_allocs w (.cells #[.int .u16 5, .int .u8 4] 26) (.cells #[.int .u16 4, .int .u8 0] 26)
  have HK : Hid (∀ W, Below ((w.alloc (.cells #[.int .u16 5, .int .u8 4] 26)).alloc (.cells #[.int .u16 4, .int .u8 0] 26)).heap.size ((w.alloc (.cells #[.int .u16 5, .int .u8 4] 26)).alloc (.cells #[.int .u16 4, .int .u8 0] 26)) W → W.cell? ⟨w.heap.size, 0, none⟩ = some (.int .u16 5) ∧ W.cell? ⟨w.heap.size, 1, none⟩ = some (.int .u8 4) ∧ W.cell? ⟨w.heap.size + 1, 0, none⟩ = some (.int .u16 4) ∧ W.cell? ⟨w.heap.size + 1, 1, none⟩ = some (.int .u8 0) ∧ Below w.heap.size w W) := fun W h =>
    ⟨by rw [h.cell (by simp <;> omega)]; simp, by rw [h.cell (by simp <;> omega)]; simp, by rw [h.cell (by simp)]; simp, by rw [h.cell (by simp)]; simp, ext_trans h0 h⟩
  clear h0
  go_enter Try.func4, Try.ntmps4
  go_wp2_with fail
  refine (begun_true _).mono ?_
  rintro e w1 ⟨rfl, hb1⟩
  obtain ⟨p0, p1, q0, q1, _⟩ := HK.out _ hb1
  go_wp2_with fail
  refine (may_any 2 (by omega) none 0 0 [] _ (RowG.nil _ _)).mono ?_
  rintro e w2 ⟨rfl, hb2⟩
  rw [show mayB 2 [] = true by decide]
  replace hb2 := ext_trans hb1 hb2
  obtain ⟨p0, p1, q0, q1, _⟩ := HK.out _ hb2
  clear hb1
  go_wp2_with fail
  refine (may_any 0 (by omega) none 0 0 [] _ (RowG.nil _ _)).mono ?_
  rintro e w3 ⟨rfl, hb3⟩
  rw [show mayB 0 [] = false by decide]
  replace hb3 := ext_trans hb2 hb3
  obtain ⟨p0, p1, q0, q1, _⟩ := HK.out _ hb3
  clear hb2
  go_wp2_with fail
  refine (may_any 2 (by omega) _ 2 2 [((4 : Int), (0 : Int)), ((5 : Int), (4 : Int))] _ (owng_lit PE _ 26 [((4 : Int), (0 : Int)), ((5 : Int), (4 : Int))] #[.int .u16 4, .int .u8 0, .int .u16 5, .int .u8 4] rfl 2 rfl (by omega) (fun p hp => by simp at hp; rcases hp with rfl | rfl <;> (show _ ∧ _; decide)) _ _ rfl (Nat.le_refl _)).row).mono ?_
  rintro e w4 ⟨rfl, hb4⟩
  rw [show mayB 2 [((4 : Int), (0 : Int)), ((5 : Int), (4 : Int))] = true by decide]
  replace hb4 := ext_trans (ext_trans hb3 (below_alloc _ _)) hb4
  obtain ⟨p0, p1, q0, q1, _⟩ := HK.out _ hb4
  clear hb3
  go_wp2_with fail
  refine (may_any 2 (by omega) _ 2 2 [((5 : Int), (4 : Int)), ((4 : Int), (0 : Int))] _ (owng_lit PE _ 26 [((5 : Int), (4 : Int)), ((4 : Int), (0 : Int))] #[.int .u16 5, .int .u8 4, .int .u16 4, .int .u8 0] rfl 2 rfl (by omega) (fun p hp => by simp at hp; rcases hp with rfl | rfl <;> (show _ ∧ _; decide)) _ _ rfl (Nat.le_refl _)).row).mono ?_
  rintro e w5 ⟨rfl, hb5⟩
  rw [show mayB 2 [((5 : Int), (4 : Int)), ((4 : Int), (0 : Int))] = false by decide]
  replace hb5 := ext_trans (ext_trans hb4 (below_alloc _ _)) hb5
  obtain ⟨p0, p1, q0, q1, _⟩ := HK.out _ hb5
  clear hb4
  go_wp2_with fail
  refine (may_any 2 (by omega) _ 2 2 [((5 : Int), (4 : Int)), ((5 : Int), (4 : Int))] _ (owng_lit PE _ 26 [((5 : Int), (4 : Int)), ((5 : Int), (4 : Int))] #[.int .u16 5, .int .u8 4, .int .u16 5, .int .u8 4] rfl 2 rfl (by omega) (fun p hp => by simp at hp; subst hp; show _ ∧ _; decide) _ _ rfl (Nat.le_refl _)).row).mono ?_
  rintro e w6 ⟨rfl, hb6⟩
  rw [show mayB 2 [((5 : Int), (4 : Int)), ((5 : Int), (4 : Int))] = false by decide]
  replace hb6 := ext_trans (ext_trans hb5 (below_alloc _ _)) hb6
  obtain ⟨p0, p1, q0, q1, _⟩ := HK.out _ hb6
  clear hb5
  go_wp2_with fail
  refine (may_any 4 (by omega) _ 1 1 [((5 : Int), (4 : Int))] _ (owng_lit PE _ 26 [((5 : Int), (4 : Int))] #[.int .u16 5, .int .u8 4] rfl 1 rfl (by omega) (fun p hp => by simp at hp; subst hp; show _ ∧ _; decide) _ _ rfl (Nat.le_refl _)).row).mono ?_
  rintro e w7 ⟨rfl, hb7⟩
  rw [show mayB 4 [((5 : Int), (4 : Int))] = false by decide]
  replace hb7 := ext_trans (ext_trans hb6 (below_alloc _ _)) hb7
  obtain ⟨p0, p1, q0, q1, _⟩ := HK.out _ hb7
  clear hb6
  go_wp2_with fail
  refine (may_any 5 (by omega) none 0 0 [] _ (RowG.nil _ _)).mono ?_
  rintro e w8 ⟨rfl, hb8⟩
  rw [show mayB 5 [] = false by decide]
  replace hb8 := ext_trans hb7 hb8
  obtain ⟨p0, p1, q0, q1, _⟩ := HK.out _ hb8
  clear hb7
  go_wp2_with fail
  refine (may_any 2 (by omega) _ 1 1 [((1 : Int), (5 : Int))] _ (owng_lit PE _ 26 [((1 : Int), (5 : Int))] #[.int .u16 1, .int .u8 5] rfl 1 rfl (by omega) (fun p hp => by simp at hp; subst hp; show _ ∧ _; decide) _ _ rfl (Nat.le_refl _)).row).mono ?_
  rintro e w9 ⟨rfl, hb9⟩
  rw [show mayB 2 [((1 : Int), (5 : Int))] = false by decide]
  replace hb9 := ext_trans (ext_trans hb8 (below_alloc _ _)) hb9
  obtain ⟨p0, p1, q0, q1, _⟩ := HK.out _ hb9
  clear hb8
  go_wp2_with fail
  refine (same_lab 2 none 0 0 [] 3 none 0 0 [] _ (RowG.nil _ _) (RowG.nil _ _)).mono ?_
  rintro e w20 ⟨rfl, hb20⟩
  rw [show decide ((2 : Int) = 3 ∧ ([] : List (Int × Int)) = []) = false by decide]
  obtain ⟨_, _, _, _, hbf⟩ := HK.out _ (ext_trans hb9 hb20)
  go_wp2_with fail
  go_ret
  exact ⟨rfl, hbf⟩
end Go.Proofs.Ytgpndbfefbdibab
