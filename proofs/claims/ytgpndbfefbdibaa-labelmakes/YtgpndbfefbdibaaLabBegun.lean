/- That label does something: what the statements ask first. -/
import Derived.Test.YtgpndbfefbdibaaLabMake
import Derived.Test.YtgpndbfefbdibaaLabMay
import Derived.Test.YtgpndbfefbdibaaLabSet
import Derived.Test.YtgpndbfefbdibaaLabRise
import Derived.Test.YtgpndbfefbdibaaLabFlows
namespace Go.Proofs.Ytgpndbfefbdibaa
open Go.RowKit

@[go_sem] theorem run_field1 (w : World) (x : Int) (so : Option Addr) (n co : Nat) : (Instr.field 24 (.agg #[.int .u8 x, .slice so n co]) 1).run Try.prog w = .ok (.slice so n co) w := by kernel_rfl
theorem can34 : CanL 2 [(3, 4)] := ⟨List.pairwise_singleton _ _, fun p hp => by simp at hp; subst hp; decide⟩
theorem lv34 : LvL 2 [(3, 4)] := ⟨by decide, fun p hp => by simp at hp; subst hp; decide⟩
theorem lv0 : LvL 2 [] := ⟨by decide, fun p hp => by simp at hp⟩
theorem made34 {zs : List (Int × Int)} (h1 : CanL 2 zs) (h2 : ∀ c, atL 2 zs c = atL 2 [((3 : Int), (4 : Int)), (4, 2)].reverse c) : zs = [(3, 4)] := by
  refine can_ext h1 can34 fun c => ?_
  rw [h2]
  simp only [List.reverse_cons, List.reverse_nil, List.nil_append, List.singleton_append, atL]
  by_cases e : (4 : Int) = c
  · rw [if_pos e, if_neg (by omega)]
  · rw [if_neg e]
theorem set34a {zs : List (Int × Int)} (h1 : CanL 2 zs) (h2 : ∀ c, atL 2 zs c = if c = 3 then 2 else atL 2 [((3 : Int), (4 : Int))] c) : zs = [] := by
  refine can_ext h1 (CanL.nil 2) fun c => ?_
  rw [h2]
  simp only [atL]
  by_cases e : c = 3
  · rw [if_pos e]
  · rw [if_neg e, if_neg (by omega)]
theorem set34b {zs : List (Int × Int)} (h1 : CanL 2 zs) (h2 : ∀ c, atL 2 zs c = if c = 5 then 0 else atL 2 [((3 : Int), (4 : Int))] c) : zs = [(3, 4), (5, 0)] := by
  refine can_ext h1 ⟨by show List.Pairwise _ _; decide, fun p hp => by simp at hp; rcases hp with rfl | rfl <;> decide⟩ fun c => ?_
  rw [h2]
  simp only [atL]
  by_cases e : c = 5
  · subst e; decide
  · rw [if_neg e, if_neg (show ¬ (5 : Int) = c by omega)]
theorem flows34 : FlL 2 [] 2 [(3, 4)] := fun c => by
  simp only [atL]
  split <;> omega

set_option maxHeartbeats 4000000 in
theorem begun_true (w : World) : Calls Try.prog 9 #[] w fun e w' => e = .returned (.bool true) ∧ Below w.heap.size w w' := by
  go_enter Try.func9, Try.ntmps9
  go_wp2_with fail
  have r0 : RowG PE (w.alloc (.cells #[.int .u16 3, .int .u8 4, .int .u16 4, .int .u8 2] 29)) (some ⟨w.heap.size, 0, none⟩) 2 2 [(3, 4), (4, 2)] :=
    (owng_lit PE w 29 [(3, 4), (4, 2)] _ rfl 2 rfl (by omega) (fun p hp => by simp at hp; rcases hp with rfl | rfl <;> (show _ ∧ _; decide)) _ w.heap.size rfl (Nat.le_refl _)).row
  refine (make_any 19 sort_small (by omega) 2 _ 2 2 _ _ r0 (by omega)).mono ?_
  rintro e w1 ⟨so, k, co, zs, rfl, hown, hb1, hcan, hat, _⟩
  obtain rfl := made34 hcan hat
  obtain rfl : k = 1 := hown.1.symm
  clear hcan hat
  have hbw1 : Below w.heap.size w w1 := ext_trans (below_alloc _ _) hb1
  have hrow := hown.row
  clear hown hb1 r0
  have HK : Hid (∀ W, Below (w1.alloc (.cells #[.int .u8 2, .slice so 1 co] 24)).heap.size (w1.alloc (.cells #[.int .u8 2, .slice so 1 co] 24)) W → W.cell? ⟨w1.heap.size, 0, none⟩ = some (.int .u8 2) ∧ W.cell? ⟨w1.heap.size, 1, none⟩ = some (.slice so 1 co) ∧ RowG PE W so 1 co [(3, 4)] ∧ Below w.heap.size w W) := fun W h =>
    ⟨by rw [h.cell (by simp)]; simp, by rw [h.cell (by simp)]; simp, (hrow.below (below_alloc _ _)).below h, ext_trans (ext_trans hbw1 (below_alloc _ _)) h⟩
  have hup : UpL [((3 : Int), (4 : Int))] := can34.1
  go_wp2_with fail
  obtain ⟨_, _, r, _⟩ := HK.out _ (Below.refl _ _)
  refine (may_any 2 (by omega) so 1 co _ _ r).mono ?_
  rintro e w2 ⟨rfl, hb2⟩
  rw [show mayB 2 [((3 : Int), (4 : Int))] = true by decide]
  obtain ⟨c0, c1, r2, _⟩ := HK.out _ hb2
  clear r
  go_wp2_with fail
  refine (at_any 2 so 1 co _ 3 _ r2 hup (by omega)).mono ?_
  rintro e w3 ⟨rfl, hb3⟩
  rw [show atL 2 [((3 : Int), (4 : Int))] 3 = 4 by decide]
  replace hb3 := ext_trans hb2 hb3
  obtain ⟨c0, c1, r3, _⟩ := HK.out _ hb3
  clear hb2 r2
  go_wp2_with fail
  refine (at_any 2 so 1 co _ 9 _ r3 hup (by omega)).mono ?_
  rintro e w4 ⟨rfl, hb4⟩
  rw [show atL 2 [((3 : Int), (4 : Int))] 9 = 2 by decide]
  replace hb4 := ext_trans hb3 hb4
  obtain ⟨c0, c1, r4, _⟩ := HK.out _ hb4
  clear hb3 r3
  go_wp2_with fail
  refine (same_lab 2 so 1 co _ 2 so 1 co _ _ r4 r4).mono ?_
  rintro e w5 ⟨rfl, hb5⟩
  rw [show decide ((2 : Int) = 2 ∧ [((3 : Int), (4 : Int))] = [(3, 4)]) = true by decide]
  replace hb5 := ext_trans hb4 hb5
  obtain ⟨c0, c1, r5, _⟩ := HK.out _ hb5
  clear hb4 r4
  go_wp2_with fail
  refine (flowsL_any 2 2 none so 0 0 1 co [] _ _ (RowG.nil _ _) r5 lv0 lv34 List.Pairwise.nil hup (by omega)).mono ?_
  rintro e w6 ⟨q, rfl, hq, hb6⟩
  obtain rfl : q = true := hq.2 flows34
  clear hq
  replace hb6 := ext_trans hb5 hb6
  obtain ⟨c0, c1, r6, _⟩ := HK.out _ hb6
  clear hb5 r5
  go_wp2_with fail
  refine (set_any 2 so 1 co _ 3 2 (by omega) (by omega) _ r6 can34 (by omega)).mono ?_
  rintro e w7 ⟨so7, k7, co7, zs7, rfl, hown7, hb7, hcan7, hat7, _⟩
  obtain rfl := set34a hcan7 hat7
  obtain rfl : k7 = 0 := hown7.1.symm
  clear hcan7 hat7 hown7
  replace hb7 := ext_trans hb6 hb7
  obtain ⟨c0, c1, r7, _⟩ := HK.out _ hb7
  clear hb6 r6
  go_wp2_with fail
  refine (riseLab_any 2 so 1 co _ _ r7 lv34 (by omega)).mono ?_
  rintro e w8 ⟨so8, k8, co8, rfl, hown8, hb8⟩
  rw [show riseL 2 = 2 by decide]
  obtain rfl : k8 = 1 := hown8.1.symm
  clear hown8
  replace hb8 := ext_trans hb7 hb8
  obtain ⟨c0, c1, r8, _⟩ := HK.out _ hb8
  clear hb7 r7
  go_wp2_with fail
  refine (joinL_any 2 2 so so 1 co 1 co _ _ _ r8 r8 lv34 lv34 (by omega)).mono ?_
  rintro e w9 ⟨so9, k9, co9, rfl, hown9, hb9⟩
  rw [show max (2 : Int) 2 = 2 by decide]
  obtain rfl : k9 = 1 := by rw [← hown9.1]; simp [comb, mg, cmb]
  clear hown9
  replace hb9 := ext_trans hb8 hb9
  obtain ⟨c0, c1, r9, _⟩ := HK.out _ hb9
  clear hb8 r8
  go_wp2_with fail
  refine (set_any 2 so 1 co _ 5 0 (by omega) (by omega) _ r9 can34 (by omega)).mono ?_
  rintro e w10 ⟨so10, k10, co10, zs10, rfl, hown10, hb10, hcan10, hat10, _⟩
  obtain rfl := set34b hcan10 hat10
  have r10 := hown10.row
  obtain rfl : k10 = 2 := hown10.1.symm
  clear hcan10 hat10 hown10
  replace hb10 := ext_trans hb9 hb10
  clear hb9 r9
  go_wp2_with fail
  refine (stars_any 2 so10 2 co10 _ _ r10 (by omega)).mono ?_
  rintro e w11 ⟨so11, k11, co11, rfl, hown11, hb11⟩
  obtain rfl : k11 = 1 := hown11.1.symm
  clear hown11
  obtain ⟨_, _, _, hbf⟩ := HK.out _ (ext_trans hb10 hb11)
  go_wp2_with fail
  go_ret
  exact ⟨rfl, hbf⟩
end Go.Proofs.Ytgpndbfefbdibaa
