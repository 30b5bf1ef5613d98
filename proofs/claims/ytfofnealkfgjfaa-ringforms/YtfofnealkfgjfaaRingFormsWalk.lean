/- RingForms walked: it answers true, and turns nothing that was there. -/
import Derived.Test.YtfofnealkfgjfaaRgBegun
import Derived.BigFrame
namespace Go.Proofs.Ytfofnealkfgjfaa
open Go.RowKit
set_option maxRecDepth 100000
set_option linter.unusedVariables false

/-- Four letters, each of one byte, just laid. -/
theorem four_is (w : World) (N : Nat) (hN : w.heap.size = N) : Hid (∀ W, W = (((((w.alloc (.cells #[.int .u8 1] 5)).alloc (.cells #[.int .u8 2] 5)).alloc (.cells #[.int .u8 3] 5)).alloc (.cells #[.int .u8 4] 5)).alloc
    (.cells #[.slice (some ⟨N, 0, none⟩) 1 1, .slice (some ⟨N + 1, 0, none⟩) 1 1, .slice (some ⟨N + 1 + 1, 0, none⟩) 1 1, .slice (some ⟨N + 1 + 1 + 1, 0, none⟩) 1 1] 22)) →
    OwnR W N (some ⟨N + 1 + 1 + 1 + 1, 0, none⟩) 4 4 [⟨some ⟨N, 0, none⟩, 1, 1, [1]⟩, ⟨some ⟨N + 1, 0, none⟩, 1, 1, [2]⟩, ⟨some ⟨N + 1 + 1, 0, none⟩, 1, 1, [3]⟩, ⟨some ⟨N + 1 + 1 + 1, 0, none⟩, 1, 1, [4]⟩] ∧ Below w.heap.size w W) := by
  intro W hW
  have l1 := own_lit w 5 [1] 1 rfl (by omega) (byt_of _ rfl)
  have l2 := own_lit (w.alloc (.cells #[.int .u8 1] 5)) 5 [2] 1 rfl (by omega) (byt_of _ rfl)
  have l3 := own_lit ((w.alloc (.cells #[.int .u8 1] 5)).alloc (.cells #[.int .u8 2] 5)) 5 [3] 1 rfl (by omega) (byt_of _ rfl)
  have l4 := own_lit (((w.alloc (.cells #[.int .u8 1] 5)).alloc (.cells #[.int .u8 2] 5)).alloc (.cells #[.int .u8 3] 5)) 5 [4] 1 rfl (by omega) (byt_of _ rfl)
  simp only [show ∀ (x : World) (o : Obj), (x.alloc o).heap.size = x.heap.size + 1 from fun x o => by simp, hN] at l1 l2 l3 l4
  have o1 : Own 5 W N N 1 1 [1] := by subst hW; exact (((l1.below (below_alloc _ _)).below (below_alloc _ _)).below (below_alloc _ _)).below (below_alloc _ _)
  have o2 : Own 5 W (N + 1) (N + 1) 1 1 [2] := by subst hW; exact ((l2.below (below_alloc _ _)).below (below_alloc _ _)).below (below_alloc _ _)
  have o3 : Own 5 W (N + 1 + 1) (N + 1 + 1) 1 1 [3] := by subst hW; exact (l3.below (below_alloc _ _)).below (below_alloc _ _)
  have o4 : Own 5 W (N + 1 + 1 + 1) (N + 1 + 1 + 1) 1 1 [4] := by subst hW; exact l4.below (below_alloc _ _)
  subst hW
  refine ⟨⟨owng_lit RE _ 22 [⟨some ⟨N, 0, none⟩, 1, 1, [1]⟩, ⟨some ⟨N + 1, 0, none⟩, 1, 1, [2]⟩, ⟨some ⟨N + 1 + 1, 0, none⟩, 1, 1, [3]⟩, ⟨some ⟨N + 1 + 1 + 1, 0, none⟩, 1, 1, [4]⟩] _ rfl 4 rfl (by omega) (RE.all _) (N + 1 + 1 + 1 + 1) N (by simp; omega) (by omega), fun p hp => ?_⟩, ?_⟩
  · simp only [List.mem_cons, List.not_mem_nil, or_false] at hp
    rcases hp with rfl | rfl | rfl | rfl
    · exact LeO.made o1
    · exact (LeO.made o2).mono (by omega)
    · exact (LeO.made o3).mono (by omega)
    · exact (LeO.made o4).mono (by omega)
  · exact ext_trans (ext_trans (ext_trans (ext_trans (below_alloc _ _) (below_alloc _ _)) (below_alloc _ _)) (below_alloc _ _)) (below_alloc _ _)

set_option maxHeartbeats 8000000 in
theorem ringForms_walk (w : World) : Calls Try.prog 6 #[] w fun e w' => e = .returned (.bool true) ∧ Below w.heap.size w w' := by
  go_enter Try.func6, Try.ntmps6
  go_wp2_with fail
  refine (begun16_true _).mono ?_
  rintro e w1 ⟨rfl, b1⟩
  have HF := four_is w1 w1.heap.size rfl
  have hwN := b1.size
  go_wp2_with (at_make; refine wp_make_bytes _ rfl _ _ 22 rfl 5 Try.underlying22 info5 _ _ 17 17 rfl rfl rfl rfl (by omega) (by omega) _ (Nat.le_refl _) _ (Below.refl _ _) ?_; intro W2 hL b2 hsz; have hf := (HF.out _ rfl).1.below b2; have bf := ext_trans (ext_trans b1 (HF.out _ rfl).2) b2; have hl0 : Own 5 W2 _ _ 17 17 (List.replicate 17 0) := Own.of_block (cur := List.replicate 17 (Value.int .u8 0)) (Nat.le_refl _) hL.out (by omega) (by unfold maxLen; omega) (by simp) (by simp) (byt_of _ rfl) (by simp); have rl := hl0.row; clear hL b2 hsz hl0)
  clear HF b1
  simp only [show ∀ (x : World) (o : Obj), (x.alloc o).heap.size = x.heap.size + 1 from fun x o => by simp] at rl ⊢
  generalize w1.heap.size = Nf at hf rl hwN ⊢
  generalize hP4 : [(⟨some ⟨Nf, 0, none⟩, 1, 1, [1]⟩ : Le), ⟨some ⟨Nf + 1, 0, none⟩, 1, 1, [2]⟩, ⟨some ⟨Nf + 1 + 1, 0, none⟩, 1, 1, [3]⟩, ⟨some ⟨Nf + 1 + 1 + 1, 0, none⟩, 1, 1, [4]⟩] = P4 at hf
  have HP4 : Hid (txt P4 = [[1], [2], [3], [4]]) := show txt P4 = _ by rw [← hP4]; rfl
  clear hP4
  generalize Nf + 1 + 1 + 1 + 1 = F at hf rl ⊢
  generalize hG : F + 1 = G at rl ⊢
  have hFG : F ≠ G := by omega
  clear hG
  have z3 := below_alloc W2 (.cells #[.int .u8 5] 5)
  refine (push_full _ _ _ _ _ _ _ (by omega) (by omega)).mono ?_
  rintro e w3 ⟨rfl, h3⟩
  rw [← h3] at z3
  clear h3
  replace bf := ext_trans bf z3
  replace hf := hf.below z3
  replace rl := rl.below z3
  clear z3
  go_wp2_with fail
  refine (push_long _ _ _ _ _ _ _ (by omega)).mono ?_
  rintro e w3 ⟨rfl, rfl⟩
  go_wp2_with fail
  refine (push_long _ _ _ _ _ _ _ (by omega)).mono ?_
  rintro e w3 ⟨rfl, rfl⟩
  have hp := push_ok none 0 0 (some ⟨G, 0, none⟩) 16 17 [] _ w3 (RowR.nil _) (rl.pre 16 (by omega)) (by omega) (by omega) (fun _ h => by simp at h)
  go_wp2_with fail
  refine hp.mono ?_
  rintro e w4 ⟨s4, c4, q4, rfl, _, _, b4⟩
  replace bf := ext_trans bf b4
  replace hf := hf.below b4
  replace rl := rl.below b4
  clear hp b4
  go_wp2_with fail
  refine (pop_none none 0 _).mono ?_
  rintro e w4 ⟨rfl, rfl⟩
  have hk := takeR_any (some ⟨w4.heap.size, 0, none⟩) 1 1 [0] _ (row_lit w4 5 [0] 1 rfl (by omega) (byt_of _ rfl)) (by omega)
  rw [show tkR [0] = some ([], 1) by decide] at hk
  have z := below_alloc w4 (.cells #[.int .u8 0] 5)
  go_wp2_with fail
  refine hk.mono ?_
  rintro e w5 ⟨s5, k5, c5, p5, E5, rfl, b5, h5⟩
  replace b5 := ext_trans z b5
  replace bf := ext_trans bf b5
  replace hf := hf.below b5
  replace rl := rl.below b5
  clear hk b5 z
  rcases h5 with ⟨_, q, rfl, rfl, ht, _, _⟩ | ⟨_, _, _, _, _, ls, q, ht, hm⟩ | ⟨_, _, _, _, _, ht⟩
  rotate_left
  · simp only [Option.some.injEq, Prod.mk.injEq] at ht
    rw [← ht.1] at hm
    exact absurd hm (by decide)
  · simp at ht
  obtain rfl : 1 = q := by simp only [Option.some.injEq, Prod.mk.injEq] at ht; exact ht.2
  clear ht
  have hk := takeR_any (some ⟨w5.heap.size, 0, none⟩) 11 11 [5, 0, 0, 0, 0, 0, 0, 0, 0, 0, 0] _ (row_lit w5 5 [5, 0, 0, 0, 0, 0, 0, 0, 0, 0, 0] 11 rfl (by omega) (byt_of _ rfl)) (by omega)
  rw [show tkR [5, 0, 0, 0, 0, 0, 0, 0, 0, 0, 0] = some ([[], [], [], [], []], 11) by decide] at hk
  have z := below_alloc w5 (.cells #[.int .u8 5, .int .u8 0, .int .u8 0, .int .u8 0, .int .u8 0, .int .u8 0, .int .u8 0, .int .u8 0, .int .u8 0, .int .u8 0, .int .u8 0] 5)
  go_wp2_with fail
  refine hk.mono ?_
  rintro e w6 ⟨s6, k6, c6, p6, E6, rfl, b6, h6⟩
  replace b6 := ext_trans z b6
  replace bf := ext_trans bf b6
  replace hf := hf.below b6
  replace rl := rl.below b6
  clear hk b6 z
  rcases h6 with ⟨_, q, _, _, ht, hm, _⟩ | ⟨rfl, rfl, rfl, rfl, rfl, _⟩ | ⟨_, _, _, _, _, ht⟩
  · simp only [Option.some.injEq, Prod.mk.injEq] at ht
    rw [← ht.1] at hm
    exact absurd hm (by decide)
  rotate_left
  · simp at ht
  have hk := takeR_any (some ⟨w6.heap.size, 0, none⟩) 4 4 [2, 0, 0, 0] _ (row_lit w6 5 [2, 0, 0, 0] 4 rfl (by omega) (byt_of _ rfl)) (by omega)
  rw [show tkR [2, 0, 0, 0] = none by decide] at hk
  have z := below_alloc w6 (.cells #[.int .u8 2, .int .u8 0, .int .u8 0, .int .u8 0] 5)
  go_wp2_with fail
  refine hk.mono ?_
  rintro e w7 ⟨s7, k7, c7, p7, E7, rfl, b7, h7⟩
  replace b7 := ext_trans z b7
  replace bf := ext_trans bf b7
  replace hf := hf.below b7
  replace rl := rl.below b7
  clear hk b7 z
  rcases h7 with ⟨_, q, _, _, ht, _⟩ | ⟨_, _, _, _, _, ls, q, ht, _⟩ | ⟨rfl, rfl, rfl, rfl, rfl, _⟩
  · simp at ht
  · simp at ht
  have hk := takeR_any none 0 0 [] w7 (Row.nil _) (by omega)
  rw [show tkR [] = none by decide] at hk
  go_wp2_with fail
  refine hk.mono ?_
  rintro e w8 ⟨s8, k8, c8, p8, E8, rfl, b8, h8⟩
  replace bf := ext_trans bf b8
  replace hf := hf.below b8
  replace rl := rl.below b8
  clear hk b8
  rcases h8 with ⟨_, q, _, _, ht, _⟩ | ⟨_, _, _, _, _, ls, q, ht, _⟩ | ⟨rfl, rfl, rfl, rfl, rfl, _⟩
  · simp at ht
  · simp at ht
  have hm := may_anyR _ _ _ _ w8 hf.row
  rw [HP4.out, show mayT [[1], [2], [3], [4]] = true by decide] at hm
  go_wp2_with fail
  refine hm.mono ?_
  rintro e w8 ⟨rfl, rfl⟩
  clear hm
  have z := below_alloc w8 (.cells #[.int .u8 5] 5)
  have zz := ext_trans z (below_alloc (w8.alloc (.cells #[.int .u8 5] 5)) (.cells #[.slice (some ⟨w8.heap.size, 0, none⟩) 1 1] 22))
  have hNf : Nf ≤ w8.heap.size := by have := hf.1.lt; omega
  have hlt := lit_one (w8.alloc (.cells #[.int .u8 5] 5)) ⟨some ⟨w8.heap.size, 0, none⟩, 1, 1, [5]⟩
  have hLe : LeO ((w8.alloc (.cells #[.int .u8 5] 5)).alloc (.cells #[.slice (some ⟨w8.heap.size, 0, none⟩) 1 1] 22)) Nf ⟨some ⟨w8.heap.size, 0, none⟩, 1, 1, [5]⟩ := (LeO.made ((own_lit w8 5 [5] 1 rfl (by omega) (byt_of _ rfl)).below (below_alloc _ _))).mono hNf
  simp only [show ∀ (x : World) (o : Obj), (x.alloc o).heap.size = x.heap.size + 1 from fun x o => by simp] at hlt
  replace hf := hf.below zz
  replace rl := rl.below zz
  replace bf := ext_trans bf zz
  have hsz := zz.size
  clear z zz
  go_wp2_with (at_builtin; refine Go.BigFrame.wpList_want (by rfl) fun K hK => op_append_letter _ (.tmp 133) (.tmp 135) 24 rfl Try.underlying24 Nf 4 4 _ P4 rfl hf _ 1 ⟨some ⟨w8.heap.size, 0, none⟩, 1, 1, [5]⟩ rfl hlt hLe (by omega) (Nat.le_trans hNf hsz) _ ((Below.refl _ _).mono (Nat.le_trans hNf hsz)) fun so' co' w9 o9 b9 g9 => hK _ _ ?_)
  have rl9 := rowL_grown rl g9 (fun _ x hx e => by obtain rfl := Option.some.inj hx; exact hFG (by simpa [Value.ownBlock] using e))
  have bf9 : Below w.heap.size w w9 := bf.trans (b9.mono (by omega))
  have hm := may_anyR so' 5 co' _ w9 o9.row
  rw [txt_append, HP4.out, show mayT ([[1], [2], [3], [4]] ++ txt [⟨some ⟨w8.heap.size, 0, none⟩, 1, 1, [5]⟩]) = false by rfl] at hm
  clear hf rl hlt hLe b9 g9 o9 bf
  refine hm.mono ?_
  rintro e w9 ⟨rfl, rfl⟩
  have hm2 := may_anyR (some ⟨w9.heap.size, 0, none⟩) 1 1 [⟨some ⟨G, 0, none⟩, 17, 17, List.replicate 17 0⟩] (w9.alloc (.cells #[.slice (some ⟨G, 0, none⟩) 17 17] 22)) ⟨lit_one w9 ⟨some ⟨G, 0, none⟩, 17, 17, List.replicate 17 0⟩, fun p hp => by simp at hp; subst hp; exact rl9.below (below_alloc _ _)⟩
  rw [show mayT (txt [⟨some ⟨G, 0, none⟩, 17, 17, List.replicate 17 0⟩]) = false by rfl] at hm2
  replace bf9 := ext_trans bf9 (below_alloc w9 (.cells #[.slice (some ⟨G, 0, none⟩) 17 17] 22))
  clear hm rl9
  go_wp2_with fail
  refine hm2.mono ?_
  rintro e w10 ⟨rfl, h10⟩
  rw [← h10] at bf9
  clear h10 hm2
  have hm3 := may_anyR none 0 0 [] w10 (RowR.nil _)
  rw [show mayT (txt []) = true by rfl] at hm3
  go_wp2_with fail
  refine hm3.mono ?_
  rintro e w10 ⟨rfl, rfl⟩
  go_wp2_with fail
  go_ret
  exact ⟨rfl, bf9⟩
end Go.Proofs.Ytfofnealkfgjfaa
