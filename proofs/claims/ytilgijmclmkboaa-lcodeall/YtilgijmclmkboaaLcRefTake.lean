/- What the document's own TakeLabel answers: a contract. -/
import Derived.Test.YtilgijmclmkboaaLcTake
import Derived.Test.YtilgijmclmkboaaRef
import Derived.Test.YtilgijmclmkboaaRegion
namespace Go.Proofs.Ytilgijmclmkboaa
open Go.RowKit
set_option linter.unusedVariables false

set_option maxHeartbeats 400000 in
theorem refTakeL_short (a : Option Addr) (len cap : Nat) (bs : List Int) (w : World) (hr : Row w a len cap bs) (h : len < 2 + 3 * cntL bs) (hbd : len ≤ 1000000) :
    Calls Try.prog 9 #[.slice a len cap] w fun e w' => ∃ so k co, e = .returned (.tuple #[.agg #[.int .u8 (tlD bs), .slice so k co], .int .i64 (tlN bs), .int .i64 (tlE bs)]) ∧ OwnG PE 42 w' w.heap.size so k co (tlP bs) ∧ Below w.heap.size w w' := by
  have hs : shortL bs = true := by simp only [shortL, decide_eq_true_eq, hr.len]; omega
  obtain ⟨t1, t2, t3, t4⟩ := tl_short hs
  rw [t1, t2, t3, t4]
  clear t1 t2 t3 t4 hs
  have hb0 := below_alloc w (.cells #[.int .u8 0, .slice none 0 0] 24)
  have hcap := hr.cap_le
  by_cases h2 : len < 2
  · have p1 : (len : Int) < 2 := by omega
    go_enter Try.func9, Try.ntmps9
    go_wp2_with fail
    (try simp only [Exit.inBlock, Exit.then])
    refine bodyPost_ret (ret_lab3 rfl _ _ w.heap.size 0 none 0 0 rfl (heap_new_at w _ _ rfl)) rfl ?_
    exact ⟨none, 0, 0, rfl, OwnG.of_nil _ _ _ _, hb0⟩
  · have p1 : decide ((len : Int) < 2) = false := by simp; omega
    obtain ⟨b, off, rfl, hc⟩ := (hr.below hb0).at (by omega)
    have c1 := hc 1 (by omega)
    have hC := bytL_get hr.byt 1
    obtain ⟨c, hce⟩ := Int.eq_ofNat_of_zero_le hC.1
    have hcc : cntL bs = c := by show (bs.getD 1 0).toNat = c; rw [hce]; rfl
    rw [hce] at c1 hC
    rw [hcc] at h
    clear hc hce hcc
    have p2 : (len : Int) - 2 < 3 * (c : Int) := by omega
    have p3 : (1 : Int) < (len : Int) := by omega
    have p4 : 1 < len := by omega
    go_enter Try.func9, Try.ntmps9
    go_wp2_with fail
    (try simp only [Exit.inBlock, Exit.then])
    refine bodyPost_ret (ret_lab3 rfl _ _ w.heap.size 0 none 0 0 rfl (heap_new_at w _ _ rfl)) rfl ?_
    exact ⟨none, 0, 0, rfl, OwnG.of_nil _ _ _ _, hb0⟩

set_option maxHeartbeats 4000000 in
theorem refTakeL_full (a : Option Addr) (len cap : Nat) (bs : List Int) (w : World) (hr : Row w a len cap bs) (h : 2 + 3 * cntL bs ≤ len) (hbd : len ≤ 1000000) :
    Calls Try.prog 9 #[.slice a len cap] w fun e w' => ∃ so k co, e = .returned (.tuple #[.agg #[.int .u8 (tlD bs), .slice so k co], .int .i64 (tlN bs), .int .i64 (tlE bs)]) ∧ OwnG PE 42 w' w.heap.size so k co (tlP bs) ∧ Below w.heap.size w w' := by
  have hs : shortL bs = false := by simp only [shortL, decide_eq_false_iff_not, hr.len]; omega
  have HSh : Hid (shortL bs = false) := hs
  clear hs
  have hb0 := below_alloc w (.cells #[.int .u8 0, .slice none 0 0] 24)
  have hcap := hr.cap_le
  have hl : Hid (bs.length = len) := hr.len
  have p1 : decide ((len : Int) < 2) = false := by simp; omega
  obtain ⟨b, off, rfl, hc⟩ := hr.at (by omega)
  have k0 := hc 0 (by omega)
  have k1 := hc 1 (by omega)
  rw [Nat.add_zero] at k0
  have hblt : b < w.heap.size := lt_of_cell k0
  have hD := bytL_get hr.byt 0
  have hC := bytL_get hr.byt 1
  obtain ⟨c, hce⟩ := Int.eq_ofNat_of_zero_le hC.1
  have HC : Hid (cntL bs = c) := by show (bs.getD 1 0).toNat = c; rw [hce]; rfl
  rw [hce] at k1 hC
  rw [HC.out] at h
  clear hce hc
  obtain ⟨D, hDe⟩ : ∃ D, D = bs.getD 0 0 := ⟨_, rfl⟩
  rw [← hDe] at k0 hD
  have HD : Hid (bs.getD 0 0 = D) := hDe.symm
  clear hDe
  have p2 : decide ((len : Int) - 2 < 3 * (c : Int)) = false := by simp; omega
  have p3 : (1 : Int) < (len : Int) := by omega
  have p4 : 1 < len := by omega
  have p5 : (0 : Int) < (len : Int) := by omega
  have p6 : 0 < len := by omega
  have k0a := cell_old (Obj.cells #[.int .u8 0, .slice none 0 0] 24) k0
  have k1a := cell_old (Obj.cells #[.int .u8 0, .slice none 0 0] 24) k1
  obtain ⟨W0, hW0⟩ : ∃ W0, W0 = (w.alloc (.cells #[.int .u8 0, .slice none 0 0] 24)).alloc (.cells #[.int .u8 D, .slice none 0 0] 24) := ⟨_, rfl⟩
  have hG : W0.heap[w.heap.size + 1]? = some (.cells #[.int .u8 D, .slice none 0 0] 24 (0, 0)) := by rw [hW0]; exact heap_new_at _ _ _ (by simp)
  have hR : W0.heap[w.heap.size]? = some (.cells #[.int .u8 0, .slice none 0 0] 24 (0, 0)) := by rw [hW0, Below.heap_alloc _ _ _ (by simp)]; exact heap_new_at _ _ _ rfl
  have hbW : Below w.heap.size w W0 := by rw [hW0]; exact two_allocs _ _ _
  have hszW : W0.heap.size = w.heap.size + 2 := by rw [hW0]; simp
  have k1W : W0.cell? ⟨b, off + 1, none⟩ = some (.int .u8 c) := by rw [hW0]; exact cell_old _ k1a
  have HW0 : Hid (W0 = (w.alloc (.cells #[.int .u8 0, .slice none 0 0] 24)).alloc (.cells #[.int .u8 D, .slice none 0 0] 24)) := hW0
  clear hW0
  go_enter Try.func9, Try.ntmps9
  go_wp2_with fail
  rw [← HW0.out]
  clear k0 k1 k0a k1a
  go_loopw [6] (fun iv wr => ∃ (i : Nat) (so : Option Addr) (co : Nat), i ≤ c ∧ iv = .int .i64 i ∧ OutAt W0 (w.heap.size + 1) D wr so i co (decP bs i)) (fun i _ => c - (intOf i).toNat)
  case atStart => exact ⟨0, none, 0, by omega, rfl, OutAt.init hG⟩
  case round =>
    obtain ⟨i, so, co, hi, rfl, hout⟩ := hrel
    have k1r := hout.cell k1W (by simp only; omega)
    have hrr : Row wr (some ⟨b, off, none⟩) len cap bs := rowL_grown (hr.below hbW) hout.gr (fun _ x hx e => by obtain rfl := Option.some.inj hx; simp at e; omega)
    have hszr := hout.gr.size
    by_cases hlt : i < c
    case pos =>
        have hp : (i : Int) < (c : Int) := by omega
        obtain ⟨n, hn⟩ : ∃ n, n = 2 + 3 * i := ⟨_, rfl⟩
        obtain ⟨m4, hm4⟩ : ∃ m4, m4 = 4 + 3 * i := ⟨_, rfl⟩
        have hnl : n ≤ len := by omega
        have hne : ¬ cap = n := by omega
        have q1 : 2 + 3 * (i : Int) = (n : Int) := by omega
        have q2 : 4 + 3 * (i : Int) = (m4 : Int) := by omega
        have q3 : (n : Int) ≤ (len : Int) := by omega
        have q4 : (m4 : Int) < (len : Int) := by omega
        have q5 : m4 < len := by omega
        have HI : Hid (∃ i3 : Nat, IntKind.i64.wrap (3 * (i : Int)) = (i3 : Int) ∧ IntKind.i64.wrap (4 + (i3 : Int)) = (m4 : Int)) := ⟨3 * i, by rw [IntKind.wrap_i64]; omega, by rw [IntKind.wrap_i64]; omega⟩
        have hrow := rowL_tail hrr n hnl
        have ht2 := refTake_loop _ _ (cap - n) _ 2 (by omega) hrow.len (by omega) wr (fun i hi => by obtain ⟨b', off', h1, h2⟩ := hrow.at (by omega); exact ⟨b', off', h1, h2 i (by omega)⟩) hrow.byt (by omega)
        have hX := num2L_bd _ hrow.byt
        have hY := bytL_get hrow.byt 2
        have HS : Hid (decP bs (i + 1) = decP bs i ++ [(num ((bs.drop n).take 2), (bs.drop n).getD 2 0)]) := by
          have := decP_succ bs i
          rw [← hn] at this
          exact this
        obtain ⟨b', off', hb', hcl⟩ := hrr.at (by omega)
        simp only [Option.some.injEq, Addr.mk.injEq, and_true] at hb'
        obtain ⟨rfl, rfl⟩ := hb'
        have c4 := hcl m4 q5
        rw [show bs.getD m4 0 = (bs.drop n).getD 2 0 by rw [hm4, hn]; simp [List.getD, List.getElem?_drop, show 4 + 3 * i = 2 + 3 * i + 2 by omega]] at c4
        generalize num ((bs.drop n).take 2) = X at hX ht2 HS
        generalize (bs.drop n).getD 2 0 = Y at hY c4 HS
        clear hcl hrow hn hm4
        have hu : IntKind.u16.wrap X = X := by rw [IntKind.wrap_u16]; omega
        have hblt' : b ≠ w.heap.size + 1 := by omega
        obtain ⟨Wb, hWb⟩ : ∃ x, x = (wr.alloc (.cells #[.int .u16 X, .int .u8 Y] 42)).drew := ⟨_, rfl⟩
        have hout3 : OutAt W0 (w.heap.size + 1) D Wb so i co _ := hWb ▸ (hout.below (below_alloc _ _)).below (ext_drew _)
        have hrow3 : RowG PE Wb (some ⟨wr.heap.size, 0, none⟩) 1 1 [(X, Y)] := hWb ▸ (owng_lit PE _ 42 [(X, Y)] _ rfl 1 rfl (by omega) (Enc.Ok.one ⟨hX, hY⟩) _ wr.heap.size (by simp) (by omega)).row
        have hS0 : Hid (wr.drew.cell? ⟨b, off + m4, none⟩ = some (.int .u8 Y)) := c4
        have HSa : Hid (Wb.cell? ⟨b, off + m4, none⟩ = some (.int .u8 Y)) := hWb ▸ cell_old _ c4
        have hc1 : wr.cell? ⟨w.heap.size + 1, 1, none⟩ = some (.slice so i co) := hout.c1
        have hc2 : Wb.cell? ⟨w.heap.size + 1, 1, none⟩ = some (.slice so i co) := hout3.c1
        have HWb : Hid (Wb = (wr.alloc (.cells #[.int .u16 X, .int .u8 Y] 42)).drew) := hWb
        have hGne : w.heap.size + 1 ≠ wr.heap.size := by omega
        clear hWb
        have HS3 : Hid (∀ w3, Wb.grownBy w3 (Value.slice so i co).ownBlock → w3.cell? ⟨b, off + m4, none⟩ = some (.int .u8 Y)) := fun w3 hg => hg.cell HSa.out (fun e => by have := (own_block hout3.own _ e.symm).1; simp only at this; omega)
        have HS4 : Hid (∀ (w3 : World) (v : Value), w3.cell? ⟨b, off + m4, none⟩ = some (.int .u8 Y) → (w3.setCell ⟨w.heap.size + 1, 1, none⟩ v).cell? ⟨b, off + m4, none⟩ = some (.int .u8 Y)) := fun w3 v h => by rw [World.cell?_setCell_far _ _ _ _ (by simp only; omega)]; exact h
        have hil : i ≤ 1000000 := by omega
        clear c4
        go_wp2_with fail
        refine ht2.mono ?_
        rintro e w2 ⟨rfl, rfl⟩
        go_wp2_with fail
        obtain ⟨i3, x1, x2⟩ := HI.out
        refine wp_region_noPanic ?_
        refine wp_region_held_drew (S := fun W => W.cell? ⟨b, off + m4, none⟩ = some (.int .u8 Y)) (by kernel_rfl) hS0.out fun hS => ?_
        refine take_to (i := 0) (v := ?_) 45 rfl rfl (by kernel_rfl) (by kernel_rfl) (by kernel_rfl) (fun _ _ _ h => h) (Or.inl ⟨by rfl, ?_⟩) hS ?_
        rotate_left
        · intro W hW
          go_simp
          try with_reducible rfl
        simp only [List.setIfInBounds_toArray, List.set_cons_zero, List.set_cons_succ]
        refine take_to (i := 2) (v := ?_) 47 rfl rfl (by kernel_rfl) (by kernel_rfl) (by kernel_rfl) (fun _ _ _ h => h) (Or.inl ⟨by rfl, ?_⟩) hS ?_
        rotate_left
        · intro W hW
          go_simp
          try with_reducible rfl
        simp only [List.setIfInBounds_toArray, List.set_cons_zero, List.set_cons_succ]
        refine take_to (i := 3) (v := ?_) 48 rfl rfl (by kernel_rfl) (by kernel_rfl) (by kernel_rfl) (fun _ _ _ h => h) (Or.inl ⟨by rfl, ?_⟩) hS ?_
        rotate_left
        · intro W hW
          go_simp
          try with_reducible rfl
        simp only [List.setIfInBounds_toArray, List.set_cons_zero, List.set_cons_succ]
        refine take_to (i := 4) (v := ?_) 49 rfl rfl (by kernel_rfl) (by kernel_rfl) (by kernel_rfl) (fun _ _ _ h => h) (Or.inl ⟨by rfl, ?_⟩) hS ?_
        rotate_left
        · intro W hW
          go_simp
          try with_reducible rfl
        simp only [List.setIfInBounds_toArray, List.set_cons_zero, List.set_cons_succ]
        refine take_to (i := 5) (v := ?_) 50 rfl rfl (by kernel_rfl) (by kernel_rfl) (by kernel_rfl) (fun _ _ _ h => h) (Or.inl ⟨by rfl, ?_⟩) hS ?_
        rotate_left
        · intro W hW
          go_simp
          try with_reducible rfl
        simp only [List.setIfInBounds_toArray, List.set_cons_zero, List.set_cons_succ]
        refine take_to (i := 6) (v := ?_) 51 rfl rfl (by kernel_rfl) (by kernel_rfl) (by kernel_rfl) (fun _ _ _ h => h) (Or.inl ⟨by rfl, ?_⟩) hS ?_
        rotate_left
        · intro W hW
          go_simp
          try with_reducible rfl
        simp only [List.setIfInBounds_toArray, List.set_cons_zero, List.set_cons_succ]
        refine take_to (i := 7) (v := ?_) 52 rfl rfl (by kernel_rfl) (by kernel_rfl) (by kernel_rfl) (fun _ _ _ h => h) (Or.inl ⟨by rfl, ?_⟩) hS ?_
        rotate_left
        · intro W hW
          go_simp
          try with_reducible rfl
        simp only [List.setIfInBounds_toArray, List.set_cons_zero, List.set_cons_succ]
        refine take_to (i := 8) (v := ?_) 53 rfl rfl (by kernel_rfl) (by kernel_rfl) (by kernel_rfl) (fun _ _ _ h => h) (Or.inl ⟨by rfl, ?_⟩) hS ?_
        rotate_left
        · intro W hW
          go_simp
          try with_reducible rfl
        simp only [List.setIfInBounds_toArray, List.set_cons_zero, List.set_cons_succ]
        refine take_to (i := 9) (v := ?_) 54 rfl rfl (by kernel_rfl) (by kernel_rfl) (by kernel_rfl) (fun _ _ _ h => h) (Or.inl ⟨by rfl, ?_⟩) hS ?_
        rotate_left
        · intro W hW
          go_simp
          try with_reducible rfl
        simp only [List.setIfInBounds_toArray, List.set_cons_zero, List.set_cons_succ]
        refine take_to (i := 10) (v := ?_) 55 rfl rfl (by kernel_rfl) (by kernel_rfl) (by kernel_rfl) (fun _ _ _ h => h) (Or.inl ⟨by rfl, ?_⟩) hS ?_
        rotate_left
        · intro W hW
          go_simp
          try with_reducible rfl
        simp only [List.setIfInBounds_toArray, List.set_cons_zero, List.set_cons_succ]
        refine wpAnyH_ready (rs := [1, 11]) (by kernel_rfl) (by simp) ?_
        refine AllReadyH.cons rfl (fun K hK => ?_) (AllReadyH.cons rfl (fun K hK => ?_) AllReadyH.nil)
        · go_simp
          refine hK.out _ _ hS fun _ => ?_
          clear hK K
          refine wpAnyH_ready (rs := [11]) (by kernel_rfl) (by simp) ?_
          refine AllReadyH.cons rfl (fun K hK => ?_) AllReadyH.nil
          go_simp
          rw [← HWb.out]
          refine hK.out _ _ HSa.out fun _ => ?_
          clear hK K
          refine wpAnyH_ready (rs := [12]) (by kernel_rfl) (by simp) ?_
          refine AllReadyH.cons rfl (fun K hK => ?_) AllReadyH.nil
          refine Eq.mpr (if_pos (by kernel_rfl)) ?_
          refine op_append_g (E := PE) _ (.tmp 46) (.tmp 56) 22 rfl 42 Try.underlying22 (.agg #[.int .u16 0, .int .u8 0]) 4 info29 rfl (by omega) W0.heap.size i co so _ rfl hout3.own (some ⟨w2.heap.size, 0, none⟩) 1 1 [(X, Y)] rfl hrow3 (by omega) hout3.gr.size _ (Below.refl _ _) ?_
          intro so' co' w3 hown3 _ hg3
          obtain ⟨_, _, m1, m2, m3⟩ := hout3.mid hg3
          have hS3 := HS3.out w3 hg3
          refine hK.out _ _ hS3 fun _ => ?_
          clear hK K
          refine wpAnyH_ready (rs := [13]) (by kernel_rfl) (by simp) ?_
          refine AllReadyH.cons rfl (fun K hK => ?_) AllReadyH.nil
          go_simp
          refine hK.out _ _ hS3 fun _ => ?_
          clear hK K
          refine wpAnyH_ready (rs := [14]) (by kernel_rfl) (by simp) ?_
          refine AllReadyH.cons rfl (fun K hK => ?_) AllReadyH.nil
          go_simp
          have hout4 := hout3.store hg3 hown3
          refine hK.out _ _ (HS4.out _ _ hS3) fun _ => ?_
          clear hK K
          refine wpAnyH_done (by kernel_rfl) ?_ _
          refine NoPanic.normal ?_
          go_wp2_with fail
          go_roundw
          case rel =>
            refine ⟨i + 1, so', co', by omega, by go_num, ?_⟩
            rw [HS.out]
            exact hout4
          case measure => simp [intOf]; omega
        · go_simp
          rw [← HWb.out]
          refine hK.out _ _ HSa.out fun _ => ?_
          clear hK K
          refine wpAnyH_ready (rs := [1]) (by kernel_rfl) (by simp) ?_
          refine AllReadyH.cons rfl (fun K hK => ?_) AllReadyH.nil
          go_simp
          refine hK.out _ _ HSa.out fun _ => ?_
          clear hK K
          refine wpAnyH_ready (rs := [12]) (by kernel_rfl) (by simp) ?_
          refine AllReadyH.cons rfl (fun K hK => ?_) AllReadyH.nil
          refine Eq.mpr (if_pos (by kernel_rfl)) ?_
          refine op_append_g (E := PE) _ (.tmp 46) (.tmp 56) 22 rfl 42 Try.underlying22 (.agg #[.int .u16 0, .int .u8 0]) 4 info29 rfl (by omega) W0.heap.size i co so _ rfl hout3.own (some ⟨w2.heap.size, 0, none⟩) 1 1 [(X, Y)] rfl hrow3 (by omega) hout3.gr.size _ (Below.refl _ _) ?_
          intro so' co' w3 hown3 _ hg3
          obtain ⟨_, _, m1, m2, m3⟩ := hout3.mid hg3
          have hS3 := HS3.out w3 hg3
          refine hK.out _ _ hS3 fun _ => ?_
          clear hK K
          refine wpAnyH_ready (rs := [13]) (by kernel_rfl) (by simp) ?_
          refine AllReadyH.cons rfl (fun K hK => ?_) AllReadyH.nil
          go_simp
          refine hK.out _ _ hS3 fun _ => ?_
          clear hK K
          refine wpAnyH_ready (rs := [14]) (by kernel_rfl) (by simp) ?_
          refine AllReadyH.cons rfl (fun K hK => ?_) AllReadyH.nil
          go_simp
          have hout4 := hout3.store hg3 hown3
          refine hK.out _ _ (HS4.out _ _ hS3) fun _ => ?_
          clear hK K
          refine wpAnyH_done (by kernel_rfl) ?_ _
          refine NoPanic.normal ?_
          go_wp2_with fail
          go_roundw
          case rel =>
            refine ⟨i + 1, so', co', by omega, by go_num, ?_⟩
            rw [HS.out]
            exact hout4
          case measure => simp [intOf]; omega
    case neg =>
        obtain rfl : i = c := by omega
        have hm := refMay_any D so i co _ wr hout.own.row
        have c0 := hout.c0
        have c1 := hout.c1
        cases hmm : mayB D (decP bs i)
        · have TT : Hid (_ ∧ _) := tl_form HSh.out (by rw [HC.out, HD.out]; exact hmm)
          rw [hmm] at hm
          clear hmm
          go_wp2_with fail
          refine hm.mono ?_
          rintro e w2 ⟨rfl, hb2⟩
          have hout2 := hout.below hb2
          have hRr := hout2.heap hR (by omega)
          have r0 := cell_of_heap hRr 0 _ rfl
          have r1 := cell_of_heap hRr 1 _ rfl
          have f0 : w2.frozen? ⟨w.heap.size, 0, none⟩ = false := frozen_of_row w2 _ 0 _ 24 hRr
          have f1 : w2.frozen? ⟨w.heap.size, 1, none⟩ = false := frozen_of_row w2 _ 1 _ 24 hRr
          have hbw2 : Below w.heap.size w w2 := ext_trans (hbW.trans (below_of_grown hout.gr (by omega) (fun x hx => by simp at hx; omega))) hb2
          go_wp2_with fail
          (try simp only [Exit.inBlock, Exit.then])
          obtain ⟨e1, o1, b1⟩ := ret_store (D := 0) (so := none) (no := 0) (co := 0) hRr (Nat.le_refl _) (by omega) hbw2 (OwnG.of_nil PE 42 w2 W0.heap.size)
          refine bodyPost_ret (ret_lab3 rfl _ _ w.heap.size 0 none 0 0 rfl e1) rfl ?_
          exact ⟨none, 0, 0, by rw [TT.out.1, TT.out.2.1, TT.out.2.2.1]; rfl, by rw [TT.out.2.2.2]; exact o1, b1⟩
        · have TT : Hid (_ ∧ _) := tl_full HSh.out (by rw [HC.out, HD.out]; exact hmm)
          rw [hmm] at hm
          clear hmm
          obtain ⟨n, hn⟩ : ∃ n, n = 2 + 3 * i := ⟨_, rfl⟩
          have q1 : 2 + 3 * (i : Int) = (n : Int) := by omega
          have HN : Hid (2 + 3 * (i : Int) = (n : Int)) := q1
          have HI : Hid (∃ i3 : Nat, IntKind.i64.wrap (3 * (i : Int)) = (i3 : Int) ∧ IntKind.i64.wrap (2 + (i3 : Int)) = (n : Int)) := ⟨3 * i, by rw [IntKind.wrap_i64]; omega, by rw [IntKind.wrap_i64]; omega⟩
          clear hn
          go_wp2_with fail
          refine hm.mono ?_
          rintro e w2 ⟨rfl, hb2⟩
          have hout2 := hout.below hb2
          have d0 := hout2.c0
          have d1 := hout2.c1
          have hRr := hout2.heap hR (by omega)
          have r0 := cell_of_heap hRr 0 _ rfl
          have r1 := cell_of_heap hRr 1 _ rfl
          have f0 : w2.frozen? ⟨w.heap.size, 0, none⟩ = false := frozen_of_row w2 _ 0 _ 24 hRr
          have f1 : w2.frozen? ⟨w.heap.size, 1, none⟩ = false := frozen_of_row w2 _ 1 _ 24 hRr
          have hout5 := hout2.below (ext_drew _)
          obtain ⟨e1, e2, e3⟩ := hout5.ret hR (by omega) (Nat.le_refl _) (by omega) hbW
          have HS6 : Hid (∀ (V : World) (v v' : Value), (V.cell? ⟨w.heap.size + 1, 0, none⟩ = some (.int .u8 D) ∧ V.cell? ⟨w.heap.size + 1, 1, none⟩ = some (.slice so i co)) → ((V.setCell ⟨w.heap.size, 0, none⟩ v).setCell ⟨w.heap.size, 1, none⟩ v').cell? ⟨w.heap.size + 1, 0, none⟩ = some (.int .u8 D) ∧ ((V.setCell ⟨w.heap.size, 0, none⟩ v).setCell ⟨w.heap.size, 1, none⟩ v').cell? ⟨w.heap.size + 1, 1, none⟩ = some (.slice so i co)) := fun V v v' h => by
            constructor
            · rw [World.cell?_setCell_far _ _ _ _ (by simp only; omega), World.cell?_setCell_far _ _ _ _ (by simp only; omega)]; exact h.1
            · rw [World.cell?_setCell_far _ _ _ _ (by simp only; omega), World.cell?_setCell_far _ _ _ _ (by simp only; omega)]; exact h.2
          go_wp2_with fail
          obtain ⟨i3, x1, x2⟩ := HI.out
          refine wp_region_noPanic ?_
          refine wp_region_held_drew (S := fun W => W.cell? ⟨w.heap.size + 1, 0, none⟩ = some (.int .u8 D) ∧ W.cell? ⟨w.heap.size + 1, 1, none⟩ = some (.slice so i co)) (by kernel_rfl) ⟨d0, d1⟩ fun hS => ?_
          refine take_to (i := 0) (v := ?_) 63 rfl rfl (by kernel_rfl) (by kernel_rfl) (by kernel_rfl) (fun _ _ _ h => h) (Or.inl ⟨by rfl, ?_⟩) hS ?_
          rotate_left
          · intro W hW
            obtain ⟨s0, s1⟩ := hW
            go_simp
            try with_reducible rfl
          simp only [List.setIfInBounds_toArray, List.set_cons_zero, List.set_cons_succ]
          refine take_to (i := 1) (v := ?_) 64 rfl rfl (by kernel_rfl) (by kernel_rfl) (by kernel_rfl) (fun _ _ _ h => h) (Or.inl ⟨by rfl, ?_⟩) hS ?_
          rotate_left
          · intro W hW
            obtain ⟨s0, s1⟩ := hW
            go_simp
            try with_reducible rfl
          simp only [List.setIfInBounds_toArray, List.set_cons_zero, List.set_cons_succ]
          refine take_to (i := 2) (v := ?_) 65 rfl rfl (by kernel_rfl) (by kernel_rfl) (by kernel_rfl) (fun _ _ _ h => h) (Or.inl ⟨by rfl, ?_⟩) hS ?_
          rotate_left
          · intro W hW
            obtain ⟨s0, s1⟩ := hW
            go_simp
            try with_reducible rfl
          simp only [List.setIfInBounds_toArray, List.set_cons_zero, List.set_cons_succ]
          refine take_to (i := 3) (v := ?_) 66 rfl rfl (by kernel_rfl) (by kernel_rfl) (by kernel_rfl) (fun _ _ _ h => h) (Or.inl ⟨by rfl, ?_⟩) hS ?_
          rotate_left
          · intro W hW
            obtain ⟨s0, s1⟩ := hW
            go_simp
            try with_reducible rfl
          simp only [List.setIfInBounds_toArray, List.set_cons_zero, List.set_cons_succ]
          refine take_to (i := 4) (v := ?_) 67 rfl rfl (by kernel_rfl) (by kernel_rfl) (by kernel_rfl) (fun _ _ _ h => h) (Or.inl ⟨by rfl, ?_⟩) hS ?_
          rotate_left
          · intro W hW
            obtain ⟨s0, s1⟩ := hW
            go_simp
            try with_reducible rfl
          simp only [List.setIfInBounds_toArray, List.set_cons_zero, List.set_cons_succ]
          refine take_to (i := 5) (v := ?_) 68 rfl rfl (by kernel_rfl) (by kernel_rfl) (by kernel_rfl) (fun _ _ _ h => h) (Or.inl ⟨by rfl, ?_⟩) hS ?_
          rotate_left
          · intro W hW
            obtain ⟨s0, s1⟩ := hW
            go_simp
            try with_reducible rfl
          simp only [List.setIfInBounds_toArray, List.set_cons_zero, List.set_cons_succ]
          refine wpAnyH_ready (rs := [6]) (by kernel_rfl) (by simp) ?_
          refine AllReadyH.cons rfl (fun K hK => ?_) AllReadyH.nil
          go_simp
          refine hK.out _ _ (HS6.out _ _ _ hS) fun _ => ?_
          clear hK K
          refine take_to (i := 7) (v := ?_) 3 rfl rfl (by kernel_rfl) (by kernel_rfl) (by kernel_rfl) (fun _ _ _ h => h) (Or.inl ⟨by rfl, ?_⟩) (HS6.out _ _ _ hS) ?_
          rotate_left
          · intro W hW
            go_simp
            try with_reducible rfl
          simp only [List.setIfInBounds_toArray, List.set_cons_zero, List.set_cons_succ]
          refine take_to (i := 8) (v := ?_) 4 rfl rfl (by kernel_rfl) (by kernel_rfl) (by kernel_rfl) (fun _ _ _ h => h) (Or.inl ⟨by rfl, ?_⟩) (HS6.out _ _ _ hS) ?_
          rotate_left
          · intro W hW
            go_simp
            try with_reducible rfl
          simp only [List.setIfInBounds_toArray, List.set_cons_zero, List.set_cons_succ]
          refine wpAnyH_done (by kernel_rfl) ?_ _
          refine NoPanic.normal ?_
          go_wp2_with fail
          (try simp only [Exit.inBlock, Exit.then])
          refine bodyPost_ret (ret_lab3 rfl _ _ w.heap.size D so i co rfl e1) rfl ?_
          exact ⟨so, i, co, by rw [TT.out.1, TT.out.2.1, TT.out.2.2.1, HC.out, HD.out, HN.out]; rfl, by rw [TT.out.2.2.2, HC.out]; exact e2, e3⟩

theorem refTakeL_any : LTake 9 := fun a len cap bs w hr hbd => by
  by_cases h : len < 2 + 3 * cntL bs
  · exact refTakeL_short a len cap bs w hr h hbd
  · exact refTakeL_full a len cap bs w hr (by omega) hbd
end Go.Proofs.Ytilgijmclmkboaa
