/- What the document's own Make of a list of categories is: a contract, for every list. -/
import Derived.Test.YtdoemkncgfgkhaaMerge
import Derived.Test.YtdoemkncgfgkhaaRegion
namespace Go.Proofs.Ytdoemkncgfgkhaa
open Go.RowKit
set_option maxRecDepth 100000

theorem mem_take_succ {xs : List Int} {i : Nat} (hi : i < xs.length) {x : Int} : x ∈ xs.take (i + 1) ↔ x ∈ xs.take i ∨ x = xs.getD i 0 := by
  rw [List.take_succ_eq_append_getElem hi, List.mem_append, List.mem_singleton, getD_eq hi]
theorem ownw_lit_at (w : World) (g : Nat) (hg : w.heap.size = g) (e : TypeId) (xs : List Int) (n : Nat) (hn : xs.length = n) (hm : n ≤ 9223372036854775807) (hb : Wrd xs) {B : Nat} (hB : B ≤ w.heap.size) : OwnW e (w.alloc (.cells (xs.map (Value.int .u16)).toArray e)) B (some ⟨g, 0, none⟩) n n xs := by
  subst hg; exact (ownw_lit w e xs n hn hm hb).mono hB
theorem roww_lit_at (w : World) (g : Nat) (hg : w.heap.size = g) (e : TypeId) (xs : List Int) (n : Nat) (hn : xs.length = n) (hm : n ≤ 9223372036854775807) (hb : Wrd xs) : RowW (w.alloc (.cells (xs.map (Value.int .u16)).toArray e)) (some ⟨g, 0, none⟩) n n xs := by
  subst hg; exact roww_lit w e xs n hn hm hb

set_option maxHeartbeats 4000000 in
theorem refMake_any (a : Option Addr) (n cap : Nat) (xs : List Int) (w : World) (hr : RowW w a n cap xs) (hbd : n ≤ 35184372088832) :
    Calls Try.prog 66 #[.slice a n cap] w fun e w' => ∃ so k co zs, e = .returned (.slice so k co) ∧ OwnW 38 w' w.heap.size so k co zs ∧ Below w.heap.size w w' ∧ Srt zs ∧ (∀ x, x ∈ zs ↔ x ∈ xs) ∧ k ≤ n := by
  have hl : Hid (xs.length = n) := hr.len
  have hcap := hr.cap_le
  go_enter Try.func66, Try.ntmps66
  go_wp2_with fail
  go_loopw [3, 4] (fun o iv wr => ∃ (i : Nat) (so : Option Addr) (no co : Nat) (zs : List Int), i ≤ n ∧ o = .slice so no co ∧ iv = .int .i64 i ∧ OwnW 38 wr w.heap.size so no co zs ∧ Below w.heap.size w wr ∧ Srt zs ∧ (∀ x, x ∈ zs ↔ x ∈ xs.take i) ∧ no ≤ i) (fun _ i _ => n - (intOf i).toNat)
  case atStart => exact ⟨0, none, 0, 0, [], by omega, rfl, rfl, OwnW.of_nil _ _ _, Below.refl _ _, Srt.nil, by simp, by omega⟩
  case round =>
    obtain ⟨i, so, no, co, zs, hi, rfl, rfl, hown, hbel, hsrt, hmem, hno⟩ := hrel
    have hlz : Hid (zs.length = no) := hown.1
    have hco := hown.row.cap_le
    by_cases hlt : i < n
    · have hp : (i : Int) < (n : Int) := by omega
      obtain ⟨b, off, rfl, hc⟩ := (hr.below hbel).at (by omega)
      have c1 := hc i hlt
      generalize hX : xs.getD i 0 = X at c1
      have HX : Hid (xs.getD i 0 = X) := hX
      have HXb : 0 ≤ X ∧ X < 65536 := by rw [← hX]; exact hr.wrd.get i
      clear hX hc
      go_wp2_with fail
      obtain ⟨wo, rfl⟩ : ∃ x, x = wr := ⟨_, rfl⟩
      go_loopw [5] (fun kv wi => ∃ k : Nat, k ≤ no ∧ kv = .int .i64 k ∧ Below wo.heap.size wo wi ∧ (∀ j, j < k → zs.getD j 0 < X)) (fun kv _ => no - (intOf kv).toNat)
      case atStart => exact ⟨0, by omega, rfl, Below.refl _ _, fun j h => by omega⟩
      case round =>
        obtain ⟨k, hk, rfl, hbi, hlo⟩ := hrel
        have c1i : wr.cell? ⟨b, off + i, none⟩ = some (.int .u16 X) := by rw [hbi.cell (lt_of_cell c1)]; exact c1
        by_cases hkn : k < no
        · have hp2 : (k : Int) < (no : Int) := by omega
          obtain ⟨g, goff, rfl, hcz⟩ := (hown.row.below hbi).at (by omega)
          have c2 := hcz k hkn
          generalize hY : zs.getD k 0 = Y at c2
          have HY : Hid (zs.getD k 0 = Y) := hY
          clear hY hcz
          by_cases hYX : Y < X
          · go_wp2
            go_quiet (fail)
            go_wp2
            go_roundw
            case rel =>
              refine ⟨k + 1, by omega, by go_num, bel_drewN hbi _, fun j hj => ?_⟩
              by_cases hjk : j < k
              · exact hlo j hjk
              · obtain rfl : j = k := by omega
                rw [HY.out]; exact hYX
            case measure => simp [intOf]; omega
          · have hYX' : decide (Y < X) = false := by simpa using hYX
            have hpe : ((k : Int) == (no : Int)) = false := by simp; omega
            by_cases hE : Y = X
            · subst hE
              go_wp2
              go_quiet (fail)
              obtain ⟨nq1, rfl⟩ : ∃ x, x = nq := ⟨_, rfl⟩
              go_wp2
              go_quiet (fail)
              go_wp2
              go_roundw
              case rel =>
                have hbw : Below wo.heap.size wo (wr.drewN (nq1 + nq)) := bel_drewN hbi _
                refine ⟨i + 1, _, no, co, zs, by omega, rfl, by go_num, hown.below hbw, ext_trans hbel hbw, hsrt, fun x => ?_, by omega⟩
                rw [mem_take_succ (by rw [hl.out]; exact hlt), HX.out, ← hmem]
                refine ⟨Or.inl, fun h => h.elim id (fun e => ?_)⟩
                rw [e]
                exact mem_getD.2 ⟨k, by rw [hlz.out]; exact hkn, HY.out⟩
              case measure => simp [intOf]; omega
            · have hE' : (Y == X) = false := by simpa using hE
              have hhi : Hid (k < no → X < zs.getD k 0) := fun _ => by rw [HY.out]; omega
              have hk1 : k ≤ co := by omega
              have hk2 : (k : Int) ≤ (co : Int) := by omega
              have hk3 : (k : Int) ≤ (no : Int) := by omega
              have hk4 : ¬ co = k := by omega
              go_wp2
              go_quiet (fail)
              obtain ⟨nq1, rfl⟩ : ∃ x, x = nq := ⟨_, rfl⟩
              go_wp2
              go_quiet (fail)
              go_wp2_with fail
              have hSat : Hid (∀ W, Below wr.heap.size wr W → RowW W (some ⟨g, goff, none⟩) no co zs ∧ W.cell? ⟨b, off + i, none⟩ = some (.int .u16 X)) := fun W h => ⟨(hown.row.below hbi).below h, by rw [h.cell (lt_of_cell c1i)]; exact c1i⟩
              refine wp_region_noPanic ?_
              refine wp_region_held_drew (S := fun W => RowW W (some ⟨g, goff, none⟩) no co zs ∧ W.cell? ⟨b, off + i, none⟩ = some (.int .u16 X)) (by kernel_rfl) (hSat.out _ (Below.drew (bel_drewN (bel_drewN (Below.refl _ _) _) _))) fun hS => ?_
              refine take_to (i := 1) (v := ?_) 45 rfl rfl (by kernel_rfl) (by kernel_rfl) (by kernel_rfl) (fun _ _ _ h => h) (Or.inl ⟨by rfl, ?_⟩) hS ?_
              rotate_left
              · intro W hW
                go_simp
                try with_reducible rfl
              simp only [List.setIfInBounds_toArray, List.set_cons_zero, List.set_cons_succ]
              refine take_to (i := 2) (v := ?_) 46 rfl rfl (by kernel_rfl) (by kernel_rfl) (by kernel_rfl) (fun _ _ _ h => h) (Or.inl ⟨by rfl, ?_⟩) hS ?_
              rotate_left
              · intro W hW
                go_simp
                try with_reducible rfl
              simp only [List.setIfInBounds_toArray, List.set_cons_zero, List.set_cons_succ]
              refine take_to (i := 3) (v := ?_) 47 rfl rfl (by kernel_rfl) (by kernel_rfl) (by kernel_rfl) (fun _ _ _ h => h) (Or.inl ⟨by rfl, ?_⟩) hS ?_
              rotate_left
              · intro W hW
                go_simp
                try with_reducible rfl
              simp only [List.setIfInBounds_toArray, List.set_cons_zero, List.set_cons_succ]
              refine take_to (i := 5) (v := ?_) 49 rfl rfl (by kernel_rfl) (by kernel_rfl) (by kernel_rfl) (fun _ _ _ h => h) (Or.inl ⟨by rfl, ?_⟩) hS ?_
              rotate_left
              · intro W hW
                go_simp
                try with_reducible rfl
              simp only [List.setIfInBounds_toArray, List.set_cons_zero, List.set_cons_succ]
              refine take_to (i := 6) (v := ?_) 50 rfl rfl (by kernel_rfl) (by kernel_rfl) (by kernel_rfl) (fun _ _ _ h => h) (Or.inl ⟨by rfl, ?_⟩) hS ?_
              rotate_left
              · intro W hW
                go_simp
                try with_reducible rfl
              simp only [List.setIfInBounds_toArray, List.set_cons_zero, List.set_cons_succ]
              refine take_to (i := 7) (v := ?_) 51 rfl rfl (by kernel_rfl) (by kernel_rfl) (by kernel_rfl) (fun _ _ _ h => h) (Or.inl ⟨by rfl, ?_⟩) hS ?_
              rotate_left
              · intro W hW
                go_simp
                try with_reducible rfl
              simp only [List.setIfInBounds_toArray, List.set_cons_zero, List.set_cons_succ]
              refine take_to (i := 8) (v := ?_) 52 rfl rfl (by kernel_rfl) (by kernel_rfl) (by kernel_rfl) (fun _ _ _ h => h) (Or.inl ⟨by rfl, ?_⟩) hS ?_
              rotate_left
              · intro W hW
                have hcX := hW.2
                go_simp
                try with_reducible rfl
              simp only [List.setIfInBounds_toArray, List.set_cons_zero, List.set_cons_succ]
              refine take_to (i := 11) (v := ?_) 55 rfl rfl (by kernel_rfl) (by kernel_rfl) (by kernel_rfl) (fun _ _ _ h => h) (Or.inl ⟨by rfl, ?_⟩) hS ?_
              rotate_left
              · intro W hW
                go_simp
                try with_reducible rfl
              simp only [List.setIfInBounds_toArray, List.set_cons_zero, List.set_cons_succ]
              refine take_to (i := 12) (v := ?_) 56 rfl rfl (by kernel_rfl) (by kernel_rfl) (by kernel_rfl) (fun _ _ _ h => h) (Or.inl ⟨by rfl, ?_⟩) hS ?_
              rotate_left
              · intro W hW
                go_simp
                try with_reducible rfl
              simp only [List.setIfInBounds_toArray, List.set_cons_zero, List.set_cons_succ]
              refine take_to (i := 13) (v := ?_) 57 rfl rfl (by kernel_rfl) (by kernel_rfl) (by kernel_rfl) (fun _ _ _ h => h) (Or.inl ⟨by rfl, ?_⟩) hS ?_
              rotate_left
              · intro W hW
                go_simp
                try with_reducible rfl
              simp only [List.setIfInBounds_toArray, List.set_cons_zero, List.set_cons_succ]
              
              have hbz : Below wr.heap.size wr (wr.drewN (nq1 + nq + 1)) := bel_drewN (Below.refl _ _) _
              refine wpAnyH_ready (rs := [0, 9]) (by kernel_rfl) (by simp) ?_
              refine AllReadyH.cons rfl (fun K hK => ?_) (AllReadyH.cons rfl (fun K hK => ?_) AllReadyH.nil)
              · go_simp
                have h0_0 : Below wr.heap.size wr ((wr.drewN (nq1 + nq + 1)).alloc (.cells #[] 38)) := hbz.alloc hbz.size _
                refine hK.out _ _ (hSat.out _ h0_0) fun _ => ?_
                clear hK K
                have o0 : OwnW 38 ((wr.drewN (nq1 + nq + 1)).alloc (.cells #[] 38)) wr.heap.size (some ⟨wr.heap.size, 0, none⟩) 0 0 [] := ownw_lit_at _ _ (by simp) 38 [] 0 rfl (by omega) Wrd.nil (by simp)
                refine wpAnyH_ready (rs := [4, 9]) (by kernel_rfl) (by simp) ?_
                refine AllReadyH.cons rfl (fun K hK => ?_) (AllReadyH.cons rfl (fun K hK => ?_) AllReadyH.nil)
                · refine Eq.mpr (if_pos (by kernel_rfl)) ?_
                  refine op_append_words_g _ (.tmp 44) (.tmp 47) 25 rfl 38 Try.underlying25 info27 wr.heap.size 0 0 _ [] rfl o0 (some ⟨g, goff, none⟩) k co (zs.take k) rfl (((hSat.out _ h0_0).1).pre k hk) (by omega) h0_0.size wr h0_0 ?_
                  intro s4 c4 w4_1 o4 h4_1 g4
                  refine hK.out _ _ (hSat.out _ h4_1) fun _ => ?_
                  clear hK K
                  rw [Nat.zero_add, List.nil_append] at o4
                  refine wpAnyH_ready (rs := [9]) (by kernel_rfl) (by simp) ?_
                  refine AllReadyH.cons rfl (fun K hK => ?_) AllReadyH.nil
                  go_simp
                  have h9_2 : Below wr.heap.size wr (w4_1.alloc (.cells #[Value.int .u16 X] 38)) := h4_1.alloc h4_1.size _
                  refine hK.out _ _ (hSat.out _ h9_2) fun _ => ?_
                  clear hK K
                  replace o4 := o4.below (below_alloc _ (.cells #[Value.int .u16 X] 38))
                  have r9 : RowW (w4_1.alloc (.cells #[Value.int .u16 X] 38)) (some ⟨w4_1.heap.size, 0, none⟩) 1 1 [X] := roww_lit_at _ _ (by simp) 38 [X] 1 rfl (by omega) (Wrd.one HXb)
                  refine wpAnyH_ready (rs := [10]) (by kernel_rfl) (by simp) ?_
                  refine AllReadyH.cons rfl (fun K hK => ?_) AllReadyH.nil
                  refine Eq.mpr (if_pos (by kernel_rfl)) ?_
                  refine op_append_words _ (.tmp 48) (.tmp 53) 25 rfl 38 Try.underlying25 info27 wr.heap.size _ c4 s4 _ rfl o4 _ 1 1 [X] rfl r9 (by omega) h9_2.size wr h9_2 ?_
                  intro s10 c10 w10 o10 h10_3
                  refine hK.out _ _ (hSat.out _ h10_3) fun _ => ?_
                  clear hK K
                  refine wpAnyH_ready (rs := [14]) (by kernel_rfl) (by simp) ?_
                  refine AllReadyH.cons rfl (fun K hK => ?_) AllReadyH.nil
                  refine Eq.mpr (if_pos (by kernel_rfl)) ?_
                  refine op_append_words _ (.tmp 54) (.tmp 57) 25 rfl 38 Try.underlying25 info27 wr.heap.size _ c10 s10 _ rfl o10 _ _ _ (zs.drop k) rfl ((hSat.out _ h10_3).1.tail k hk) (by omega) h10_3.size wr h10_3 ?_
                  intro s14 c14 w14 o14 h14_4
                  refine hK.out _ _ (hSat.out _ h14_4) fun _ => ?_
                  clear hK K
                  refine wpAnyH_ready (rs := [15]) (by kernel_rfl) (by simp) ?_
                  refine AllReadyH.cons rfl (fun K hK => ?_) AllReadyH.nil
                  go_simp
                  refine hK.out _ _ (hSat.out _ h14_4) fun _ => ?_
                  clear hK K
                  try simp only [Nat.zero_add, List.nil_append] at o14
                  refine wpAnyH_done (by kernel_rfl) ?_ _
                  refine NoPanic.normal ?_
                  go_wp2_with fail
                  go_roundw
                  case rel =>
                    have hins := ins_place hsrt (x := X) (k := k) (by rw [hlz.out]; exact hk) hlo (fun h => hhi.out (by rw [← hlz.out]; exact h))
                    refine ⟨i + 1, s14, _, c14, zs.take k ++ [X] ++ zs.drop k, by omega, rfl, by go_num, o14.mono (Nat.le_trans hbel.size hbi.size), ext_trans (ext_trans hbel hbi) h14_4, hins.1, fun x => ?_, by omega⟩
                    rw [hins.2, mem_take_succ (by rw [hl.out]; exact hlt), HX.out, hmem]
                    exact Or.comm
                  case measure => simp [intOf]; omega
                · go_simp
                  have h9_1 : Below wr.heap.size wr (((wr.drewN (nq1 + nq + 1)).alloc (.cells #[] 38)).alloc (.cells #[Value.int .u16 X] 38)) := h0_0.alloc h0_0.size _
                  refine hK.out _ _ (hSat.out _ h9_1) fun _ => ?_
                  clear hK K
                  replace o0 := o0.below (below_alloc _ (.cells #[Value.int .u16 X] 38))
                  have r9 : RowW (((wr.drewN (nq1 + nq + 1)).alloc (.cells #[] 38)).alloc (.cells #[Value.int .u16 X] 38)) (some ⟨(wr.heap.size + 1), 0, none⟩) 1 1 [X] := roww_lit_at _ _ (by simp) 38 [X] 1 rfl (by omega) (Wrd.one HXb)
                  refine wpAnyH_ready (rs := [4]) (by kernel_rfl) (by simp) ?_
                  refine AllReadyH.cons rfl (fun K hK => ?_) AllReadyH.nil
                  refine Eq.mpr (if_pos (by kernel_rfl)) ?_
                  refine op_append_words_g _ (.tmp 44) (.tmp 47) 25 rfl 38 Try.underlying25 info27 wr.heap.size 0 0 _ [] rfl o0 (some ⟨g, goff, none⟩) k co (zs.take k) rfl (((hSat.out _ h9_1).1).pre k hk) (by omega) h9_1.size wr h9_1 ?_
                  intro s4 c4 w4_2 o4 h4_2 g4
                  refine hK.out _ _ (hSat.out _ h4_2) fun _ => ?_
                  clear hK K
                  replace r9 := r9.grown g4 (by intro x hx; cases hx; simp [Value.ownBlock])
                  refine wpAnyH_ready (rs := [10]) (by kernel_rfl) (by simp) ?_
                  refine AllReadyH.cons rfl (fun K hK => ?_) AllReadyH.nil
                  refine Eq.mpr (if_pos (by kernel_rfl)) ?_
                  refine op_append_words _ (.tmp 48) (.tmp 53) 25 rfl 38 Try.underlying25 info27 wr.heap.size _ c4 s4 _ rfl o4 _ 1 1 [X] rfl r9 (by omega) h4_2.size wr h4_2 ?_
                  intro s10 c10 w10 o10 h10_3
                  refine hK.out _ _ (hSat.out _ h10_3) fun _ => ?_
                  clear hK K
                  refine wpAnyH_ready (rs := [14]) (by kernel_rfl) (by simp) ?_
                  refine AllReadyH.cons rfl (fun K hK => ?_) AllReadyH.nil
                  refine Eq.mpr (if_pos (by kernel_rfl)) ?_
                  refine op_append_words _ (.tmp 54) (.tmp 57) 25 rfl 38 Try.underlying25 info27 wr.heap.size _ c10 s10 _ rfl o10 _ _ _ (zs.drop k) rfl ((hSat.out _ h10_3).1.tail k hk) (by omega) h10_3.size wr h10_3 ?_
                  intro s14 c14 w14 o14 h14_4
                  refine hK.out _ _ (hSat.out _ h14_4) fun _ => ?_
                  clear hK K
                  refine wpAnyH_ready (rs := [15]) (by kernel_rfl) (by simp) ?_
                  refine AllReadyH.cons rfl (fun K hK => ?_) AllReadyH.nil
                  go_simp
                  refine hK.out _ _ (hSat.out _ h14_4) fun _ => ?_
                  clear hK K
                  try simp only [Nat.zero_add, List.nil_append] at o14
                  refine wpAnyH_done (by kernel_rfl) ?_ _
                  refine NoPanic.normal ?_
                  go_wp2_with fail
                  go_roundw
                  case rel =>
                    have hins := ins_place hsrt (x := X) (k := k) (by rw [hlz.out]; exact hk) hlo (fun h => hhi.out (by rw [← hlz.out]; exact h))
                    refine ⟨i + 1, s14, _, c14, zs.take k ++ [X] ++ zs.drop k, by omega, rfl, by go_num, o14.mono (Nat.le_trans hbel.size hbi.size), ext_trans (ext_trans hbel hbi) h14_4, hins.1, fun x => ?_, by omega⟩
                    rw [hins.2, mem_take_succ (by rw [hl.out]; exact hlt), HX.out, hmem]
                    exact Or.comm
                  case measure => simp [intOf]; omega
              · go_simp
                have h9_0 : Below wr.heap.size wr ((wr.drewN (nq1 + nq + 1)).alloc (.cells #[Value.int .u16 X] 38)) := hbz.alloc hbz.size _
                refine hK.out _ _ (hSat.out _ h9_0) fun _ => ?_
                clear hK K
                have r9 : RowW ((wr.drewN (nq1 + nq + 1)).alloc (.cells #[Value.int .u16 X] 38)) (some ⟨wr.heap.size, 0, none⟩) 1 1 [X] := roww_lit_at _ _ (by simp) 38 [X] 1 rfl (by omega) (Wrd.one HXb)
                refine wpAnyH_ready (rs := [0]) (by kernel_rfl) (by simp) ?_
                refine AllReadyH.cons rfl (fun K hK => ?_) AllReadyH.nil
                go_simp
                have h0_1 : Below wr.heap.size wr (((wr.drewN (nq1 + nq + 1)).alloc (.cells #[Value.int .u16 X] 38)).alloc (.cells #[] 38)) := h9_0.alloc h9_0.size _
                refine hK.out _ _ (hSat.out _ h0_1) fun _ => ?_
                clear hK K
                replace r9 := r9.below (below_alloc _ (.cells #[] 38))
                have o0 : OwnW 38 (((wr.drewN (nq1 + nq + 1)).alloc (.cells #[Value.int .u16 X] 38)).alloc (.cells #[] 38)) wr.heap.size (some ⟨(wr.heap.size + 1), 0, none⟩) 0 0 [] := ownw_lit_at _ _ (by simp) 38 [] 0 rfl (by omega) Wrd.nil (by simp)
                refine wpAnyH_ready (rs := [4]) (by kernel_rfl) (by simp) ?_
                refine AllReadyH.cons rfl (fun K hK => ?_) AllReadyH.nil
                refine Eq.mpr (if_pos (by kernel_rfl)) ?_
                refine op_append_words_g _ (.tmp 44) (.tmp 47) 25 rfl 38 Try.underlying25 info27 wr.heap.size 0 0 _ [] rfl o0 (some ⟨g, goff, none⟩) k co (zs.take k) rfl (((hSat.out _ h0_1).1).pre k hk) (by omega) h0_1.size wr h0_1 ?_
                intro s4 c4 w4_2 o4 h4_2 g4
                refine hK.out _ _ (hSat.out _ h4_2) fun _ => ?_
                clear hK K
                replace r9 := r9.grown g4 (by intro x hx; cases hx; simp [Value.ownBlock])
                refine wpAnyH_ready (rs := [10]) (by kernel_rfl) (by simp) ?_
                refine AllReadyH.cons rfl (fun K hK => ?_) AllReadyH.nil
                refine Eq.mpr (if_pos (by kernel_rfl)) ?_
                refine op_append_words _ (.tmp 48) (.tmp 53) 25 rfl 38 Try.underlying25 info27 wr.heap.size _ c4 s4 _ rfl o4 _ 1 1 [X] rfl r9 (by omega) h4_2.size wr h4_2 ?_
                intro s10 c10 w10 o10 h10_3
                refine hK.out _ _ (hSat.out _ h10_3) fun _ => ?_
                clear hK K
                refine wpAnyH_ready (rs := [14]) (by kernel_rfl) (by simp) ?_
                refine AllReadyH.cons rfl (fun K hK => ?_) AllReadyH.nil
                refine Eq.mpr (if_pos (by kernel_rfl)) ?_
                refine op_append_words _ (.tmp 54) (.tmp 57) 25 rfl 38 Try.underlying25 info27 wr.heap.size _ c10 s10 _ rfl o10 _ _ _ (zs.drop k) rfl ((hSat.out _ h10_3).1.tail k hk) (by omega) h10_3.size wr h10_3 ?_
                intro s14 c14 w14 o14 h14_4
                refine hK.out _ _ (hSat.out _ h14_4) fun _ => ?_
                clear hK K
                refine wpAnyH_ready (rs := [15]) (by kernel_rfl) (by simp) ?_
                refine AllReadyH.cons rfl (fun K hK => ?_) AllReadyH.nil
                go_simp
                refine hK.out _ _ (hSat.out _ h14_4) fun _ => ?_
                clear hK K
                try simp only [Nat.zero_add, List.nil_append] at o14
                refine wpAnyH_done (by kernel_rfl) ?_ _
                refine NoPanic.normal ?_
                go_wp2_with fail
                go_roundw
                case rel =>
                  have hins := ins_place hsrt (x := X) (k := k) (by rw [hlz.out]; exact hk) hlo (fun h => hhi.out (by rw [← hlz.out]; exact h))
                  refine ⟨i + 1, s14, _, c14, zs.take k ++ [X] ++ zs.drop k, by omega, rfl, by go_num, o14.mono (Nat.le_trans hbel.size hbi.size), ext_trans (ext_trans hbel hbi) h14_4, hins.1, fun x => ?_, by omega⟩
                  rw [hins.2, mem_take_succ (by rw [hl.out]; exact hlt), HX.out, hmem]
                  exact Or.comm
                case measure => simp [intOf]; omega
        · have hpf : decide ((k : Int) < (no : Int)) = false := by simp; omega
          have hk1 : k ≤ co := by omega
          have hk2 : (k : Int) ≤ (co : Int) := by omega
          have hk3 : (k : Int) ≤ (no : Int) := by omega
          have hpe : ((k : Int) == (no : Int)) = true := by simp; omega
          have hhi : Hid (k < no → X < zs.getD k 0) := fun h => absurd h hkn
          go_wp2
          go_quiet (fail)
          obtain ⟨nq1, rfl⟩ : ∃ x, x = nq := ⟨_, rfl⟩
          go_wp2
          go_quiet (fail)
          go_wp2_with fail
          have hSat : Hid (∀ W, Below wr.heap.size wr W → RowW W so no co zs ∧ W.cell? ⟨b, off + i, none⟩ = some (.int .u16 X)) := fun W h => ⟨(hown.row.below hbi).below h, by rw [h.cell (lt_of_cell c1i)]; exact c1i⟩
          refine wp_region_noPanic ?_
          refine wp_region_held_drew (S := fun W => RowW W so no co zs ∧ W.cell? ⟨b, off + i, none⟩ = some (.int .u16 X)) (by kernel_rfl) (hSat.out _ (Below.drew (bel_drewN (bel_drewN (Below.refl _ _) _) _))) fun hS => ?_
          refine take_to (i := 1) (v := ?_) 45 rfl rfl (by kernel_rfl) (by kernel_rfl) (by kernel_rfl) (fun _ _ _ h => h) (Or.inl ⟨by rfl, ?_⟩) hS ?_
          rotate_left
          · intro W hW
            go_simp
            try with_reducible rfl
          simp only [List.setIfInBounds_toArray, List.set_cons_zero, List.set_cons_succ]
          refine take_to (i := 2) (v := ?_) 46 rfl rfl (by kernel_rfl) (by kernel_rfl) (by kernel_rfl) (fun _ _ _ h => h) (Or.inl ⟨by rfl, ?_⟩) hS ?_
          rotate_left
          · intro W hW
            go_simp
            try with_reducible rfl
          simp only [List.setIfInBounds_toArray, List.set_cons_zero, List.set_cons_succ]
          refine take_to (i := 3) (v := ?_) 47 rfl rfl (by kernel_rfl) (by kernel_rfl) (by kernel_rfl) (fun _ _ _ h => h) (Or.inl ⟨by rfl, ?_⟩) hS ?_
          rotate_left
          · intro W hW
            go_simp
            try with_reducible rfl
          simp only [List.setIfInBounds_toArray, List.set_cons_zero, List.set_cons_succ]
          refine take_to (i := 5) (v := ?_) 49 rfl rfl (by kernel_rfl) (by kernel_rfl) (by kernel_rfl) (fun _ _ _ h => h) (Or.inl ⟨by rfl, ?_⟩) hS ?_
          rotate_left
          · intro W hW
            go_simp
            try with_reducible rfl
          simp only [List.setIfInBounds_toArray, List.set_cons_zero, List.set_cons_succ]
          refine take_to (i := 6) (v := ?_) 50 rfl rfl (by kernel_rfl) (by kernel_rfl) (by kernel_rfl) (fun _ _ _ h => h) (Or.inl ⟨by rfl, ?_⟩) hS ?_
          rotate_left
          · intro W hW
            go_simp
            try with_reducible rfl
          simp only [List.setIfInBounds_toArray, List.set_cons_zero, List.set_cons_succ]
          refine take_to (i := 7) (v := ?_) 51 rfl rfl (by kernel_rfl) (by kernel_rfl) (by kernel_rfl) (fun _ _ _ h => h) (Or.inl ⟨by rfl, ?_⟩) hS ?_
          rotate_left
          · intro W hW
            go_simp
            try with_reducible rfl
          simp only [List.setIfInBounds_toArray, List.set_cons_zero, List.set_cons_succ]
          refine take_to (i := 8) (v := ?_) 52 rfl rfl (by kernel_rfl) (by kernel_rfl) (by kernel_rfl) (fun _ _ _ h => h) (Or.inl ⟨by rfl, ?_⟩) hS ?_
          rotate_left
          · intro W hW
            have hcX := hW.2
            go_simp
            try with_reducible rfl
          simp only [List.setIfInBounds_toArray, List.set_cons_zero, List.set_cons_succ]
          refine take_to (i := 11) (v := ?_) 55 rfl rfl (by kernel_rfl) (by kernel_rfl) (by kernel_rfl) (fun _ _ _ h => h) (Or.inl ⟨by rfl, ?_⟩) hS ?_
          rotate_left
          · intro W hW
            go_simp
            try with_reducible rfl
          simp only [List.setIfInBounds_toArray, List.set_cons_zero, List.set_cons_succ]
          refine take_to (i := 12) (v := ?_) 56 rfl rfl (by kernel_rfl) (by kernel_rfl) (by kernel_rfl) (fun _ _ _ h => h) (Or.inl ⟨by rfl, ?_⟩) hS ?_
          rotate_left
          · intro W hW
            go_simp
            try with_reducible rfl
          simp only [List.setIfInBounds_toArray, List.set_cons_zero, List.set_cons_succ]
          refine take_to (i := 13) (v := ?_) 57 rfl rfl (by kernel_rfl) (by kernel_rfl) (by kernel_rfl) (fun _ _ _ h => h) (Or.inl ⟨by rfl, ?_⟩) hS ?_
          rotate_left
          · intro W hW
            go_simp
            try with_reducible rfl
          simp only [List.setIfInBounds_toArray, List.set_cons_zero, List.set_cons_succ]
          
          have hbz : Below wr.heap.size wr (wr.drewN (nq1 + nq + 1)) := bel_drewN (Below.refl _ _) _
          refine wpAnyH_ready (rs := [0, 9]) (by kernel_rfl) (by simp) ?_
          refine AllReadyH.cons rfl (fun K hK => ?_) (AllReadyH.cons rfl (fun K hK => ?_) AllReadyH.nil)
          · go_simp
            have h0_0 : Below wr.heap.size wr ((wr.drewN (nq1 + nq + 1)).alloc (.cells #[] 38)) := hbz.alloc hbz.size _
            refine hK.out _ _ (hSat.out _ h0_0) fun _ => ?_
            clear hK K
            have o0 : OwnW 38 ((wr.drewN (nq1 + nq + 1)).alloc (.cells #[] 38)) wr.heap.size (some ⟨wr.heap.size, 0, none⟩) 0 0 [] := ownw_lit_at _ _ (by simp) 38 [] 0 rfl (by omega) Wrd.nil (by simp)
            refine wpAnyH_ready (rs := [4, 9]) (by kernel_rfl) (by simp) ?_
            refine AllReadyH.cons rfl (fun K hK => ?_) (AllReadyH.cons rfl (fun K hK => ?_) AllReadyH.nil)
            · refine Eq.mpr (if_pos (by kernel_rfl)) ?_
              refine op_append_words_g _ (.tmp 44) (.tmp 47) 25 rfl 38 Try.underlying25 info27 wr.heap.size 0 0 _ [] rfl o0 so k co (zs.take k) rfl (((hSat.out _ h0_0).1).pre k hk) (by omega) h0_0.size wr h0_0 ?_
              intro s4 c4 w4_1 o4 h4_1 g4
              refine hK.out _ _ (hSat.out _ h4_1) fun _ => ?_
              clear hK K
              rw [Nat.zero_add, List.nil_append] at o4
              refine wpAnyH_ready (rs := [9]) (by kernel_rfl) (by simp) ?_
              refine AllReadyH.cons rfl (fun K hK => ?_) AllReadyH.nil
              go_simp
              have h9_2 : Below wr.heap.size wr (w4_1.alloc (.cells #[Value.int .u16 X] 38)) := h4_1.alloc h4_1.size _
              refine hK.out _ _ (hSat.out _ h9_2) fun _ => ?_
              clear hK K
              replace o4 := o4.below (below_alloc _ (.cells #[Value.int .u16 X] 38))
              have r9 : RowW (w4_1.alloc (.cells #[Value.int .u16 X] 38)) (some ⟨w4_1.heap.size, 0, none⟩) 1 1 [X] := roww_lit_at _ _ (by simp) 38 [X] 1 rfl (by omega) (Wrd.one HXb)
              refine wpAnyH_ready (rs := [10]) (by kernel_rfl) (by simp) ?_
              refine AllReadyH.cons rfl (fun K hK => ?_) AllReadyH.nil
              refine Eq.mpr (if_pos (by kernel_rfl)) ?_
              refine op_append_words _ (.tmp 48) (.tmp 53) 25 rfl 38 Try.underlying25 info27 wr.heap.size _ c4 s4 _ rfl o4 _ 1 1 [X] rfl r9 (by omega) h9_2.size wr h9_2 ?_
              intro s10 c10 w10 o10 h10_3
              refine hK.out _ _ (hSat.out _ h10_3) fun _ => ?_
              clear hK K
              refine wpAnyH_ready (rs := [14]) (by kernel_rfl) (by simp) ?_
              refine AllReadyH.cons rfl (fun K hK => ?_) AllReadyH.nil
              refine Eq.mpr (if_pos (by kernel_rfl)) ?_
              refine op_append_words _ (.tmp 54) (.tmp 57) 25 rfl 38 Try.underlying25 info27 wr.heap.size _ c10 s10 _ rfl o10 _ _ _ (zs.drop k) rfl ((hSat.out _ h10_3).1.from k hk) (by omega) h10_3.size wr h10_3 ?_
              intro s14 c14 w14 o14 h14_4
              refine hK.out _ _ (hSat.out _ h14_4) fun _ => ?_
              clear hK K
              refine wpAnyH_ready (rs := [15]) (by kernel_rfl) (by simp) ?_
              refine AllReadyH.cons rfl (fun K hK => ?_) AllReadyH.nil
              go_simp
              refine hK.out _ _ (hSat.out _ h14_4) fun _ => ?_
              clear hK K
              try simp only [Nat.zero_add, List.nil_append] at o14
              refine wpAnyH_done (by kernel_rfl) ?_ _
              refine NoPanic.normal ?_
              go_wp2_with fail
              go_roundw
              case rel =>
                have hins := ins_place hsrt (x := X) (k := k) (by rw [hlz.out]; exact hk) hlo (fun h => hhi.out (by rw [← hlz.out]; exact h))
                refine ⟨i + 1, s14, _, c14, zs.take k ++ [X] ++ zs.drop k, by omega, rfl, by go_num, o14.mono (Nat.le_trans hbel.size hbi.size), ext_trans (ext_trans hbel hbi) h14_4, hins.1, fun x => ?_, by omega⟩
                rw [hins.2, mem_take_succ (by rw [hl.out]; exact hlt), HX.out, hmem]
                exact Or.comm
              case measure => simp [intOf]; omega
            · go_simp
              have h9_1 : Below wr.heap.size wr (((wr.drewN (nq1 + nq + 1)).alloc (.cells #[] 38)).alloc (.cells #[Value.int .u16 X] 38)) := h0_0.alloc h0_0.size _
              refine hK.out _ _ (hSat.out _ h9_1) fun _ => ?_
              clear hK K
              replace o0 := o0.below (below_alloc _ (.cells #[Value.int .u16 X] 38))
              have r9 : RowW (((wr.drewN (nq1 + nq + 1)).alloc (.cells #[] 38)).alloc (.cells #[Value.int .u16 X] 38)) (some ⟨(wr.heap.size + 1), 0, none⟩) 1 1 [X] := roww_lit_at _ _ (by simp) 38 [X] 1 rfl (by omega) (Wrd.one HXb)
              refine wpAnyH_ready (rs := [4]) (by kernel_rfl) (by simp) ?_
              refine AllReadyH.cons rfl (fun K hK => ?_) AllReadyH.nil
              refine Eq.mpr (if_pos (by kernel_rfl)) ?_
              refine op_append_words_g _ (.tmp 44) (.tmp 47) 25 rfl 38 Try.underlying25 info27 wr.heap.size 0 0 _ [] rfl o0 so k co (zs.take k) rfl (((hSat.out _ h9_1).1).pre k hk) (by omega) h9_1.size wr h9_1 ?_
              intro s4 c4 w4_2 o4 h4_2 g4
              refine hK.out _ _ (hSat.out _ h4_2) fun _ => ?_
              clear hK K
              replace r9 := r9.grown g4 (by intro x hx; cases hx; simp [Value.ownBlock])
              refine wpAnyH_ready (rs := [10]) (by kernel_rfl) (by simp) ?_
              refine AllReadyH.cons rfl (fun K hK => ?_) AllReadyH.nil
              refine Eq.mpr (if_pos (by kernel_rfl)) ?_
              refine op_append_words _ (.tmp 48) (.tmp 53) 25 rfl 38 Try.underlying25 info27 wr.heap.size _ c4 s4 _ rfl o4 _ 1 1 [X] rfl r9 (by omega) h4_2.size wr h4_2 ?_
              intro s10 c10 w10 o10 h10_3
              refine hK.out _ _ (hSat.out _ h10_3) fun _ => ?_
              clear hK K
              refine wpAnyH_ready (rs := [14]) (by kernel_rfl) (by simp) ?_
              refine AllReadyH.cons rfl (fun K hK => ?_) AllReadyH.nil
              refine Eq.mpr (if_pos (by kernel_rfl)) ?_
              refine op_append_words _ (.tmp 54) (.tmp 57) 25 rfl 38 Try.underlying25 info27 wr.heap.size _ c10 s10 _ rfl o10 _ _ _ (zs.drop k) rfl ((hSat.out _ h10_3).1.from k hk) (by omega) h10_3.size wr h10_3 ?_
              intro s14 c14 w14 o14 h14_4
              refine hK.out _ _ (hSat.out _ h14_4) fun _ => ?_
              clear hK K
              refine wpAnyH_ready (rs := [15]) (by kernel_rfl) (by simp) ?_
              refine AllReadyH.cons rfl (fun K hK => ?_) AllReadyH.nil
              go_simp
              refine hK.out _ _ (hSat.out _ h14_4) fun _ => ?_
              clear hK K
              try simp only [Nat.zero_add, List.nil_append] at o14
              refine wpAnyH_done (by kernel_rfl) ?_ _
              refine NoPanic.normal ?_
              go_wp2_with fail
              go_roundw
              case rel =>
                have hins := ins_place hsrt (x := X) (k := k) (by rw [hlz.out]; exact hk) hlo (fun h => hhi.out (by rw [← hlz.out]; exact h))
                refine ⟨i + 1, s14, _, c14, zs.take k ++ [X] ++ zs.drop k, by omega, rfl, by go_num, o14.mono (Nat.le_trans hbel.size hbi.size), ext_trans (ext_trans hbel hbi) h14_4, hins.1, fun x => ?_, by omega⟩
                rw [hins.2, mem_take_succ (by rw [hl.out]; exact hlt), HX.out, hmem]
                exact Or.comm
              case measure => simp [intOf]; omega
          · go_simp
            have h9_0 : Below wr.heap.size wr ((wr.drewN (nq1 + nq + 1)).alloc (.cells #[Value.int .u16 X] 38)) := hbz.alloc hbz.size _
            refine hK.out _ _ (hSat.out _ h9_0) fun _ => ?_
            clear hK K
            have r9 : RowW ((wr.drewN (nq1 + nq + 1)).alloc (.cells #[Value.int .u16 X] 38)) (some ⟨wr.heap.size, 0, none⟩) 1 1 [X] := roww_lit_at _ _ (by simp) 38 [X] 1 rfl (by omega) (Wrd.one HXb)
            refine wpAnyH_ready (rs := [0]) (by kernel_rfl) (by simp) ?_
            refine AllReadyH.cons rfl (fun K hK => ?_) AllReadyH.nil
            go_simp
            have h0_1 : Below wr.heap.size wr (((wr.drewN (nq1 + nq + 1)).alloc (.cells #[Value.int .u16 X] 38)).alloc (.cells #[] 38)) := h9_0.alloc h9_0.size _
            refine hK.out _ _ (hSat.out _ h0_1) fun _ => ?_
            clear hK K
            replace r9 := r9.below (below_alloc _ (.cells #[] 38))
            have o0 : OwnW 38 (((wr.drewN (nq1 + nq + 1)).alloc (.cells #[Value.int .u16 X] 38)).alloc (.cells #[] 38)) wr.heap.size (some ⟨(wr.heap.size + 1), 0, none⟩) 0 0 [] := ownw_lit_at _ _ (by simp) 38 [] 0 rfl (by omega) Wrd.nil (by simp)
            refine wpAnyH_ready (rs := [4]) (by kernel_rfl) (by simp) ?_
            refine AllReadyH.cons rfl (fun K hK => ?_) AllReadyH.nil
            refine Eq.mpr (if_pos (by kernel_rfl)) ?_
            refine op_append_words_g _ (.tmp 44) (.tmp 47) 25 rfl 38 Try.underlying25 info27 wr.heap.size 0 0 _ [] rfl o0 so k co (zs.take k) rfl (((hSat.out _ h0_1).1).pre k hk) (by omega) h0_1.size wr h0_1 ?_
            intro s4 c4 w4_2 o4 h4_2 g4
            refine hK.out _ _ (hSat.out _ h4_2) fun _ => ?_
            clear hK K
            replace r9 := r9.grown g4 (by intro x hx; cases hx; simp [Value.ownBlock])
            refine wpAnyH_ready (rs := [10]) (by kernel_rfl) (by simp) ?_
            refine AllReadyH.cons rfl (fun K hK => ?_) AllReadyH.nil
            refine Eq.mpr (if_pos (by kernel_rfl)) ?_
            refine op_append_words _ (.tmp 48) (.tmp 53) 25 rfl 38 Try.underlying25 info27 wr.heap.size _ c4 s4 _ rfl o4 _ 1 1 [X] rfl r9 (by omega) h4_2.size wr h4_2 ?_
            intro s10 c10 w10 o10 h10_3
            refine hK.out _ _ (hSat.out _ h10_3) fun _ => ?_
            clear hK K
            refine wpAnyH_ready (rs := [14]) (by kernel_rfl) (by simp) ?_
            refine AllReadyH.cons rfl (fun K hK => ?_) AllReadyH.nil
            refine Eq.mpr (if_pos (by kernel_rfl)) ?_
            refine op_append_words _ (.tmp 54) (.tmp 57) 25 rfl 38 Try.underlying25 info27 wr.heap.size _ c10 s10 _ rfl o10 _ _ _ (zs.drop k) rfl ((hSat.out _ h10_3).1.from k hk) (by omega) h10_3.size wr h10_3 ?_
            intro s14 c14 w14 o14 h14_4
            refine hK.out _ _ (hSat.out _ h14_4) fun _ => ?_
            clear hK K
            refine wpAnyH_ready (rs := [15]) (by kernel_rfl) (by simp) ?_
            refine AllReadyH.cons rfl (fun K hK => ?_) AllReadyH.nil
            go_simp
            refine hK.out _ _ (hSat.out _ h14_4) fun _ => ?_
            clear hK K
            try simp only [Nat.zero_add, List.nil_append] at o14
            refine wpAnyH_done (by kernel_rfl) ?_ _
            refine NoPanic.normal ?_
            go_wp2_with fail
            go_roundw
            case rel =>
              have hins := ins_place hsrt (x := X) (k := k) (by rw [hlz.out]; exact hk) hlo (fun h => hhi.out (by rw [← hlz.out]; exact h))
              refine ⟨i + 1, s14, _, c14, zs.take k ++ [X] ++ zs.drop k, by omega, rfl, by go_num, o14.mono (Nat.le_trans hbel.size hbi.size), ext_trans (ext_trans hbel hbi) h14_4, hins.1, fun x => ?_, by omega⟩
              rw [hins.2, mem_take_succ (by rw [hl.out]; exact hlt), HX.out, hmem]
              exact Or.comm
            case measure => simp [intOf]; omega
    · obtain rfl : i = n := by omega
      go_wp2_with fail
      go_ret
      exact ⟨so, no, co, zs, rfl, hown, hbel, hsrt, fun x => by rw [hmem, List.take_of_length_le (by rw [hl.out]; exact Nat.le_refl _)], hno⟩
end Go.Proofs.Ytdoemkncgfgkhaa
