/- What Rise answers of a label: a contract. -/
import Derived.Test.YtdoemkncgfgkhaaLabJoin
namespace Go.Proofs.Ytdoemkncgfgkhaa
open Go.RowKit
set_option maxRecDepth 100000

/-- A label that has risen. -/
def riseP (d : Int) (ps : List (Int × Int)) : List (Int × Int) := cmb (riseL d) (fun x _ => riseL x) (ps.map fun p => (p.1, p.2, p.2))
theorem rise_up {ps : List (Int × Int)} (h : UpL ps) : UpR (ps.map fun p => (p.1, p.2, p.2)) := List.pairwise_map.2 h
theorem rise_can (d : Int) {ps : List (Int × Int)} (h : UpL ps) : CanL (riseL d) (riseP d ps) := cmb_can _ _ _ (rise_up h)
theorem rise_at (d : Int) {ps : List (Int × Int)} (h : UpL ps) (c : Int) : atL (riseL d) (riseP d ps) c = riseL (atL d ps c) := by
  rw [riseP, cmb_at _ _ _ (rise_up h)]
  clear h
  induction ps with
  | nil => rfl
  | cons p ps ih =>
    rw [List.map_cons, atR, atL_cons]
    by_cases hc : p.1 = c
    · rw [if_pos hc, if_pos hc]
    · rw [if_neg hc, if_neg hc, ih]
theorem riseL_lv {x : Int} (h : 0 ≤ x ∧ x ≤ 5) : 0 ≤ riseL x ∧ riseL x ≤ 5 := by unfold riseL; split <;> omega

set_option maxHeartbeats 4000000 in
theorem rise_at_any (D : Int) (d : Int) (hDD : Hid (riseL d = D)) (a : Option Addr) (n cap : Nat) (xs : List (Int × Int)) (w : World) (hr : RowG PE w a n cap xs) (hlx : LvL d xs) (hbd : n ≤ 1000000) :
    Calls Try.prog 53 #[.agg #[.int .u8 d, .slice a n cap]] w fun e w' => ∃ so k co, e = .returned (.agg #[.int .u8 D, .slice so k co]) ∧ OwnG PE 40 w' w.heap.size so k co (cmb D (fun x _ => riseL x) (xs.map fun p => (p.1, p.2, p.2))) ∧ Below w.heap.size w w' := by
  have hxl : Hid (xs.length = n) := hr.len
  have hcap := hr.cap_le
  have HLV : Hid (∀ p ∈ xs, 0 ≤ p.2 ∧ p.2 ≤ 5) := hlx.2
  go_enter Try.func53, Try.ntmps53
  go_wp2_with fail
  refine (lrise_num d hlx.1 _).mono ?_
  rintro e w1 ⟨rfl, rfl⟩
  rw [hDD.out]
  go_wp2_with fail
  obtain ⟨W0, hW0⟩ : ∃ x, x = ((w.alloc (Obj.cells #[Value.int IntKind.u8 d, Value.slice a n cap] 24)).alloc (Obj.cells #[Value.int IntKind.u8 0, Value.slice none 0 0] 24)).alloc (Obj.cells #[Value.int IntKind.u8 D, Value.slice none 0 0] 24) := ⟨_, rfl⟩
  rw [← hW0]
  have hG : W0.heap[w.heap.size + 1 + 1]? = some (.cells #[.int .u8 D, .slice none 0 0] 24 (0, 0)) := by rw [hW0]; exact heap_new_at _ _ _ (by simp)
  have hR : W0.heap[w.heap.size + 1]? = some (.cells #[.int .u8 0, .slice none 0 0] 24 (0, 0)) := by rw [hW0, Below.heap_alloc _ _ _ (by simp)]; exact heap_new_at _ _ _ (by simp)
  have hbW : Below w.heap.size w W0 := hW0 ▸ (by repeat (first | exact Below.refl _ _ | refine Below.alloc ?_ (by simp <;> omega) _))
  have hGw : ∀ x, a = some x → 0 < n → x.block ≠ w.heap.size + 1 + 1 := fun x hx hn => by
    obtain ⟨b, off, rfl, hcell⟩ := hr.at hn
    obtain rfl := Option.some.inj hx
    obtain ⟨X, Y, hX, _⟩ := hr.get2 0 hn
    have := lt_of_cell (hr.pair hX).1
    simp at this ⊢
    omega
  clear hW0
  go_loopw [13] (fun i wr => ∃ (j : Nat) (so : Option Addr) (no co : Nat), j ≤ n ∧ i = .int .i64 j ∧ OutAt W0 (w.heap.size + 1 + 1) D wr so no co (cmb D (fun x _ => riseL x) ((xs.take j).map fun p => (p.1, p.2, p.2))) ∧ no ≤ j) (fun i _ => n - (intOf i).toNat)
  case atStart => exact ⟨0, none, 0, 0, by omega, rfl, OutAt.init hG, by omega⟩
  case round =>
    obtain ⟨j, so, no, co, hj, rfl, hout, hno⟩ := hrel
    by_cases hlt : j < n
    · have hp : (j : Int) < (n : Int) := by omega
      obtain ⟨rb, roff, rfl, _⟩ := hr.at (by omega)
      obtain ⟨X, Y, hX, HXb⟩ := hr.get2 j hlt
      have hlvk := HLV.out _ (List.mem_of_getElem? hX)
      simp only at hlvk
      have hrl2 : 0 ≤ riseL Y ∧ riseL Y < 256 := by have := riseL_lv hlvk; omega
      obtain ⟨t1, t2⟩ := (hout.row (hr.below hbW) (fun x hx => hGw x hx (by omega))).pair hX
      have HX : Hid (xs[j]? = some (X, Y)) := hX
      clear hX hGw
      go_wp2_with fail
      obtain ⟨W2, hW2⟩ : ∃ x, x = wr.alloc (.cells #[.int .u16 X, .int .u8 Y] 40) := ⟨_, rfl⟩
      rw [← hW2]
      have hout2 : OutAt W0 (w.heap.size + 1 + 1) D W2 so no co _ := hW2 ▸ hout.below (below_alloc wr _)
      have hsz2 : W0.heap.size ≤ W2.drew.heap.size := hout2.gr.size
      have hS0 : Hid ((fun W => W.cell? ⟨w.heap.size + 1 + 1, 0, none⟩ = some (.int .u8 D) ∧ W.cell? ⟨wr.heap.size, 0, none⟩ = some (.int .u16 X) ∧ W.cell? ⟨wr.heap.size, 1, none⟩ = some (.int .u8 Y)) W2.drew) := ⟨hout2.c0, by rw [hW2]; simp, by rw [hW2]; simp⟩
      clear hW2
      replace hout2 := hout2.below (ext_drew _)
      have hc1 : W2.cell? ⟨w.heap.size + 1 + 1, 1, none⟩ = some (.slice so no co) := hout2.c1
      have hne : ∀ x, (Value.slice so no co).ownBlock = some x → x ≠ wr.heap.size := fun x hx => by have := own_block hout.own x hx; omega
      have HS3 : Hid (∀ w3, W2.drew.grownBy w3 (Value.slice so no co).ownBlock → (fun W => W.cell? ⟨w.heap.size + 1 + 1, 0, none⟩ = some (.int .u8 D) ∧ W.cell? ⟨wr.heap.size, 0, none⟩ = some (.int .u16 X) ∧ W.cell? ⟨wr.heap.size, 1, none⟩ = some (.int .u8 Y)) w3) := fun w3 hg =>
        ⟨(hout2.mid hg).2.2.2.2, hg.cell hS0.out.2.1 (fun e => hne _ e.symm rfl), hg.cell hS0.out.2.2 (fun e => hne _ e.symm rfl)⟩
      have hGne : wr.heap.size ≠ w.heap.size + 1 + 1 := by have := hout.lt; have := hout.gr.size; omega
      have HS4 : Hid (∀ (w3 : World) (v : Value), (fun W => W.cell? ⟨w.heap.size + 1 + 1, 0, none⟩ = some (.int .u8 D) ∧ W.cell? ⟨wr.heap.size, 0, none⟩ = some (.int .u16 X) ∧ W.cell? ⟨wr.heap.size, 1, none⟩ = some (.int .u8 Y)) w3 → (w3.setCell ⟨w.heap.size + 1 + 1, 1, none⟩ v).cell? ⟨wr.heap.size, 0, none⟩ = some (.int .u16 X) ∧ (w3.setCell ⟨w.heap.size + 1 + 1, 1, none⟩ v).cell? ⟨wr.heap.size, 1, none⟩ = some (.int .u8 Y)) := fun w3 v h =>
        ⟨by rw [World.cell?_setCell_far _ _ _ _ (Ne.symm hGne)]; exact h.2.1, by rw [World.cell?_setCell_far _ _ _ _ (Ne.symm hGne)]; exact h.2.2⟩
      clear t1 t2
      refine wp_region_noPanic ?_
      refine wp_region_held_drew (S := fun W => W.cell? ⟨w.heap.size + 1 + 1, 0, none⟩ = some (.int .u8 D) ∧ W.cell? ⟨wr.heap.size, 0, none⟩ = some (.int .u16 X) ∧ W.cell? ⟨wr.heap.size, 1, none⟩ = some (.int .u8 Y)) (by kernel_rfl) hS0.out fun hS => ?_
      refine take_to (i := 0) (v := ?_) 17 rfl rfl (by kernel_rfl) (by kernel_rfl) (by kernel_rfl) (fun _ _ _ h => h) (Or.inl ⟨by rfl, ?_⟩) hS ?_
      rotate_left
      · intro W hW
        obtain ⟨s0, s1, s2⟩ := hW
        go_simp
        try with_reducible rfl
      simp only [List.setIfInBounds_toArray, List.set_cons_zero, List.set_cons_succ]
      refine take_to (i := 2) (v := ?_) 19 rfl rfl (by kernel_rfl) (by kernel_rfl) (by kernel_rfl) (fun _ _ _ h => h) (Or.inl ⟨by rfl, ?_⟩) hS ?_
      rotate_left
      · intro W hW
        obtain ⟨s0, s1, s2⟩ := hW
        go_simp
        try with_reducible rfl
      simp only [List.setIfInBounds_toArray, List.set_cons_zero, List.set_cons_succ]
      refine take_to (i := 3) (v := ?_) 20 rfl rfl (by kernel_rfl) (by kernel_rfl) (by kernel_rfl) (fun _ _ _ h => h) (Or.inl ⟨by rfl, ?_⟩) hS ?_
      rotate_left
      · intro W hW
        obtain ⟨s0, s1, s2⟩ := hW
        go_simp
        try with_reducible rfl
      simp only [List.setIfInBounds_toArray, List.set_cons_zero, List.set_cons_succ]
      refine take_to (i := 4) (v := ?_) 21 rfl rfl (by kernel_rfl) (by kernel_rfl) (by kernel_rfl) (fun _ _ _ h => h) (Or.inl ⟨by rfl, ?_⟩) hS ?_
      rotate_left
      · intro W hW
        obtain ⟨s0, s1, s2⟩ := hW
        go_simp
        try with_reducible rfl
      simp only [List.setIfInBounds_toArray, List.set_cons_zero, List.set_cons_succ]
      refine take_to (i := 5) (v := ?_) 22 rfl rfl (by kernel_rfl) (by kernel_rfl) (by kernel_rfl) (fun _ _ _ h => h) (Or.inl ⟨by rfl, ?_⟩) hS ?_
      rotate_left
      · intro W hW
        obtain ⟨s0, s1, s2⟩ := hW
        go_simp
        try with_reducible rfl
      simp only [List.setIfInBounds_toArray, List.set_cons_zero, List.set_cons_succ]
      refine take_to (i := 8) (v := ?_) 25 rfl rfl (by kernel_rfl) (by kernel_rfl) (by kernel_rfl) (fun _ _ _ h => h) (Or.inl ⟨by rfl, ?_⟩) hS ?_
      rotate_left
      · intro W hW
        obtain ⟨s0, s1, s2⟩ := hW
        go_simp
        try with_reducible rfl
      simp only [List.setIfInBounds_toArray, List.set_cons_zero, List.set_cons_succ]
      refine take_to (i := 9) (v := ?_) 26 rfl rfl (by kernel_rfl) (by kernel_rfl) (by kernel_rfl) (fun _ _ _ h => h) (Or.inl ⟨by rfl, ?_⟩) hS ?_
      rotate_left
      · intro W hW
        obtain ⟨s0, s1, s2⟩ := hW
        go_simp
        try with_reducible rfl
      simp only [List.setIfInBounds_toArray, List.set_cons_zero, List.set_cons_succ]
      refine wpAnyH_ready (rs := [1, 6]) (by kernel_rfl) (by simp) ?_
      refine AllReadyH.cons rfl (fun K hK => ?_) (AllReadyH.cons rfl (fun K hK => ?_) AllReadyH.nil)
      · go_simp
        refine hK.out _ _ hS fun _ => ?_
        clear hK K
        refine wpAnyH_ready (rs := [6]) (by kernel_rfl) (by simp) ?_
        refine AllReadyH.cons rfl (fun K hK => ?_) AllReadyH.nil
        go_simp
        refine (lrise_num Y hlvk _).mono ?_
        rintro e w4 ⟨rfl, rfl⟩
        refine hK.out _ _ hS fun _ => ?_
        clear hK K
        refine take_to (i := 7) (v := ?_) 24 rfl rfl (by kernel_rfl) (by kernel_rfl) (by kernel_rfl) (fun _ _ _ h => h) (Or.inl ⟨by rfl, ?_⟩) hS ?_
        rotate_left
        · intro W hW
          obtain ⟨s0, s1, s2⟩ := hW
          go_simp
          try with_reducible rfl
        simp only [List.setIfInBounds_toArray, List.set_cons_zero, List.set_cons_succ]
        refine wpAnyH_ready (rs := [10]) (by kernel_rfl) (by simp) ?_
        refine AllReadyH.cons rfl (fun K hK => ?_) AllReadyH.nil
        go_simp
        refine (appendUnlike_any so no co _ X (riseL Y) D ⟨HXb.1, hrl2⟩ _ W0.heap.size hsz2 hout2.own (by omega)).mono ?_
        rintro e w3 ⟨so', co', no', rfl, hown3, hno3, hg3⟩
        obtain ⟨_, _, m1, m2, m3⟩ := hout2.mid hg3
        have hS3 := HS3.out w3 hg3
        refine hK.out _ _ hS3 fun _ => ?_
        clear hK K
        refine take_to (i := 11) (v := ?_) 28 rfl rfl (by kernel_rfl) (by kernel_rfl) (by kernel_rfl) (fun _ _ _ h => h) (Or.inl ⟨by rfl, ?_⟩) hS3 ?_
        rotate_left
        · intro W hW
          obtain ⟨s0, s1, s2⟩ := hW
          go_simp
          try with_reducible rfl
        simp only [List.setIfInBounds_toArray, List.set_cons_zero, List.set_cons_succ]
        refine wpAnyH_ready (rs := [12]) (by kernel_rfl) (by simp) ?_
        refine AllReadyH.cons rfl (fun K hK => ?_) AllReadyH.nil
        go_simp
        have hout3 := hout2.store hg3 hown3
        refine hK.out _ _ ⟨hout3.c0, HS4.out _ _ hS3⟩ fun _ => ?_
        clear hK K
        refine wpAnyH_done (by kernel_rfl) ?_ _
        refine NoPanic.normal ?_
        go_wp2_with fail
        go_roundw
        case rel =>
          refine ⟨j + 1, so', no', co', by omega, by go_num, ?_, by omega⟩
          rw [take_snoc HX.out, List.map_append, List.map_singleton, cmb_snoc]
          exact hout3
        case measure => simp [intOf]; omega
      · go_simp
        refine (lrise_num Y hlvk _).mono ?_
        rintro e w4 ⟨rfl, rfl⟩
        refine hK.out _ _ hS fun _ => ?_
        clear hK K
        refine take_to (i := 7) (v := ?_) 24 rfl rfl (by kernel_rfl) (by kernel_rfl) (by kernel_rfl) (fun _ _ _ h => h) (Or.inl ⟨by rfl, ?_⟩) hS ?_
        rotate_left
        · intro W hW
          obtain ⟨s0, s1, s2⟩ := hW
          go_simp
          try with_reducible rfl
        simp only [List.setIfInBounds_toArray, List.set_cons_zero, List.set_cons_succ]
        refine wpAnyH_ready (rs := [1]) (by kernel_rfl) (by simp) ?_
        refine AllReadyH.cons rfl (fun K hK => ?_) AllReadyH.nil
        go_simp
        refine hK.out _ _ hS fun _ => ?_
        clear hK K
        refine wpAnyH_ready (rs := [10]) (by kernel_rfl) (by simp) ?_
        refine AllReadyH.cons rfl (fun K hK => ?_) AllReadyH.nil
        go_simp
        refine (appendUnlike_any so no co _ X (riseL Y) D ⟨HXb.1, hrl2⟩ _ W0.heap.size hsz2 hout2.own (by omega)).mono ?_
        rintro e w3 ⟨so', co', no', rfl, hown3, hno3, hg3⟩
        obtain ⟨_, _, m1, m2, m3⟩ := hout2.mid hg3
        have hS3 := HS3.out w3 hg3
        refine hK.out _ _ hS3 fun _ => ?_
        clear hK K
        refine take_to (i := 11) (v := ?_) 28 rfl rfl (by kernel_rfl) (by kernel_rfl) (by kernel_rfl) (fun _ _ _ h => h) (Or.inl ⟨by rfl, ?_⟩) hS3 ?_
        rotate_left
        · intro W hW
          obtain ⟨s0, s1, s2⟩ := hW
          go_simp
          try with_reducible rfl
        simp only [List.setIfInBounds_toArray, List.set_cons_zero, List.set_cons_succ]
        refine wpAnyH_ready (rs := [12]) (by kernel_rfl) (by simp) ?_
        refine AllReadyH.cons rfl (fun K hK => ?_) AllReadyH.nil
        go_simp
        have hout3 := hout2.store hg3 hown3
        refine hK.out _ _ ⟨hout3.c0, HS4.out _ _ hS3⟩ fun _ => ?_
        clear hK K
        refine wpAnyH_done (by kernel_rfl) ?_ _
        refine NoPanic.normal ?_
        go_wp2_with fail
        go_roundw
        case rel =>
          refine ⟨j + 1, so', no', co', by omega, by go_num, ?_, by omega⟩
          rw [take_snoc HX.out, List.map_append, List.map_singleton, cmb_snoc]
          exact hout3
        case measure => simp [intOf]; omega
    · obtain rfl : j = n := by omega
      have hRr := hout.heap hR (by omega)
      have r0 := cell_of_heap hRr 0 _ rfl
      have r1 := cell_of_heap hRr 1 _ rfl
      have f0 : wr.frozen? ⟨w.heap.size + 1, 0, none⟩ = false := frozen_of_row wr _ 0 _ 24 hRr
      have f1 : wr.frozen? ⟨w.heap.size + 1, 1, none⟩ = false := frozen_of_row wr _ 1 _ 24 hRr
      have g0 := hout.c0
      have g1 := hout.c1
      go_wp2_with fail
      obtain ⟨e1, e2, e3⟩ := hout.ret hR (by omega) (by omega) (by omega) hbW
      try simp only [Exit.inBlock, Exit.then]
      refine bodyPost_ret (ret_lab rfl _ _ (w.heap.size + 1) D so no co rfl e1) rfl ?_
      refine ⟨so, no, co, rfl, ?_, e3⟩
      rwa [List.take_of_length_le (by rw [hxl.out]; exact Nat.le_refl _)] at e2
theorem riseLab_any (d : Int) (a : Option Addr) (n cap : Nat) (xs : List (Int × Int)) (w : World) (hr : RowG PE w a n cap xs) (hlx : LvL d xs) (hbd : n ≤ 1000000) :
    Calls Try.prog 53 #[.agg #[.int .u8 d, .slice a n cap]] w fun e w' => ∃ so k co, e = .returned (.agg #[.int .u8 (riseL d), .slice so k co]) ∧ OwnG PE 40 w' w.heap.size so k co (riseP d xs) ∧ Below w.heap.size w w' :=
  rise_at_any _ d rfl a n cap xs w hr hlx hbd
end Go.Proofs.Ytdoemkncgfgkhaa
