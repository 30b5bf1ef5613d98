/- The document's Drop: contract. (Written by tools/drafts/arena/mkarref.py.) -/
import Derived.Test.YtafnonmpanpfkaaArRef
import Derived.Test.YtafnonmpanpfkaaRegionT
import Derived.Deep.CutRange
namespace Go.Proofs.Ytafnonmpanpfkaa
open Go.RowKit
set_option maxRecDepth 100000
set_option linter.unusedVariables false

section
variable {w w' : World} {S : Nat → Prop} {p : Nat} {v : Int} {ns : List Int} {ss : List (List Int)}
set_option maxHeartbeats 8000000 in
set_option maxRecDepth 100000 in
theorem refDrop_none (h : RM w S p v ns ss) (hbd : ns.length ≤ 1099511627776) (i : Int) (hno : ∀ k : Nat, ns[k]? ≠ some i) :
    Calls Try.prog 14 #[.pointer (some ⟨p, 0, none⟩), .int .u64 i] w fun e w' => e = .returned (.int .i64 7) ∧ Below w.heap.size w w' := by
  go_enter Try.func14, Try.ntmps14
  go_wp2_with fail
  refine (refAt_any h hbd i).mono ?_
  rintro e W0 ⟨k, q, rfl, hk, hlo, hhi, hqq, b1⟩
  obtain rfl : q = false := by
    cases q with
    | false => rfl
    | true => exact absurd (hqq.1 rfl) (hno k)
  go_wp2_with fail
  go_ret
  exact ⟨rfl, b1⟩
set_option maxHeartbeats 8000000 in
set_option maxRecDepth 100000 in
theorem refDrop_ok (h : RM w S p v ns ss) (hls : ss.length = ns.length) (hbd : ns.length ≤ 1099511627776) (i : Int) (k0 : Nat) (hki0 : ns[k0]? = some i) (hup : ns.Pairwise (· < ·)) :
    Calls Try.prog 14 #[.pointer (some ⟨p, 0, none⟩), .int .u64 i] w fun e w' => e = .returned (.int .i64 0) ∧ Tou S w w' ∧ ∃ k, ns[k]? = some i ∧ RM w' (gr S w w') p v (ns.take k ++ ns.drop (k + 1)) (ss.take k ++ ss.drop (k + 1)) := by
  have HLS : Hid (ss.length = ns.length) := hls
  go_enter Try.func14, Try.ntmps14
  go_wp2_with fail
  refine (refAt_any h hbd i).mono ?_
  rintro e W0 ⟨k, q, rfl, hk, hlo, hhi, hqq, bA⟩
  have hM := h.below bA
  have sA := bA.size
  have hki : ns[k]? = some i := by
    obtain ⟨hl0, he0⟩ := List.getElem?_eq_some_iff.1 hki0
    by_cases e1 : k0 < k
    · exact absurd (hlo k0 i hki0 e1) (by omega)
    · by_cases e2 : k = k0
      · rw [e2]; exact hki0
      · have hl : k < ns.length := by omega
        have h1 := hhi ns[k] (List.getElem?_eq_getElem hl)
        have h2 := List.pairwise_iff_getElem.1 hup k k0 hl hl0 (by omega)
        rw [he0] at h2
        omega
  obtain rfl : q = true := hqq.2 hki
  have hkn : k < ns.length := (List.getElem?_eq_some_iff.1 hki).1
  have HKI : Hid (ns[k]? = some i) := hki
  clear hlo hhi hqq h hki hki0 hup hls hk
  go_wp2_with fail
  go_cut [] from 15 to 33 (fun wc => RM wc (gr S W0 wc) p v (ns.take k ++ ns.drop (k + 1)) ss ∧ Tou S W0 wc)
  case first =>
    obtain ⟨ia, ic, sa, sc, hbox, h2, h3, h4, h5, h6, h7⟩ := id hM
    have d1 : W0.cell? ⟨p, 1, none⟩ = some (.slice ia ns.length ic) := by simp [World.cell?, hbox]
    have hcap := h2.row.cap_le
    have hro := h2.row
    have hpl := lt_of_cell d1
    obtain ⟨n, hn⟩ : ∃ n, n = ns.length := ⟨_, rfl⟩
    rw [← hn] at d1 hcap hro hkn hbd
    have HB : Hid (∀ W, Below W0.heap.size W0 W → W.cell? ⟨p, 1, none⟩ = some (.slice ia n ic) ∧ RowG EQ W ia n ic ns) := fun W hW => ⟨(hW.cell hpl).trans d1, hro.below hW⟩
    have hk : k ≤ n := by omega
    have hk1 : k + 1 ≤ n := by omega
    have hkc : k ≤ ic := by omega
    have hkc2 : (k : Int) ≤ (ic : Int) := by omega
    have hkc3 : (k : Int) + 1 ≤ (ic : Int) := by omega
    have hk2 : (k : Int) ≤ (n : Int) := by omega
    have hk3 : (k : Int) + 1 ≤ (n : Int) := by omega
    have hk4 : (0 : Int) ≤ (k : Int) + 1 := by omega
    have hk5 : ((k : Int) + 1).toNat = k + 1 := by omega
    have hw1 : IntKind.i64.wrap ((k : Int) + 1) = (k : Int) + 1 := by rw [IntKind.wrap_i64]; omega
    clear hn d1 hro h2 h3 h4 h5 h6 h7
    refine wp_region_noPanic ?_
    refine wp_region_T (S := fun W => Below W0.heap.size W0 W) (by kernel_rfl) (ext_drew W0) fun hS => ?_
    refine takeT_to (i := 0) (v := ?_) 15 rfl rfl (by kernel_rfl) (by kernel_rfl) (by kernel_rfl) (by kernel_rfl) (fun _ _ _ h => h) (Or.inl ⟨by rfl, ?_⟩) hS ?_
    rotate_left
    · intro W hW
      have s0 := (HB.out W hW).1
      go_simp
      try with_reducible rfl
    simp only [List.setIfInBounds_toArray, List.set_cons_zero, List.set_cons_succ]
    refine takeT_to (i := 2) (v := ?_) 17 rfl rfl (by kernel_rfl) (by kernel_rfl) (by kernel_rfl) (by kernel_rfl) (fun _ _ _ h => h) (Or.inl ⟨by rfl, ?_⟩) hS ?_
    rotate_left
    · intro W hW
      have s0 := (HB.out W hW).1
      go_simp
      try with_reducible rfl
    simp only [List.setIfInBounds_toArray, List.set_cons_zero, List.set_cons_succ]
    refine takeT_to (i := 3) (v := ?_) 18 rfl rfl (by kernel_rfl) (by kernel_rfl) (by kernel_rfl) (by kernel_rfl) (fun _ _ _ h => h) (Or.inl ⟨by rfl, ?_⟩) hS ?_
    rotate_left
    · intro W hW
      have s0 := (HB.out W hW).1
      go_simp
      try with_reducible rfl
    simp only [List.setIfInBounds_toArray, List.set_cons_zero, List.set_cons_succ]
    refine takeT_to (i := 4) (v := ?_) 19 rfl rfl (by kernel_rfl) (by kernel_rfl) (by kernel_rfl) (by kernel_rfl) (fun _ _ _ h => h) (Or.inl ⟨by rfl, ?_⟩) hS ?_
    rotate_left
    · intro W hW
      have s0 := (HB.out W hW).1
      go_simp
      try with_reducible rfl
    simp only [List.setIfInBounds_toArray, List.set_cons_zero, List.set_cons_succ]
    refine takeT_to (i := 5) (v := ?_) 20 rfl rfl (by kernel_rfl) (by kernel_rfl) (by kernel_rfl) (by kernel_rfl) (fun _ _ _ h => h) (Or.inl ⟨by rfl, ?_⟩) hS ?_
    rotate_left
    · intro W hW
      have s0 := (HB.out W hW).1
      go_simp
      try with_reducible rfl
    simp only [List.setIfInBounds_toArray, List.set_cons_zero, List.set_cons_succ]
    refine takeT_to (i := 6) (v := ?_) 21 rfl rfl (by kernel_rfl) (by kernel_rfl) (by kernel_rfl) (by kernel_rfl) (fun _ _ _ h => h) (Or.inl ⟨by rfl, ?_⟩) hS ?_
    rotate_left
    · intro W hW
      have s0 := (HB.out W hW).1
      go_simp
      try with_reducible rfl
    simp only [List.setIfInBounds_toArray, List.set_cons_zero, List.set_cons_succ]
    refine takeT_to (i := 7) (v := ?_) 22 rfl rfl (by kernel_rfl) (by kernel_rfl) (by kernel_rfl) (by kernel_rfl) (fun _ _ _ h => h) (Or.inl ⟨by rfl, ?_⟩) hS ?_
    rotate_left
    · intro W hW
      have s0 := (HB.out W hW).1
      go_simp
      try with_reducible rfl
    simp only [List.setIfInBounds_toArray, List.set_cons_zero, List.set_cons_succ]
    refine takeT_to (i := 9) (v := ?_) 24 rfl rfl (by kernel_rfl) (by kernel_rfl) (by kernel_rfl) (by kernel_rfl) (fun _ _ _ h => h) (Or.inl ⟨by rfl, ?_⟩) hS ?_
    rotate_left
    · intro W hW
      have s0 := (HB.out W hW).1
      go_simp
      try with_reducible rfl
    simp only [List.setIfInBounds_toArray, List.set_cons_zero, List.set_cons_succ]
    refine takeT_to (i := 10) (v := ?_) 25 rfl rfl (by kernel_rfl) (by kernel_rfl) (by kernel_rfl) (by kernel_rfl) (fun _ _ _ h => h) (Or.inl ⟨by rfl, ?_⟩) hS ?_
    rotate_left
    · intro W hW
      have s0 := (HB.out W hW).1
      go_simp
      try with_reducible rfl
    simp only [List.setIfInBounds_toArray, List.set_cons_zero, List.set_cons_succ]
    refine takeT_to (i := 11) (v := ?_) 26 rfl rfl (by kernel_rfl) (by kernel_rfl) (by kernel_rfl) (by kernel_rfl) (fun _ _ _ h => h) (Or.inl ⟨by rfl, ?_⟩) hS ?_
    rotate_left
    · intro W hW
      have s0 := (HB.out W hW).1
      go_simp
      try with_reducible rfl
    simp only [List.setIfInBounds_toArray, List.set_cons_zero, List.set_cons_succ]
    refine takeT_to (i := 12) (v := ?_) 27 rfl rfl (by kernel_rfl) (by kernel_rfl) (by kernel_rfl) (by kernel_rfl) (fun _ _ _ h => h) (Or.inl ⟨by rfl, ?_⟩) hS ?_
    rotate_left
    · intro W hW
      have s0 := (HB.out W hW).1
      go_simp
      try with_reducible rfl
    simp only [List.setIfInBounds_toArray, List.set_cons_zero, List.set_cons_succ]
    refine takeT_to (i := 13) (v := ?_) 28 rfl rfl (by kernel_rfl) (by kernel_rfl) (by kernel_rfl) (by kernel_rfl) (fun _ _ _ h => h) (Or.inl ⟨by rfl, ?_⟩) hS ?_
    rotate_left
    · intro W hW
      have s0 := (HB.out W hW).1
      go_simp
      try with_reducible rfl
    simp only [List.setIfInBounds_toArray, List.set_cons_zero, List.set_cons_succ]
    refine takeT_to (i := 14) (v := ?_) 29 rfl rfl (by kernel_rfl) (by kernel_rfl) (by kernel_rfl) (by kernel_rfl) (fun _ _ _ h => h) (Or.inl ⟨by rfl, ?_⟩) hS ?_
    rotate_left
    · intro W hW
      have s0 := (HB.out W hW).1
      go_simp
      try with_reducible rfl
    simp only [List.setIfInBounds_toArray, List.set_cons_zero, List.set_cons_succ]
    refine takeT_to (i := 15) (v := ?_) 30 rfl rfl (by kernel_rfl) (by kernel_rfl) (by kernel_rfl) (by kernel_rfl) (fun _ _ _ h => h) (Or.inl ⟨by rfl, ?_⟩) hS ?_
    rotate_left
    · intro W hW
      have s0 := (HB.out W hW).1
      go_simp
      try with_reducible rfl
    simp only [List.setIfInBounds_toArray, List.set_cons_zero, List.set_cons_succ]
    refine wpAnyT_ready (rs := [1]) (by kernel_rfl) (by simp) ?_
    refine AllReadyT.cons rfl (fun K hK => ?_) AllReadyT.nil
    go_simp
    have hb1 : Below W0.heap.size W0 ((W0.drew).alloc (.cells #[] 31)) := hS.alloc hS.size _
    refine hK.out _ _ (fun _ => hb1) ?_
    have o1 : OwnG EQ 31 ((W0.drew).alloc (.cells #[] 31)) W0.heap.size (some ⟨W0.heap.size, 0, none⟩) 0 0 [] := owng_lit EQ _ 31 [] _ rfl 0 rfl (by omega) Enc.Ok.nil _ _ (by simp) (by omega)
    clear hK K
    refine wpAnyT_ready (rs := [8]) (by kernel_rfl) (by simp) ?_
    refine AllReadyT.cons rfl (fun K hK => ?_) AllReadyT.nil
    refine Eq.mpr (if_pos (by kernel_rfl)) ?_
    refine op_append_g _ (.tmp 16) (.tmp 22) 27 rfl 31 Try.underlying27 _ _ infoEQ rfl (by omega) W0.heap.size 0 0 _ [] rfl o1 ia k ic (ns.take k) rfl ((HB.out _ hb1).2.pre k hk) ?_ hb1.size W0 hb1 ?_
    · omega
    intro s8 c8 w8 o2 hb8 g8
    refine hK.out _ _ (fun _ => hb8) ?_
    rw [List.nil_append] at o2
    clear hK K
    refine wpAnyT_ready (rs := [16]) (by kernel_rfl) (by simp) ?_
    refine AllReadyT.cons rfl (fun K hK => ?_) AllReadyT.nil
    refine Eq.mpr (if_pos (by kernel_rfl)) ?_
    refine op_append_g _ (.tmp 23) (.tmp 30) 27 rfl 31 Try.underlying27 _ _ infoEQ rfl (by omega) W0.heap.size _ _ _ _ rfl o2 _ _ _ (ns.drop (k + 1)) rfl ((HB.out _ hb8).2.from rfl (k + 1) hk1) ?_ hb8.size W0 hb8 ?_
    · omega
    intro s16 c16 w16 o4 hb16 g16
    refine hK.out _ _ (fun _ => hb16) ?_
    obtain ⟨q1, q2⟩ := cell_fz ((hb16.block p hpl).trans hbox) 1 _ rfl
    clear hK K
    refine wpAnyT_ready (rs := [17]) (by kernel_rfl) (by simp) ?_
    refine AllReadyT.cons rfl (fun K hK => ?_) AllReadyT.nil
    go_simp
    refine hK.out _ _ (fun _ => hb16) ?_
    clear hK K
    refine wpAnyT_ready (rs := [18]) (by kernel_rfl) (by simp) ?_
    refine AllReadyT.cons rfl (fun K hK => ?_) AllReadyT.nil
    go_simp
    refine hK.out _ _ (fun _ => hb16) ?_
    clear hK K
    refine wpAnyT_ready (rs := [19]) (by kernel_rfl) (by simp) ?_
    refine AllReadyT.cons rfl (fun K hK => ?_) AllReadyT.nil
    go_simp
    refine hK.out _ _ (fun h => by cases h) ?_
    clear hK K
    refine wpAnyT_done (by kernel_rfl) ?_ _
    refine NoPanic.normal ?_
    go_wp2_with fail
    all_goals
      (try simp only [Nat.zero_add] at o4)
      go_meet
      exact hM.setIDs hb16 o4
  case rest =>
    obtain ⟨hM2, t2⟩ := hcut
    obtain ⟨W5, hW5⟩ : ∃ W5, W5 = wc := ⟨_, rfl⟩
    rw [← hW5] at hM2 t2 ⊢
    clear hW5
    have hkn2 : k < ss.length := by have := HLS.out; omega
    obtain ⟨ia, ic, sa, sc, hbox, h2, h3, h4, h5, h6, h7⟩ := id hM2
    have d1 : W5.cell? ⟨p, 2, none⟩ = some (.slice sa ss.length sc) := by simp [World.cell?, hbox]
    have hcap := h3.row.cap_le
    have hro := h3.row
    have hpl := lt_of_cell d1
    have hbd2 : ss.length ≤ 1099511627776 := by have := HLS.out; omega
    clear hbd hkn
    obtain ⟨n, hn⟩ : ∃ n, n = ss.length := ⟨_, rfl⟩
    rw [← hn] at d1 hcap hro hkn2 hbd2
    have hkn := hkn2
    have HB : Hid (∀ W, Below W5.heap.size W5 W → W.cell? ⟨p, 2, none⟩ = some (.slice sa n sc) ∧ RowG ES W sa n sc ss) := fun W hW => ⟨(hW.cell hpl).trans d1, hro.below hW⟩
    have tA : Tou S w W5 := (Tou.of_below bA S).more t2
    have hk : k ≤ n := by omega
    have hk1 : k + 1 ≤ n := by omega
    have hkc : k ≤ sc := by omega
    have hkc2 : (k : Int) ≤ (sc : Int) := by omega
    have hkc3 : (k : Int) + 1 ≤ (sc : Int) := by omega
    have hk2 : (k : Int) ≤ (n : Int) := by omega
    have hk3 : (k : Int) + 1 ≤ (n : Int) := by omega
    have hk4 : (0 : Int) ≤ (k : Int) + 1 := by omega
    have hk5 : ((k : Int) + 1).toNat = k + 1 := by omega
    have hw1 : IntKind.i64.wrap ((k : Int) + 1) = (k : Int) + 1 := by rw [IntKind.wrap_i64]; omega
    clear hn d1 hro h2 h3 h4 h5 h6 h7 hkn2
    go_wp2_with fail
    refine wp_region_noPanic ?_
    refine wp_region_T (S := fun W => Below W5.heap.size W5 W) (by kernel_rfl) (ext_drew W5) fun hS => ?_
    refine takeT_to (i := 0) (v := ?_) 34 rfl rfl (by kernel_rfl) (by kernel_rfl) (by kernel_rfl) (by kernel_rfl) (fun _ _ _ h => h) (Or.inl ⟨by rfl, ?_⟩) hS ?_
    rotate_left
    · intro W hW
      have s0 := (HB.out W hW).1
      go_simp
      try with_reducible rfl
    simp only [List.setIfInBounds_toArray, List.set_cons_zero, List.set_cons_succ]
    refine takeT_to (i := 2) (v := ?_) 36 rfl rfl (by kernel_rfl) (by kernel_rfl) (by kernel_rfl) (by kernel_rfl) (fun _ _ _ h => h) (Or.inl ⟨by rfl, ?_⟩) hS ?_
    rotate_left
    · intro W hW
      have s0 := (HB.out W hW).1
      go_simp
      try with_reducible rfl
    simp only [List.setIfInBounds_toArray, List.set_cons_zero, List.set_cons_succ]
    refine takeT_to (i := 3) (v := ?_) 37 rfl rfl (by kernel_rfl) (by kernel_rfl) (by kernel_rfl) (by kernel_rfl) (fun _ _ _ h => h) (Or.inl ⟨by rfl, ?_⟩) hS ?_
    rotate_left
    · intro W hW
      have s0 := (HB.out W hW).1
      go_simp
      try with_reducible rfl
    simp only [List.setIfInBounds_toArray, List.set_cons_zero, List.set_cons_succ]
    refine takeT_to (i := 4) (v := ?_) 38 rfl rfl (by kernel_rfl) (by kernel_rfl) (by kernel_rfl) (by kernel_rfl) (fun _ _ _ h => h) (Or.inl ⟨by rfl, ?_⟩) hS ?_
    rotate_left
    · intro W hW
      have s0 := (HB.out W hW).1
      go_simp
      try with_reducible rfl
    simp only [List.setIfInBounds_toArray, List.set_cons_zero, List.set_cons_succ]
    refine takeT_to (i := 5) (v := ?_) 39 rfl rfl (by kernel_rfl) (by kernel_rfl) (by kernel_rfl) (by kernel_rfl) (fun _ _ _ h => h) (Or.inl ⟨by rfl, ?_⟩) hS ?_
    rotate_left
    · intro W hW
      have s0 := (HB.out W hW).1
      go_simp
      try with_reducible rfl
    simp only [List.setIfInBounds_toArray, List.set_cons_zero, List.set_cons_succ]
    refine takeT_to (i := 6) (v := ?_) 40 rfl rfl (by kernel_rfl) (by kernel_rfl) (by kernel_rfl) (by kernel_rfl) (fun _ _ _ h => h) (Or.inl ⟨by rfl, ?_⟩) hS ?_
    rotate_left
    · intro W hW
      have s0 := (HB.out W hW).1
      go_simp
      try with_reducible rfl
    simp only [List.setIfInBounds_toArray, List.set_cons_zero, List.set_cons_succ]
    refine takeT_to (i := 7) (v := ?_) 41 rfl rfl (by kernel_rfl) (by kernel_rfl) (by kernel_rfl) (by kernel_rfl) (fun _ _ _ h => h) (Or.inl ⟨by rfl, ?_⟩) hS ?_
    rotate_left
    · intro W hW
      have s0 := (HB.out W hW).1
      go_simp
      try with_reducible rfl
    simp only [List.setIfInBounds_toArray, List.set_cons_zero, List.set_cons_succ]
    refine takeT_to (i := 9) (v := ?_) 43 rfl rfl (by kernel_rfl) (by kernel_rfl) (by kernel_rfl) (by kernel_rfl) (fun _ _ _ h => h) (Or.inl ⟨by rfl, ?_⟩) hS ?_
    rotate_left
    · intro W hW
      have s0 := (HB.out W hW).1
      go_simp
      try with_reducible rfl
    simp only [List.setIfInBounds_toArray, List.set_cons_zero, List.set_cons_succ]
    refine takeT_to (i := 10) (v := ?_) 44 rfl rfl (by kernel_rfl) (by kernel_rfl) (by kernel_rfl) (by kernel_rfl) (fun _ _ _ h => h) (Or.inl ⟨by rfl, ?_⟩) hS ?_
    rotate_left
    · intro W hW
      have s0 := (HB.out W hW).1
      go_simp
      try with_reducible rfl
    simp only [List.setIfInBounds_toArray, List.set_cons_zero, List.set_cons_succ]
    refine takeT_to (i := 11) (v := ?_) 45 rfl rfl (by kernel_rfl) (by kernel_rfl) (by kernel_rfl) (by kernel_rfl) (fun _ _ _ h => h) (Or.inl ⟨by rfl, ?_⟩) hS ?_
    rotate_left
    · intro W hW
      have s0 := (HB.out W hW).1
      go_simp
      try with_reducible rfl
    simp only [List.setIfInBounds_toArray, List.set_cons_zero, List.set_cons_succ]
    refine takeT_to (i := 12) (v := ?_) 46 rfl rfl (by kernel_rfl) (by kernel_rfl) (by kernel_rfl) (by kernel_rfl) (fun _ _ _ h => h) (Or.inl ⟨by rfl, ?_⟩) hS ?_
    rotate_left
    · intro W hW
      have s0 := (HB.out W hW).1
      go_simp
      try with_reducible rfl
    simp only [List.setIfInBounds_toArray, List.set_cons_zero, List.set_cons_succ]
    refine takeT_to (i := 13) (v := ?_) 47 rfl rfl (by kernel_rfl) (by kernel_rfl) (by kernel_rfl) (by kernel_rfl) (fun _ _ _ h => h) (Or.inl ⟨by rfl, ?_⟩) hS ?_
    rotate_left
    · intro W hW
      have s0 := (HB.out W hW).1
      go_simp
      try with_reducible rfl
    simp only [List.setIfInBounds_toArray, List.set_cons_zero, List.set_cons_succ]
    refine takeT_to (i := 14) (v := ?_) 48 rfl rfl (by kernel_rfl) (by kernel_rfl) (by kernel_rfl) (by kernel_rfl) (fun _ _ _ h => h) (Or.inl ⟨by rfl, ?_⟩) hS ?_
    rotate_left
    · intro W hW
      have s0 := (HB.out W hW).1
      go_simp
      try with_reducible rfl
    simp only [List.setIfInBounds_toArray, List.set_cons_zero, List.set_cons_succ]
    refine takeT_to (i := 15) (v := ?_) 49 rfl rfl (by kernel_rfl) (by kernel_rfl) (by kernel_rfl) (by kernel_rfl) (fun _ _ _ h => h) (Or.inl ⟨by rfl, ?_⟩) hS ?_
    rotate_left
    · intro W hW
      have s0 := (HB.out W hW).1
      go_simp
      try with_reducible rfl
    simp only [List.setIfInBounds_toArray, List.set_cons_zero, List.set_cons_succ]
    refine wpAnyT_ready (rs := [1]) (by kernel_rfl) (by simp) ?_
    refine AllReadyT.cons rfl (fun K hK => ?_) AllReadyT.nil
    go_simp
    have hb1 : Below W5.heap.size W5 ((W5.drew).alloc (.cells #[] 9)) := hS.alloc hS.size _
    refine hK.out _ _ (fun _ => hb1) ?_
    have o1 : OwnG ES 9 ((W5.drew).alloc (.cells #[] 9)) W5.heap.size (some ⟨W5.heap.size, 0, none⟩) 0 0 [] := owng_lit ES _ 9 [] _ rfl 0 rfl (by omega) Enc.Ok.nil _ _ (by simp) (by omega)
    clear hK K
    refine wpAnyT_ready (rs := [8]) (by kernel_rfl) (by simp) ?_
    refine AllReadyT.cons rfl (fun K hK => ?_) AllReadyT.nil
    refine Eq.mpr (if_pos (by kernel_rfl)) ?_
    refine op_append_g _ (.tmp 35) (.tmp 41) 28 rfl 9 Try.underlying28 _ _ infoES rfl (by omega) W5.heap.size 0 0 _ [] rfl o1 sa k sc (ss.take k) rfl ((HB.out _ hb1).2.pre k hk) ?_ hb1.size W5 hb1 ?_
    · omega
    intro s8 c8 w8 o2 hb8 g8
    refine hK.out _ _ (fun _ => hb8) ?_
    rw [List.nil_append] at o2
    clear hK K
    refine wpAnyT_ready (rs := [16]) (by kernel_rfl) (by simp) ?_
    refine AllReadyT.cons rfl (fun K hK => ?_) AllReadyT.nil
    refine Eq.mpr (if_pos (by kernel_rfl)) ?_
    refine op_append_g _ (.tmp 42) (.tmp 49) 28 rfl 9 Try.underlying28 _ _ infoES rfl (by omega) W5.heap.size _ _ _ _ rfl o2 _ _ _ (ss.drop (k + 1)) rfl ((HB.out _ hb8).2.from rfl (k + 1) hk1) ?_ hb8.size W5 hb8 ?_
    · omega
    intro s16 c16 w16 o4 hb16 g16
    refine hK.out _ _ (fun _ => hb16) ?_
    obtain ⟨q1, q2⟩ := cell_fz ((hb16.block p hpl).trans hbox) 2 _ rfl
    clear hK K
    refine wpAnyT_ready (rs := [17]) (by kernel_rfl) (by simp) ?_
    refine AllReadyT.cons rfl (fun K hK => ?_) AllReadyT.nil
    go_simp
    refine hK.out _ _ (fun _ => hb16) ?_
    clear hK K
    refine wpAnyT_ready (rs := [18]) (by kernel_rfl) (by simp) ?_
    refine AllReadyT.cons rfl (fun K hK => ?_) AllReadyT.nil
    go_simp
    refine hK.out _ _ (fun _ => hb16) ?_
    clear hK K
    refine wpAnyT_ready (rs := [19]) (by kernel_rfl) (by simp) ?_
    refine AllReadyT.cons rfl (fun K hK => ?_) AllReadyT.nil
    go_simp
    refine hK.out _ _ (fun h => by cases h) ?_
    clear hK K
    refine wpAnyT_done (by kernel_rfl) ?_ _
    refine NoPanic.normal ?_
    go_wp2
    all_goals
      (try simp only [Nat.zero_add] at o4)
      go_ret
      obtain ⟨hz, tz⟩ := hM2.setRecs hb16 o4
      have tf := tA.trans tz (fun q hq => hq.imp id (fun hq => by omega))
      exact ⟨rfl, tf, k, HKI.out, hz.outer sA t2.size tz.size (fun q hq => Nat.lt_of_lt_of_le (hM.lt q hq) (Nat.le_trans t2.size tz.size))⟩
end
end Go.Proofs.Ytafnonmpanpfkaa
