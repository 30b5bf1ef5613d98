/- What the document's own PutLabel answers: a contract. -/
import Derived.Test.YtldkelpngeopmaaLcTake
import Derived.Test.YtldkelpngeopmaaJNum
namespace Go.Proofs.Ytldkelpngeopmaa
open Go.RowKit
set_option maxRecDepth 100000
set_option linter.unusedVariables false

theorem byt2 {x y : Int} (hx : 0 ≤ x ∧ x < 256) (hy : 0 ≤ y ∧ y < 256) : Byt [x, y] := fun z hz => by
  simp at hz
  rcases hz with rfl | rfl
  · exact hx
  · exact hy

set_option maxHeartbeats 4000000 in
theorem refPutL_any (a : Option Addr) (len cap : Nat) (bs : List Int) (d : Int) (b : Option Addr) (n c : Nat) (xs : List (Int × Int)) (w : World) (hr : Row w a len cap bs) (hs : RowG PE w b n c xs) (hm : mayB d xs = true) (hbd : len ≤ 1000000000) :
    Calls Try.prog 19 #[.slice a len cap, .agg #[.int .u8 d, .slice b n c]] w fun e w' => ∃ g cap', e = .returned (.slice (some ⟨g, 0, none⟩) (len + (2 + 3 * n)) cap') ∧ Own 5 w' w.heap.size g (len + (2 + 3 * n)) cap' (bs ++ encL d xs) ∧ Below w.heap.size w w' := by
  have hmm := mayB_iff.1 hm
  have hxl : Hid (xs.length = n) := hs.len
  have hn16 : n ≤ 16 := by have := hxl.out; omega
  have hd : 0 ≤ d ∧ d < 256 := by omega
  have hn256 : 0 ≤ (n : Int) ∧ (n : Int) < 256 := by omega
  have hcap := hs.cap_le
  clear hmm
  have hwn : IntKind.u8.wrap (n : Int) = (n : Int) := by rw [IntKind.wrap_u8]; omega
  obtain ⟨W, hW⟩ : ∃ W, W = w.alloc (.cells #[.int .u8 d, .slice b n c] 25) := ⟨_, rfl⟩
  have hbW : Below w.heap.size w W := by rw [hW]; exact below_alloc _ _
  have k0 : W.cell? ⟨w.heap.size, 0, none⟩ = some (.int .u8 d) := by rw [hW]; simp
  have k1 : W.cell? ⟨w.heap.size, 1, none⟩ = some (.slice b n c) := by rw [hW]; simp
  have HW : Hid (W = w.alloc (.cells #[.int .u8 d, .slice b n c] 25)) := hW
  clear hW
  have HC : Hid (∀ V, Below W.heap.size W V → V.cell? ⟨w.heap.size, 0, none⟩ = some (.int .u8 d) ∧ V.cell? ⟨w.heap.size, 1, none⟩ = some (.slice b n c) ∧ Row V a len cap bs ∧ RowG PE V b n c xs) := fun V h =>
    ⟨by rw [h.cell (lt_of_cell k0)]; exact k0, by rw [h.cell (lt_of_cell k1)]; exact k1, hr.below (ext_trans hbW h), hs.below (ext_trans hbW h)⟩
  go_enter Try.func19, Try.ntmps19
  go_wp2_with fail
  rw [← HW.out]
  rename_i K hK
  have cont : Hid (∀ (ac : Act) (V : World) (g cc : Nat), ac = { tmps := #[.slice (some ⟨g, 0, none⟩) (len + 2) cc, slt ac 1, slt ac 2, .pointer (some ⟨w.heap.size, 0, none⟩), slt ac 4, slt ac 5, slt ac 6, slt ac 7, slt ac 8, slt ac 9, slt ac 10, slt ac 11, slt ac 12, slt ac 13, slt ac 14, slt ac 15, slt ac 16, slt ac 17, slt ac 18, slt ac 19, slt ac 20, slt ac 21, slt ac 22, slt ac 23, slt ac 24, slt ac 25, slt ac 26, slt ac 27, slt ac 28, slt ac 29, slt ac 30, slt ac 31, slt ac 32, slt ac 33, slt ac 34, slt ac 35, slt ac 36, slt ac 37, slt ac 38, slt ac 39, slt ac 40, slt ac 41], defers := [] } →
      Own 5 V W.heap.size g (len + 2) cc (bs ++ [d, (n : Int)]) → Below W.heap.size W V → K ac V) := by
    intro ac V g cc hact ho hbV
    generalize slt ac = s at hact
    subst hact
    refine hK _ _ ?_
    obtain ⟨_, q1, _⟩ := HC.out V hbV
    go_wp2_with fail
    go_loopw [0, 5] (fun o iv wr => ∃ (j L g cc : Nat), j ≤ n ∧ L = len + (2 + 3 * j) ∧ iv = .int .i64 j ∧ o = .slice (some ⟨g, 0, none⟩) L cc ∧ Own 5 wr w.heap.size g L cc (bs ++ (putB d 1 ++ putB n 1 ++ encP (xs.take j))) ∧ Below W.heap.size W wr) (fun _ i _ => n - (intOf i).toNat)
    case atStart =>
      refine ⟨0, len + 2, g, cc, by omega, by omega, rfl, rfl, ?_, hbV⟩
      rw [putB_one' d hd, putB_one' _ hn256]
      simpa [encP] using ho.mono hbW.size
    case round =>
      clear ho
      obtain ⟨j, L, g, cc, hj, hL, rfl, rfl, hown, hb⟩ := hrel
      have HL : Hid (L = len + (2 + 3 * j)) := hL
      have hL1 : L ≤ 1000001000 := by omega
      clear hL
      obtain ⟨_, q1r, _, hsr⟩ := HC.out wr hb
      by_cases hlt : j < n
      case neg =>
        obtain rfl : j = n := by omega
        rw [List.take_of_length_le (by rw [hxl.out]; exact Nat.le_refl _)] at hown
        go_wp2_with fail
        go_ret
        rw [← HL.out]
        refine ⟨g, cc, rfl, ?_, ext_trans hbW hb⟩
        rw [encL, hxl.out]
        exact hown
      have hp : (j : Int) < (n : Int) := by omega
      obtain ⟨bb, off, rfl, _⟩ := hs.at (by omega)
      obtain ⟨X, Y, hX, HXb⟩ := hs.get2 j hlt
      obtain ⟨t1, t2⟩ := hsr.pair hX
      have HCl : Hid (∀ V, Below wr.heap.size wr V → V.cell? ⟨w.heap.size, 1, none⟩ = some (.slice (some ⟨bb, off, none⟩) n c) ∧ V.cell? _ = some (.int .u16 X) ∧ V.cell? _ = some (.int .u8 Y)) := fun V h =>
        ⟨by rw [h.cell (lt_of_cell q1r)]; exact q1r, by rw [h.cell (lt_of_cell t1)]; exact t1, by rw [h.cell (lt_of_cell t2)]; exact t2⟩
      have HX : Hid (xs[j]? = some (X, Y)) := hX
      clear hX
      have hwX : IntKind.u64.wrap X = X := by rw [IntKind.wrap_u64]; omega
      go_wp2_with fail
      refine wp_region_noPanic ?_
      refine wp_region_held_drew (S := fun V => Below wr.heap.size wr V) (by kernel_rfl) (ext_drew wr) fun hS => ?_
      obtain ⟨Wd, hWd⟩ : ∃ x, x = wr.drew := ⟨_, rfl⟩
      rw [← hWd]
      rw [← hWd] at hS
      have hBd : Below wr.heap.size wr Wd := hWd ▸ ext_drew _
      clear hWd
      refine take_to (i := 0) (v := ?_) 24 rfl rfl (by kernel_rfl) (by kernel_rfl) (by kernel_rfl) (fun _ _ _ h => h) (Or.inl ⟨by rfl, ?_⟩) hS ?_
      rotate_left
      · intro W hW
        obtain ⟨s1, s2, s3⟩ := HCl.out W hW
        go_simp
        try with_reducible rfl
      simp only [List.setIfInBounds_toArray, List.set_cons_zero, List.set_cons_succ]
      refine take_to (i := 1) (v := ?_) 25 rfl rfl (by kernel_rfl) (by kernel_rfl) (by kernel_rfl) (fun _ _ _ h => h) (Or.inl ⟨by rfl, ?_⟩) hS ?_
      rotate_left
      · intro W hW
        obtain ⟨s1, s2, s3⟩ := HCl.out W hW
        go_simp
        try with_reducible rfl
      simp only [List.setIfInBounds_toArray, List.set_cons_zero, List.set_cons_succ]
      refine take_to (i := 2) (v := ?_) 26 rfl rfl (by kernel_rfl) (by kernel_rfl) (by kernel_rfl) (fun _ _ _ h => h) (Or.inl ⟨by rfl, ?_⟩) hS ?_
      rotate_left
      · intro W hW
        obtain ⟨s1, s2, s3⟩ := HCl.out W hW
        go_simp
        try with_reducible rfl
      simp only [List.setIfInBounds_toArray, List.set_cons_zero, List.set_cons_succ]
      refine take_to (i := 3) (v := ?_) 27 rfl rfl (by kernel_rfl) (by kernel_rfl) (by kernel_rfl) (fun _ _ _ h => h) (Or.inl ⟨by rfl, ?_⟩) hS ?_
      rotate_left
      · intro W hW
        obtain ⟨s1, s2, s3⟩ := HCl.out W hW
        go_simp
        try with_reducible rfl
      simp only [List.setIfInBounds_toArray, List.set_cons_zero, List.set_cons_succ]
      refine take_to (i := 4) (v := ?_) 28 rfl rfl (by kernel_rfl) (by kernel_rfl) (by kernel_rfl) (fun _ _ _ h => h) (Or.inl ⟨by rfl, ?_⟩) hS ?_
      rotate_left
      · intro W hW
        obtain ⟨s1, s2, s3⟩ := HCl.out W hW
        go_simp
        try with_reducible rfl
      simp only [List.setIfInBounds_toArray, List.set_cons_zero, List.set_cons_succ]
      refine take_to (i := 5) (v := ?_) 29 rfl rfl (by kernel_rfl) (by kernel_rfl) (by kernel_rfl) (fun _ _ _ h => h) (Or.inl ⟨by rfl, ?_⟩) hS ?_
      rotate_left
      · intro W hW
        obtain ⟨s1, s2, s3⟩ := HCl.out W hW
        go_simp
        try with_reducible rfl
      simp only [List.setIfInBounds_toArray, List.set_cons_zero, List.set_cons_succ]
      refine take_to (i := 6) (v := ?_) 30 rfl rfl (by kernel_rfl) (by kernel_rfl) (by kernel_rfl) (fun _ _ _ h => h) (Or.inl ⟨by rfl, ?_⟩) hS ?_
      rotate_left
      · intro W hW
        obtain ⟨s1, s2, s3⟩ := HCl.out W hW
        go_simp
        try with_reducible rfl
      simp only [List.setIfInBounds_toArray, List.set_cons_zero, List.set_cons_succ]
      refine take_to (i := 7) (v := ?_) 31 rfl rfl (by kernel_rfl) (by kernel_rfl) (by kernel_rfl) (fun _ _ _ h => h) (Or.inl ⟨by rfl, ?_⟩) hS ?_
      rotate_left
      · intro W hW
        obtain ⟨s1, s2, s3⟩ := HCl.out W hW
        go_simp
        try with_reducible rfl
      simp only [List.setIfInBounds_toArray, List.set_cons_zero, List.set_cons_succ]
      refine take_to (i := 9) (v := ?_) 33 rfl rfl (by kernel_rfl) (by kernel_rfl) (by kernel_rfl) (fun _ _ _ h => h) (Or.inl ⟨by rfl, ?_⟩) hS ?_
      rotate_left
      · intro W hW
        obtain ⟨s1, s2, s3⟩ := HCl.out W hW
        go_simp
        try with_reducible rfl
      simp only [List.setIfInBounds_toArray, List.set_cons_zero, List.set_cons_succ]
      refine take_to (i := 10) (v := ?_) 34 rfl rfl (by kernel_rfl) (by kernel_rfl) (by kernel_rfl) (fun _ _ _ h => h) (Or.inl ⟨by rfl, ?_⟩) hS ?_
      rotate_left
      · intro W hW
        obtain ⟨s1, s2, s3⟩ := HCl.out W hW
        go_simp
        try with_reducible rfl
      simp only [List.setIfInBounds_toArray, List.set_cons_zero, List.set_cons_succ]
      refine take_to (i := 11) (v := ?_) 35 rfl rfl (by kernel_rfl) (by kernel_rfl) (by kernel_rfl) (fun _ _ _ h => h) (Or.inl ⟨by rfl, ?_⟩) hS ?_
      rotate_left
      · intro W hW
        obtain ⟨s1, s2, s3⟩ := HCl.out W hW
        go_simp
        try with_reducible rfl
      simp only [List.setIfInBounds_toArray, List.set_cons_zero, List.set_cons_succ]
      refine take_to (i := 12) (v := ?_) 36 rfl rfl (by kernel_rfl) (by kernel_rfl) (by kernel_rfl) (fun _ _ _ h => h) (Or.inl ⟨by rfl, ?_⟩) hS ?_
      rotate_left
      · intro W hW
        obtain ⟨s1, s2, s3⟩ := HCl.out W hW
        go_simp
        try with_reducible rfl
      simp only [List.setIfInBounds_toArray, List.set_cons_zero, List.set_cons_succ]
      refine take_to (i := 13) (v := ?_) 37 rfl rfl (by kernel_rfl) (by kernel_rfl) (by kernel_rfl) (fun _ _ _ h => h) (Or.inl ⟨by rfl, ?_⟩) hS ?_
      rotate_left
      · intro W hW
        obtain ⟨s1, s2, s3⟩ := HCl.out W hW
        go_simp
        try with_reducible rfl
      simp only [List.setIfInBounds_toArray, List.set_cons_zero, List.set_cons_succ]
      refine take_to (i := 14) (v := ?_) 38 rfl rfl (by kernel_rfl) (by kernel_rfl) (by kernel_rfl) (fun _ _ _ h => h) (Or.inl ⟨by rfl, ?_⟩) hS ?_
      rotate_left
      · intro W hW
        obtain ⟨s1, s2, s3⟩ := HCl.out W hW
        go_simp
        try with_reducible rfl
      simp only [List.setIfInBounds_toArray, List.set_cons_zero, List.set_cons_succ]
      refine wpAnyH_ready (rs := [8, 15]) (by kernel_rfl) (by simp) ?_
      refine AllReadyH.cons rfl (fun K hK => ?_) (AllReadyH.cons rfl (fun K hK => ?_) AllReadyH.nil)
      · go_simp
        refine (refPut_in _ L cc X 2 (by omega) _ _ (hown.below hBd).row (by omega)).mono ?_
        rintro e V8 ⟨g8, c8, rfl, o8, st8⟩
        have hb8 := ext_trans hBd st8
        have lo8 : wr.heap.size ≤ g8 := Nat.le_trans hBd.size o8.lt.1
        replace o8 := o8.mono (B' := w.heap.size) (Nat.le_trans (Nat.le_trans hbW.size hb.size) hBd.size)
        refine hK.out _ _ hb8 fun hS => ?_
        clear hK K
        refine wpAnyH_ready (rs := [15]) (by kernel_rfl) (by simp) ?_
        refine AllReadyH.cons rfl (fun K hK => ?_) AllReadyH.nil
        go_simp
        obtain ⟨V1, eV1⟩ : ∃ x, x = V8.alloc (Obj.cells #[Value.int IntKind.u8 Y] 5) := ⟨_, rfl⟩
        rw [← eV1]
        have stV1 : Below V8.heap.size V8 V1 := eV1 ▸ below_alloc _ _
        have hb1 := ext_trans hb8 stV1
        have r39 : Row V1 (some ⟨V8.heap.size, 0, none⟩) 1 1 [Y] := by rw [eV1]; exact row_lit V8 5 [Y] 1 rfl (by omega) (Byt.one HXb.2)
        replace o8 := o8.below stV1
        clear eV1
        refine hK.out _ _ hb1 fun hS => ?_
        clear hK K
        refine wpAnyH_ready (rs := [16]) (by kernel_rfl) (by simp) ?_
        refine AllReadyH.cons rfl (fun K hK => ?_) AllReadyH.nil
        refine Eq.mpr (if_pos (by kernel_rfl)) ?_
        refine opb_append _ (.tmp 32) (.tmp 39) 29 rfl 5 Try.underlying29 info5 w.heap.size g8 (L + 2) c8 _ rfl o8 _ 1 1 [Y] rfl r39 (by omega) (Nat.le_trans (Nat.le_trans hbW.size hb.size) hb1.size) wr (hb1.mono (Nat.le_trans hbW.size hb.size)) ?_
        intro g9 c9 V9 o9 hb9 gr9
        have hb9' : Below wr.heap.size wr V9 := hb1.trans (below_of_grown gr9 hb1.size (fun x hx => by obtain rfl := Option.some.inj hx; exact lo8))
        refine hK.out _ _ hb9' fun hS => ?_
        clear hK K
        refine wpAnyH_ready (rs := [17]) (by kernel_rfl) (by simp) ?_
        refine AllReadyH.cons rfl (fun K hK => ?_) AllReadyH.nil
        go_simp
        refine hK.out _ _ hb9' fun hS => ?_
        clear hK K
        refine wpAnyH_done (by kernel_rfl) ?_ _
        refine NoPanic.normal ?_
        go_wp2_with fail
        go_roundw
        case rel =>
          refine ⟨j + 1, L + 3, g9, c9, by omega, by have := HL.out; omega, by go_num, rfl, ?_, ext_trans hb hb9'⟩
          rw [take_snoc HX.out, encP_snoc, putB_one' Y HXb.2, ← List.append_assoc, ← List.append_assoc, ← List.append_assoc]
          rw [← List.append_assoc] at o9
          exact o9
        case measure => simp [intOf]; omega
      · go_simp
        obtain ⟨V1, eV1⟩ : ∃ x, x = Wd.alloc (Obj.cells #[Value.int IntKind.u8 Y] 5) := ⟨_, rfl⟩
        rw [← eV1]
        have stV1 : Below Wd.heap.size Wd V1 := eV1 ▸ below_alloc _ _
        have hb1 := ext_trans hBd stV1
        have r39 : Row V1 (some ⟨Wd.heap.size, 0, none⟩) 1 1 [Y] := by rw [eV1]; exact row_lit Wd 5 [Y] 1 rfl (by omega) (Byt.one HXb.2)
        clear eV1
        refine hK.out _ _ hb1 fun hS => ?_
        clear hK K
        refine wpAnyH_ready (rs := [8]) (by kernel_rfl) (by simp) ?_
        refine AllReadyH.cons rfl (fun K hK => ?_) AllReadyH.nil
        go_simp
        refine (refPut_in _ L cc X 2 (by omega) _ _ (hown.below hb1).row (by omega)).mono ?_
        rintro e V8 ⟨g8, c8, rfl, o8, st8⟩
        have hb8 := ext_trans hb1 st8
        have lo8 : wr.heap.size ≤ g8 := Nat.le_trans hb1.size o8.lt.1
        replace o8 := o8.mono (B' := w.heap.size) (Nat.le_trans (Nat.le_trans hbW.size hb.size) hb1.size)
        replace r39 := r39.below st8
        refine hK.out _ _ hb8 fun hS => ?_
        clear hK K
        refine wpAnyH_ready (rs := [16]) (by kernel_rfl) (by simp) ?_
        refine AllReadyH.cons rfl (fun K hK => ?_) AllReadyH.nil
        refine Eq.mpr (if_pos (by kernel_rfl)) ?_
        refine opb_append _ (.tmp 32) (.tmp 39) 29 rfl 5 Try.underlying29 info5 w.heap.size g8 (L + 2) c8 _ rfl o8 _ 1 1 [Y] rfl r39 (by omega) (Nat.le_trans (Nat.le_trans hbW.size hb.size) hb8.size) wr (hb8.mono (Nat.le_trans hbW.size hb.size)) ?_
        intro g9 c9 V9 o9 hb9 gr9
        have hb9' : Below wr.heap.size wr V9 := hb8.trans (below_of_grown gr9 hb8.size (fun x hx => by obtain rfl := Option.some.inj hx; exact lo8))
        refine hK.out _ _ hb9' fun hS => ?_
        clear hK K
        refine wpAnyH_ready (rs := [17]) (by kernel_rfl) (by simp) ?_
        refine AllReadyH.cons rfl (fun K hK => ?_) AllReadyH.nil
        go_simp
        refine hK.out _ _ hb9' fun hS => ?_
        clear hK K
        refine wpAnyH_done (by kernel_rfl) ?_ _
        refine NoPanic.normal ?_
        go_wp2_with fail
        go_roundw
        case rel =>
          refine ⟨j + 1, L + 3, g9, c9, by omega, by have := HL.out; omega, by go_num, rfl, ?_, ext_trans hb hb9'⟩
          rw [take_snoc HX.out, encP_snoc, putB_one' Y HXb.2, ← List.append_assoc, ← List.append_assoc, ← List.append_assoc]
          rw [← List.append_assoc] at o9
          exact o9
        case measure => simp [intOf]; omega
  clear hK
  refine wp_region_noPanic ?_
  refine wp_region_held_drew (S := fun V => Below W.heap.size W V) (by kernel_rfl) (ext_drew W) fun hS => ?_
  obtain ⟨Wd, hWd⟩ : ∃ x, x = W.drew := ⟨_, rfl⟩
  rw [← hWd]
  rw [← hWd] at hS
  have hBd : Below W.heap.size W Wd := hWd ▸ ext_drew _
  clear hWd
  refine take_to (i := 1) (v := ?_) 7 rfl rfl (by kernel_rfl) (by kernel_rfl) (by kernel_rfl) (fun _ _ _ h => h) (Or.inl ⟨by rfl, ?_⟩) hS ?_
  rotate_left
  · intro W hW
    obtain ⟨s0, s1, _⟩ := HC.out W hW
    go_simp
    try with_reducible rfl
  simp only [List.setIfInBounds_toArray, List.set_cons_zero, List.set_cons_succ]
  refine take_to (i := 3) (v := ?_) 9 rfl rfl (by kernel_rfl) (by kernel_rfl) (by kernel_rfl) (fun _ _ _ h => h) (Or.inl ⟨by rfl, ?_⟩) hS ?_
  rotate_left
  · intro W hW
    obtain ⟨s0, s1, _⟩ := HC.out W hW
    go_simp
    try with_reducible rfl
  simp only [List.setIfInBounds_toArray, List.set_cons_zero, List.set_cons_succ]
  refine take_to (i := 4) (v := ?_) 10 rfl rfl (by kernel_rfl) (by kernel_rfl) (by kernel_rfl) (fun _ _ _ h => h) (Or.inl ⟨by rfl, ?_⟩) hS ?_
  rotate_left
  · intro W hW
    obtain ⟨s0, s1, _⟩ := HC.out W hW
    go_simp
    try with_reducible rfl
  simp only [List.setIfInBounds_toArray, List.set_cons_zero, List.set_cons_succ]
  refine take_to (i := 5) (v := ?_) 11 rfl rfl (by kernel_rfl) (by kernel_rfl) (by kernel_rfl) (fun _ _ _ h => h) (Or.inl ⟨by rfl, ?_⟩) hS ?_
  rotate_left
  · intro W hW
    obtain ⟨s0, s1, _⟩ := HC.out W hW
    go_simp
    try with_reducible rfl
  simp only [List.setIfInBounds_toArray, List.set_cons_zero, List.set_cons_succ]
  refine take_to (i := 6) (v := ?_) 12 rfl rfl (by kernel_rfl) (by kernel_rfl) (by kernel_rfl) (fun _ _ _ h => h) (Or.inl ⟨by rfl, ?_⟩) hS ?_
  rotate_left
  · intro W hW
    obtain ⟨s0, s1, _⟩ := HC.out W hW
    go_simp
    try with_reducible rfl
  simp only [List.setIfInBounds_toArray, List.set_cons_zero, List.set_cons_succ]
  refine take_to (i := 7) (v := ?_) 13 rfl rfl (by kernel_rfl) (by kernel_rfl) (by kernel_rfl) (fun _ _ _ h => h) (Or.inl ⟨by rfl, ?_⟩) hS ?_
  rotate_left
  · intro W hW
    obtain ⟨s0, s1, _⟩ := HC.out W hW
    go_simp
    try with_reducible rfl
  simp only [List.setIfInBounds_toArray, List.set_cons_zero, List.set_cons_succ]
  refine take_to (i := 8) (v := ?_) 14 rfl rfl (by kernel_rfl) (by kernel_rfl) (by kernel_rfl) (fun _ _ _ h => h) (Or.inl ⟨by rfl, ?_⟩) hS ?_
  rotate_left
  · intro W hW
    obtain ⟨s0, s1, _⟩ := HC.out W hW
    go_simp
    try with_reducible rfl
  simp only [List.setIfInBounds_toArray, List.set_cons_zero, List.set_cons_succ]
  refine wpAnyH_ready (rs := [0, 9]) (by kernel_rfl) (by simp) ?_
  refine AllReadyH.cons rfl (fun K hK => ?_) (AllReadyH.cons rfl (fun K hK => ?_) AllReadyH.nil)
  · go_simp
    obtain ⟨V1, eV1⟩ : ∃ x, x = Wd.alloc (Obj.cells #[] 5) := ⟨_, rfl⟩
    rw [← eV1]
    have stV1 : Below Wd.heap.size Wd V1 := eV1 ▸ below_alloc _ _
    have hb1 := ext_trans hBd stV1
    have o6 : Own 5 V1 W.heap.size Wd.heap.size 0 0 [] := by rw [eV1]; exact (own_lit Wd 5 [] 0 rfl (by omega) Byt.nil).mono (hBd.size)
    have ne6 : Wd.heap.size ≠ V1.heap.size := by rw [eV1]; simp
    clear eV1
    refine hK.out _ _ hb1 fun hS => ?_
    clear hK K
    refine wpAnyH_ready (rs := [2, 9]) (by kernel_rfl) (by simp) ?_
    refine AllReadyH.cons rfl (fun K hK => ?_) (AllReadyH.cons rfl (fun K hK => ?_) AllReadyH.nil)
    · refine Eq.mpr (if_pos (by kernel_rfl)) ?_
      refine opb_append _ (.tmp 6) (.tmp 7) 29 rfl 5 Try.underlying29 info5 W.heap.size _ 0 0 [] rfl o6 a len cap bs rfl (HC.out _ hb1).2.2.1 (by omega) hb1.size W hb1 ?_
      intro g8 c8 V2 o8 hb2 grV2
      rw [List.nil_append, Nat.zero_add] at o8
      rw [Nat.zero_add]
      refine hK.out _ _ hb2 fun hS => ?_
      clear hK K
      refine wpAnyH_ready (rs := [9]) (by kernel_rfl) (by simp) ?_
      refine AllReadyH.cons rfl (fun K hK => ?_) AllReadyH.nil
      go_simp
      obtain ⟨V3, eV3⟩ : ∃ x, x = V2.alloc (Obj.cells #[Value.int IntKind.u8 d, Value.int IntKind.u8 ↑n] 5) := ⟨_, rfl⟩
      rw [← eV3]
      have stV3 : Below V2.heap.size V2 V3 := eV3 ▸ below_alloc _ _
      have hb3 := ext_trans hb2 stV3
      have r15 : Row V3 (some ⟨V2.heap.size, 0, none⟩) 2 2 [d, (n : Int)] := by rw [eV3]; exact row_lit V2 5 [d, (n : Int)] 2 rfl (by omega) (byt2 hd hn256)
      replace o8 := o8.below stV3
      clear eV3
      refine hK.out _ _ hb3 fun hS => ?_
      clear hK K
      refine wpAnyH_ready (rs := [10]) (by kernel_rfl) (by simp) ?_
      refine AllReadyH.cons rfl (fun K hK => ?_) AllReadyH.nil
      refine Eq.mpr (if_pos (by kernel_rfl)) ?_
      refine opb_append _ (.tmp 8) (.tmp 15) 29 rfl 5 Try.underlying29 info5 W.heap.size g8 len c8 bs rfl o8 _ 2 2 [d, (n : Int)] rfl r15 (by omega) hb3.size W hb3 ?_
      intro g16 c16 V16 o16 hb16 _
      refine hK.out _ _ hb16 fun hS => ?_
      clear hK K
      refine wpAnyH_ready (rs := [11]) (by kernel_rfl) (by simp) ?_
      refine AllReadyH.cons rfl (fun K hK => ?_) AllReadyH.nil
      go_simp
      refine hK.out _ _ hb16 fun hS => ?_
      clear hK K
      refine wpAnyH_done (by kernel_rfl) ?_ _
      refine NoPanic.normal ?_
      exact cont.out _ _ g16 c16 rfl o16 hb16
    · go_simp
      obtain ⟨V2, eV2⟩ : ∃ x, x = V1.alloc (Obj.cells #[Value.int IntKind.u8 d, Value.int IntKind.u8 ↑n] 5) := ⟨_, rfl⟩
      rw [← eV2]
      have stV2 : Below V1.heap.size V1 V2 := eV2 ▸ below_alloc _ _
      have hb2 := ext_trans hb1 stV2
      have r15 : Row V2 (some ⟨V1.heap.size, 0, none⟩) 2 2 [d, (n : Int)] := by rw [eV2]; exact row_lit V1 5 [d, (n : Int)] 2 rfl (by omega) (byt2 hd hn256)
      replace o6 := o6.below stV2
      clear eV2
      refine hK.out _ _ hb2 fun hS => ?_
      clear hK K
      refine wpAnyH_ready (rs := [2]) (by kernel_rfl) (by simp) ?_
      refine AllReadyH.cons rfl (fun K hK => ?_) AllReadyH.nil
      refine Eq.mpr (if_pos (by kernel_rfl)) ?_
      refine opb_append _ (.tmp 6) (.tmp 7) 29 rfl 5 Try.underlying29 info5 W.heap.size _ 0 0 [] rfl o6 a len cap bs rfl (HC.out _ hb2).2.2.1 (by omega) hb2.size W hb2 ?_
      intro g8 c8 V3 o8 hb3 grV3
      rw [List.nil_append, Nat.zero_add] at o8
      rw [Nat.zero_add]
      replace r15 := rowL_grown r15 grV3 (fun _ x hx e => by obtain rfl := Option.some.inj hx; exact ne6 (Option.some.inj e))
      refine hK.out _ _ hb3 fun hS => ?_
      clear hK K
      refine wpAnyH_ready (rs := [10]) (by kernel_rfl) (by simp) ?_
      refine AllReadyH.cons rfl (fun K hK => ?_) AllReadyH.nil
      refine Eq.mpr (if_pos (by kernel_rfl)) ?_
      refine opb_append _ (.tmp 8) (.tmp 15) 29 rfl 5 Try.underlying29 info5 W.heap.size g8 len c8 bs rfl o8 _ 2 2 [d, (n : Int)] rfl r15 (by omega) hb3.size W hb3 ?_
      intro g16 c16 V16 o16 hb16 _
      refine hK.out _ _ hb16 fun hS => ?_
      clear hK K
      refine wpAnyH_ready (rs := [11]) (by kernel_rfl) (by simp) ?_
      refine AllReadyH.cons rfl (fun K hK => ?_) AllReadyH.nil
      go_simp
      refine hK.out _ _ hb16 fun hS => ?_
      clear hK K
      refine wpAnyH_done (by kernel_rfl) ?_ _
      refine NoPanic.normal ?_
      exact cont.out _ _ g16 c16 rfl o16 hb16
  · go_simp
    obtain ⟨V1, eV1⟩ : ∃ x, x = Wd.alloc (Obj.cells #[Value.int IntKind.u8 d, Value.int IntKind.u8 ↑n] 5) := ⟨_, rfl⟩
    rw [← eV1]
    have stV1 : Below Wd.heap.size Wd V1 := eV1 ▸ below_alloc _ _
    have hb1 := ext_trans hBd stV1
    have r15 : Row V1 (some ⟨Wd.heap.size, 0, none⟩) 2 2 [d, (n : Int)] := by rw [eV1]; exact row_lit Wd 5 [d, (n : Int)] 2 rfl (by omega) (byt2 hd hn256)
    have ne6 : V1.heap.size ≠ Wd.heap.size := by rw [eV1]; simp
    clear eV1
    refine hK.out _ _ hb1 fun hS => ?_
    clear hK K
    refine wpAnyH_ready (rs := [0]) (by kernel_rfl) (by simp) ?_
    refine AllReadyH.cons rfl (fun K hK => ?_) AllReadyH.nil
    go_simp
    obtain ⟨V2, eV2⟩ : ∃ x, x = V1.alloc (Obj.cells #[] 5) := ⟨_, rfl⟩
    rw [← eV2]
    have stV2 : Below V1.heap.size V1 V2 := eV2 ▸ below_alloc _ _
    have hb2 := ext_trans hb1 stV2
    have o6 : Own 5 V2 W.heap.size V1.heap.size 0 0 [] := by rw [eV2]; exact (own_lit V1 5 [] 0 rfl (by omega) Byt.nil).mono (hb1.size)
    replace r15 := r15.below stV2
    clear eV2
    refine hK.out _ _ hb2 fun hS => ?_
    clear hK K
    refine wpAnyH_ready (rs := [2]) (by kernel_rfl) (by simp) ?_
    refine AllReadyH.cons rfl (fun K hK => ?_) AllReadyH.nil
    refine Eq.mpr (if_pos (by kernel_rfl)) ?_
    refine opb_append _ (.tmp 6) (.tmp 7) 29 rfl 5 Try.underlying29 info5 W.heap.size _ 0 0 [] rfl o6 a len cap bs rfl (HC.out _ hb2).2.2.1 (by omega) hb2.size W hb2 ?_
    intro g8 c8 V3 o8 hb3 grV3
    rw [List.nil_append, Nat.zero_add] at o8
    rw [Nat.zero_add]
    replace r15 := rowL_grown r15 grV3 (fun _ x hx e => by obtain rfl := Option.some.inj hx; exact ne6 (Option.some.inj e))
    refine hK.out _ _ hb3 fun hS => ?_
    clear hK K
    refine wpAnyH_ready (rs := [10]) (by kernel_rfl) (by simp) ?_
    refine AllReadyH.cons rfl (fun K hK => ?_) AllReadyH.nil
    refine Eq.mpr (if_pos (by kernel_rfl)) ?_
    refine opb_append _ (.tmp 8) (.tmp 15) 29 rfl 5 Try.underlying29 info5 W.heap.size g8 len c8 bs rfl o8 _ 2 2 [d, (n : Int)] rfl r15 (by omega) hb3.size W hb3 ?_
    intro g16 c16 V16 o16 hb16 _
    refine hK.out _ _ hb16 fun hS => ?_
    clear hK K
    refine wpAnyH_ready (rs := [11]) (by kernel_rfl) (by simp) ?_
    refine AllReadyH.cons rfl (fun K hK => ?_) AllReadyH.nil
    go_simp
    refine hK.out _ _ hb16 fun hS => ?_
    clear hK K
    refine wpAnyH_done (by kernel_rfl) ?_ _
    refine NoPanic.normal ?_
    exact cont.out _ _ g16 c16 rfl o16 hb16
end Go.Proofs.Ytldkelpngeopmaa
