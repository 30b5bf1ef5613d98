/- The document's Put: contract. (Written by tools/drafts/arena/mkarref.py.) -/
import Derived.Test.YtafnonmpanpfkaaArRef
import Derived.Test.YtafnonmpanpfkaaRegionT
import Derived.Deep.CutRange
namespace Go.Proofs.Ytafnonmpanpfkaa
open Go.RowKit
set_option maxRecDepth 100000
set_option linter.unusedVariables false

section
variable {w w' : World} {S : Nat → Prop} {p : Nat} {v : Int} {ns : List Int} {ss : List (List Int)}
theorem refPut_no (h : RM w S p v ns ss) (i : Int) {xa : Option Addr} {xn xc : Nat} {xs : List Int} (hr : Row w xa xn xc xs) (hx : xs.head? ≠ some v) :
    Calls Try.prog 10 #[.pointer (some ⟨p, 0, none⟩), .int .u64 i, .slice xa xn xc] w fun e w' => e = .returned (.int .i64 1) ∧ Below w.heap.size w w' := by
  have hl := hr.len
  have hcap := hr.cap_le
  obtain ⟨ia, ic, sa, sc, h1, _⟩ := h
  have c0 : w.cell? ⟨p, 0, none⟩ = some (.int .u8 v) := by simp [World.cell?, h1]
  cases xs with
  | nil =>
    obtain rfl : xn = 0 := by simpa using hl.symm
    go_enter Try.func10, Try.ntmps10
    go_wp2_with fail
    go_quiet (fail)
    go_wp2
    go_ret
    exact ⟨rfl, bel_drawn w nq⟩
  | cons y r =>
    simp at hl
    obtain ⟨b, off, rfl, hc⟩ := hr.at (by omega)
    have c1 := hc 0 (by omega)
    simp at c1
    have h0 : ((xn : Int) == 0) = false := by simp; omega
    have hne : (y != v) = true := by simp at hx; simp [hx]
    have h00 : (0 : Int) < (xn : Int) := by omega
    go_enter Try.func10, Try.ntmps10
    go_wp2_with fail
    go_quiet (fail)
    go_wp2
    go_ret
    exact ⟨rfl, bel_drawn w nq⟩
set_option maxHeartbeats 8000000 in
set_option maxRecDepth 100000 in
theorem refPut_ok (h : RM w S p v ns ss) (hls : ss.length = ns.length) (hbd : ns.length ≤ 1099511627776) (i : Int) (hi : U i) {xa : Option Addr} {xn xc : Nat} {xs : List Int} (hr : Row w xa xn xc xs) (hx : Rec v xs) (hd : ∀ y, xa = some y → ¬ S y.block) :
    Calls Try.prog 10 #[.pointer (some ⟨p, 0, none⟩), .int .u64 i, .slice xa xn xc] w fun e w' => e = .returned (.int .i64 0) ∧ Tou S w w' ∧ ∃ k, k ≤ ns.length ∧ (∀ t x, ns[t]? = some x → t < k → x < i) ∧ (∀ x, ns[k]? = some x → i ≤ x) ∧
      ((ns[k]? = some i ∧ RM w' (gr S w w') p v ns (ss.set k xs)) ∨ (ns[k]? ≠ some i ∧ RM w' (gr S w w') p v (ns.take k ++ i :: ns.drop k) (ss.take k ++ xs :: ss.drop k))) := by
  have hl := hr.len
  have hcapx := hr.cap_le
  have hxb := hr.byt
  obtain ⟨r, hxr, hrl⟩ := hx.cons
  have hn0 : xn = r.length + 1 := by rw [← hl, hxr]; rfl
  obtain ⟨b, off, hab, hcs⟩ := hr.at (by omega)
  have c1 := hcs 0 (by omega)
  rw [hxr] at c1
  simp at c1
  have h0 : ((xn : Int) == 0) = false := by simp; omega
  have hne : (v != v) = false := by simp
  have h00 : (0 : Int) < (xn : Int) := by omega
  have HR0 : Hid (∀ w', Tou S w w' → Row w' xa xn xc xs) := fun w' k => hr.tou k hd
  have HLS : Hid (ss.length = ns.length) := hls
  have c0 : w.cell? ⟨p, 0, none⟩ = some (.int .u8 v) := by
    obtain ⟨ia, ic, sa, sc, h1, _⟩ := h
    simp [World.cell?, h1]
  subst hab
  clear hx hr hd hcs hxr hn0 hrl hl hls
  obtain ⟨xa, hxa⟩ : ∃ xa : Option Addr, xa = some ⟨b, off, none⟩ := ⟨_, rfl⟩
  rw [← hxa] at HR0
  have HXA : Hid (xa = _) := hxa
  clear hxa
  go_enter Try.func10, Try.ntmps10
  go_wp2_with fail
  go_quiet (fail)
  have bq := bel_drawn w nq
  have hq := h.below bq
  go_wp2_with fail
  refine (refAt_any hq hbd i).mono ?_
  rintro e W0 ⟨k, q, rfl, hk, hlo, hhi, hqq, b1⟩
  have hM := hq.below b1
  have bA := ext_trans bq b1
  have HLO : Hid ((∀ t x, ns[t]? = some x → t < k → x < i) ∧ (∀ x, ns[k]? = some x → i ≤ x)) := ⟨hlo, hhi⟩
  clear hlo hhi c1 c0 bq b1 hq h
  have sA := bA.size
  rw [← HXA.out]
  cases q with
  | true =>
    have hki := hqq.1 rfl
    have hkn : k < ns.length := (List.getElem?_eq_some_iff.1 hki).1
    have hks : k < ss.length := by have := HLS.out; omega
    obtain ⟨g, sc, d2, hn1, hn2, ⟨old, do1⟩, df, hR, tR⟩ := hM.setRec hks xs hxb
    obtain ⟨n, hn⟩ : ∃ n, n = ss.length := ⟨_, rfl⟩
    rw [← hn] at d2 hn1 hks
    have hkn' : (k : Int) < (n : Int) := by omega
    have HKI : Hid (ns[k]? = some i) := hki
    have hpl := lt_of_cell d2
    have hgl := lt_of_cell do1
    have HB : Hid (∀ W, Below W0.heap.size W0 W → W.cell? ⟨p, 2, none⟩ = some (.slice (some ⟨g, 0, none⟩) n sc) ∧ W.cell? ⟨g, k, none⟩ = some (.string old)) := fun W hW => ⟨(hW.cell hpl).trans d2, (hW.cell hgl).trans do1⟩
    have HR : Hid (∀ W, Below W0.heap.size W0 W → Row W xa xn xc xs) := fun W hW => HR0.out W (Tou.of_below (ext_trans bA hW) S)
    clear hki hqq hn
    go_wp2_with fail
    refine wp_region_noPanic ?_
    refine wp_region_T (S := fun W => Below W0.heap.size W0 W) (by kernel_rfl) (ext_drew W0) fun hS => ?_
    refine takeT_to (i := 0) (v := ?_) 29 rfl rfl (by kernel_rfl) (by kernel_rfl) (by kernel_rfl) (by kernel_rfl) (fun _ _ _ h => h) (Or.inl ⟨by rfl, ?_⟩) hS ?_
    rotate_left
    · intro W hW
      have s0 := (HB.out W hW).1; have s1 := (HB.out W hW).2; have sC := strR.out W xa xn xc xs (HR.out W hW)
      go_simp
      try with_reducible rfl
    simp only [List.setIfInBounds_toArray, List.set_cons_zero, List.set_cons_succ]
    refine takeT_to (i := 1) (v := ?_) 30 rfl rfl (by kernel_rfl) (by kernel_rfl) (by kernel_rfl) (by kernel_rfl) (fun _ _ _ h => h) (Or.inl ⟨by rfl, ?_⟩) hS ?_
    rotate_left
    · intro W hW
      have s0 := (HB.out W hW).1; have s1 := (HB.out W hW).2; have sC := strR.out W xa xn xc xs (HR.out W hW)
      go_simp
      try with_reducible rfl
    simp only [List.setIfInBounds_toArray, List.set_cons_zero, List.set_cons_succ]
    refine takeT_to (i := 2) (v := ?_) 31 rfl rfl (by kernel_rfl) (by kernel_rfl) (by kernel_rfl) (by kernel_rfl) (fun _ _ _ h => h) (Or.inl ⟨by rfl, ?_⟩) hS ?_
    rotate_left
    · intro W hW
      have s0 := (HB.out W hW).1; have s1 := (HB.out W hW).2; have sC := strR.out W xa xn xc xs (HR.out W hW)
      go_simp
      try with_reducible rfl
    simp only [List.setIfInBounds_toArray, List.set_cons_zero, List.set_cons_succ]
    refine takeT_to (i := 3) (v := ?_) 32 rfl rfl (by kernel_rfl) (by kernel_rfl) (by kernel_rfl) (by kernel_rfl) (fun _ _ _ h => h) (Or.inl ⟨by rfl, ?_⟩) hS ?_
    rotate_left
    · intro W hW
      have s0 := (HB.out W hW).1; have s1 := (HB.out W hW).2; have sC := strR.out W xa xn xc xs (HR.out W hW)
      go_simp
      try with_reducible rfl
    simp only [List.setIfInBounds_toArray, List.set_cons_zero, List.set_cons_succ]
    refine takeT_to (i := 4) (v := ?_) 33 rfl rfl (by kernel_rfl) (by kernel_rfl) (by kernel_rfl) (by kernel_rfl) (fun _ _ _ h => h) (Or.inl ⟨by rfl, ?_⟩) hS ?_
    rotate_left
    · intro W hW
      have s0 := (HB.out W hW).1; have s1 := (HB.out W hW).2; have sC := strR.out W xa xn xc xs (HR.out W hW)
      go_simp
      try with_reducible rfl
    simp only [List.setIfInBounds_toArray, List.set_cons_zero, List.set_cons_succ]
    refine takeT_to (i := 5) (v := ?_) 34 rfl rfl (by kernel_rfl) (by kernel_rfl) (by kernel_rfl) (by kernel_rfl) (fun _ _ _ h => h) (Or.inl ⟨by rfl, ?_⟩) hS ?_
    rotate_left
    · intro W hW
      have s0 := (HB.out W hW).1; have s1 := (HB.out W hW).2; have sC := strR.out W xa xn xc xs (HR.out W hW)
      go_simp
      try with_reducible rfl
    simp only [List.setIfInBounds_toArray, List.set_cons_zero, List.set_cons_succ]
    refine takeT_to (i := 6) (v := ?_) 35 rfl rfl (by kernel_rfl) (by kernel_rfl) (by kernel_rfl) (by kernel_rfl) (fun _ _ _ h => h) (Or.inl ⟨by rfl, ?_⟩) hS ?_
    rotate_left
    · intro W hW
      have s0 := (HB.out W hW).1; have s1 := (HB.out W hW).2; have sC := strR.out W xa xn xc xs (HR.out W hW)
      go_simp
      try with_reducible rfl
    simp only [List.setIfInBounds_toArray, List.set_cons_zero, List.set_cons_succ]
    refine takeT_to (i := 7) (v := ?_) 36 rfl rfl (by kernel_rfl) (by kernel_rfl) (by kernel_rfl) (by kernel_rfl) (fun _ _ _ h => h) (Or.inl ⟨by rfl, ?_⟩) hS ?_
    rotate_left
    · intro W hW
      have s0 := (HB.out W hW).1; have s1 := (HB.out W hW).2; have sC := strR.out W xa xn xc xs (HR.out W hW)
      go_simp
      try with_reducible rfl
    simp only [List.setIfInBounds_toArray, List.set_cons_zero, List.set_cons_succ]
    refine wpAnyT_ready (rs := [8]) (by kernel_rfl) (by simp) ?_
    refine AllReadyT.cons rfl (fun K hK => ?_) AllReadyT.nil
    go_simp
    refine hK.out _ _ (fun h => by cases h) ?_
    clear hK K
    refine wpAnyT_done (by kernel_rfl) ?_ _
    refine NoPanic.normal ?_
    go_wp2
    go_ret
    have tf : Tou S w (W0.drew.setCell ⟨g, k, none⟩ (.string (strOfNums xs))) := (Tou.of_below bA S).more (show Tou S W0 (W0.drew.setCell ⟨g, k, none⟩ (.string (strOfNums xs))) from ⟨tR.os, tR.tape, tR.output, tR.size, tR.block⟩)
    refine ⟨rfl, tf, k, hk, HLO.out.1, HLO.out.2, .inl ⟨HKI.out, (show RM (W0.drew.setCell ⟨g, k, none⟩ (.string (strOfNums xs))) S p v ns (ss.set k xs) from hR).more (fun _ hb => .inl hb) (fun b hb => hb.elim (fun hb => ?_) And.right)⟩⟩
    have := hM.lt b hb
    simpa [World.setCell] using this
  | false =>
    have hki : ns[k]? ≠ some i := fun c => by have := hqq.2 c; cases this
    have HKI : Hid (ns[k]? ≠ some i) := hki
    clear hki hqq
    go_wp2_with fail
    go_cut [] from 37 to 57 (fun wc => RM wc (gr S W0 wc) p v (ns.take k ++ i :: ns.drop k) ss ∧ Tou S W0 wc)
    case first =>
      obtain ⟨ia, ic, sa, sc, hbox, h2, h3, h4, h5, h6, h7⟩ := id hM
      have d1 : W0.cell? ⟨p, 1, none⟩ = some (.slice ia ns.length ic) := by simp [World.cell?, hbox]
      have hcap := h2.row.cap_le
      have hro := h2.row
      have hpl := lt_of_cell d1
      obtain ⟨n, hn⟩ : ∃ n, n = ns.length := ⟨_, rfl⟩
      rw [← hn] at d1 hcap hro hk hbd
      have HB : Hid (∀ W, Below W0.heap.size W0 W → W.cell? ⟨p, 1, none⟩ = some (.slice ia n ic) ∧ RowG EQ W ia n ic ns) := fun W hW => ⟨(hW.cell hpl).trans d1, hro.below hW⟩
      have hkc : k ≤ ic := by omega
      have hkc2 : (k : Int) ≤ (ic : Int) := by omega
      have hk2 : (k : Int) ≤ (n : Int) := by omega
      clear hn d1 hro h2 h3 h4 h5 h6 h7
      refine wp_region_noPanic ?_
      refine wp_region_T (S := fun W => Below W0.heap.size W0 W) (by kernel_rfl) (ext_drew W0) fun hS => ?_
      refine takeT_to (i := 0) (v := ?_) 37 rfl rfl (by kernel_rfl) (by kernel_rfl) (by kernel_rfl) (by kernel_rfl) (fun _ _ _ h => h) (Or.inl ⟨by rfl, ?_⟩) hS ?_
      rotate_left
      · intro W hW
        have s0 := (HB.out W hW).1
        go_simp
        try with_reducible rfl
      simp only [List.setIfInBounds_toArray, List.set_cons_zero, List.set_cons_succ]
      refine takeT_to (i := 2) (v := ?_) 39 rfl rfl (by kernel_rfl) (by kernel_rfl) (by kernel_rfl) (by kernel_rfl) (fun _ _ _ h => h) (Or.inl ⟨by rfl, ?_⟩) hS ?_
      rotate_left
      · intro W hW
        have s0 := (HB.out W hW).1
        go_simp
        try with_reducible rfl
      simp only [List.setIfInBounds_toArray, List.set_cons_zero, List.set_cons_succ]
      refine takeT_to (i := 3) (v := ?_) 40 rfl rfl (by kernel_rfl) (by kernel_rfl) (by kernel_rfl) (by kernel_rfl) (fun _ _ _ h => h) (Or.inl ⟨by rfl, ?_⟩) hS ?_
      rotate_left
      · intro W hW
        have s0 := (HB.out W hW).1
        go_simp
        try with_reducible rfl
      simp only [List.setIfInBounds_toArray, List.set_cons_zero, List.set_cons_succ]
      refine takeT_to (i := 4) (v := ?_) 41 rfl rfl (by kernel_rfl) (by kernel_rfl) (by kernel_rfl) (by kernel_rfl) (fun _ _ _ h => h) (Or.inl ⟨by rfl, ?_⟩) hS ?_
      rotate_left
      · intro W hW
        have s0 := (HB.out W hW).1
        go_simp
        try with_reducible rfl
      simp only [List.setIfInBounds_toArray, List.set_cons_zero, List.set_cons_succ]
      refine takeT_to (i := 5) (v := ?_) 42 rfl rfl (by kernel_rfl) (by kernel_rfl) (by kernel_rfl) (by kernel_rfl) (fun _ _ _ h => h) (Or.inl ⟨by rfl, ?_⟩) hS ?_
      rotate_left
      · intro W hW
        have s0 := (HB.out W hW).1
        go_simp
        try with_reducible rfl
      simp only [List.setIfInBounds_toArray, List.set_cons_zero, List.set_cons_succ]
      refine takeT_to (i := 6) (v := ?_) 43 rfl rfl (by kernel_rfl) (by kernel_rfl) (by kernel_rfl) (by kernel_rfl) (fun _ _ _ h => h) (Or.inl ⟨by rfl, ?_⟩) hS ?_
      rotate_left
      · intro W hW
        have s0 := (HB.out W hW).1
        go_simp
        try with_reducible rfl
      simp only [List.setIfInBounds_toArray, List.set_cons_zero, List.set_cons_succ]
      refine takeT_to (i := 7) (v := ?_) 44 rfl rfl (by kernel_rfl) (by kernel_rfl) (by kernel_rfl) (by kernel_rfl) (fun _ _ _ h => h) (Or.inl ⟨by rfl, ?_⟩) hS ?_
      rotate_left
      · intro W hW
        have s0 := (HB.out W hW).1
        go_simp
        try with_reducible rfl
      simp only [List.setIfInBounds_toArray, List.set_cons_zero, List.set_cons_succ]
      refine takeT_to (i := 9) (v := ?_) 46 rfl rfl (by kernel_rfl) (by kernel_rfl) (by kernel_rfl) (by kernel_rfl) (fun _ _ _ h => h) (Or.inl ⟨by rfl, ?_⟩) hS ?_
      rotate_left
      · intro W hW
        have s0 := (HB.out W hW).1
        go_simp
        try with_reducible rfl
      simp only [List.setIfInBounds_toArray, List.set_cons_zero, List.set_cons_succ]
      refine takeT_to (i := 12) (v := ?_) 49 rfl rfl (by kernel_rfl) (by kernel_rfl) (by kernel_rfl) (by kernel_rfl) (fun _ _ _ h => h) (Or.inl ⟨by rfl, ?_⟩) hS ?_
      rotate_left
      · intro W hW
        have s0 := (HB.out W hW).1
        go_simp
        try with_reducible rfl
      simp only [List.setIfInBounds_toArray, List.set_cons_zero, List.set_cons_succ]
      refine takeT_to (i := 13) (v := ?_) 50 rfl rfl (by kernel_rfl) (by kernel_rfl) (by kernel_rfl) (by kernel_rfl) (fun _ _ _ h => h) (Or.inl ⟨by rfl, ?_⟩) hS ?_
      rotate_left
      · intro W hW
        have s0 := (HB.out W hW).1
        go_simp
        try with_reducible rfl
      simp only [List.setIfInBounds_toArray, List.set_cons_zero, List.set_cons_succ]
      refine takeT_to (i := 14) (v := ?_) 51 rfl rfl (by kernel_rfl) (by kernel_rfl) (by kernel_rfl) (by kernel_rfl) (fun _ _ _ h => h) (Or.inl ⟨by rfl, ?_⟩) hS ?_
      rotate_left
      · intro W hW
        have s0 := (HB.out W hW).1
        go_simp
        try with_reducible rfl
      simp only [List.setIfInBounds_toArray, List.set_cons_zero, List.set_cons_succ]
      refine takeT_to (i := 15) (v := ?_) 52 rfl rfl (by kernel_rfl) (by kernel_rfl) (by kernel_rfl) (by kernel_rfl) (fun _ _ _ h => h) (Or.inl ⟨by rfl, ?_⟩) hS ?_
      rotate_left
      · intro W hW
        have s0 := (HB.out W hW).1
        go_simp
        try with_reducible rfl
      simp only [List.setIfInBounds_toArray, List.set_cons_zero, List.set_cons_succ]
      refine takeT_to (i := 16) (v := ?_) 53 rfl rfl (by kernel_rfl) (by kernel_rfl) (by kernel_rfl) (by kernel_rfl) (fun _ _ _ h => h) (Or.inl ⟨by rfl, ?_⟩) hS ?_
      rotate_left
      · intro W hW
        have s0 := (HB.out W hW).1
        go_simp
        try with_reducible rfl
      simp only [List.setIfInBounds_toArray, List.set_cons_zero, List.set_cons_succ]
      refine takeT_to (i := 17) (v := ?_) 54 rfl rfl (by kernel_rfl) (by kernel_rfl) (by kernel_rfl) (by kernel_rfl) (fun _ _ _ h => h) (Or.inl ⟨by rfl, ?_⟩) hS ?_
      rotate_left
      · intro W hW
        have s0 := (HB.out W hW).1
        go_simp
        try with_reducible rfl
      simp only [List.setIfInBounds_toArray, List.set_cons_zero, List.set_cons_succ]
      refine wpAnyT_ready (rs := [1, 10]) (by kernel_rfl) (by simp) ?_
      refine AllReadyT.cons rfl (fun K hK => ?_) ?_
      · go_simp
        have hb1 : Below W0.heap.size W0 ((W0.drew).alloc (.cells #[] 31)) := hS.alloc hS.size _
        refine hK.out _ _ (fun _ => hb1) ?_
        have o1 : OwnG EQ 31 ((W0.drew).alloc (.cells #[] 31)) W0.heap.size (some ⟨W0.heap.size, 0, none⟩) 0 0 [] := owng_lit EQ _ 31 [] _ rfl 0 rfl (by omega) Enc.Ok.nil _ _ (by simp) (by omega)
        clear hK K
        refine wpAnyT_ready (rs := [8, 10]) (by kernel_rfl) (by simp) ?_
        refine AllReadyT.cons rfl (fun K hK => ?_) ?_
        · skip
          refine Eq.mpr (if_pos (by kernel_rfl)) ?_
          refine op_append_g _ (.tmp 38) (.tmp 44) 27 rfl 31 Try.underlying27 _ _ infoEQ rfl (by omega) W0.heap.size 0 0 _ [] rfl o1 ia k ic (ns.take k) rfl ((HB.out _ hb1).2.pre k hk) ?_ hb1.size W0 hb1 ?_
          · omega
          intro s8 c8 w8 o2 hb8 g8
          refine hK.out _ _ (fun _ => hb8) ?_
          rw [Nat.zero_add, List.nil_append] at o2
          clear hK K
          refine wpAnyT_ready (rs := [10]) (by kernel_rfl) (by simp) ?_
          refine AllReadyT.cons rfl (fun K hK => ?_) AllReadyT.nil
          go_simp
          have hb10 : Below W0.heap.size W0 ((w8).alloc (.cells #[Value.int .u64 i] 31)) := hb8.alloc hb8.size _
          refine hK.out _ _ (fun _ => hb10) ?_
          have r2 : RowG EQ ((w8).alloc (.cells #[Value.int .u64 i] 31)) (some ⟨w8.heap.size, 0, none⟩) 1 1 [i] := (owng_lit EQ _ 31 [i] _ rfl 1 rfl (by omega) (Enc.Ok.one hi) w8.heap.size 0 (by simp) (by omega)).row
          replace o2 := o2.below (below_alloc _ (.cells #[Value.int .u64 i] 31))
          clear hK K
          refine wpAnyT_ready (rs := [11]) (by kernel_rfl) (by simp) ?_
          refine AllReadyT.cons rfl (fun K hK => ?_) AllReadyT.nil
          refine Eq.mpr (if_pos (by kernel_rfl)) ?_
          refine op_append_g _ (.tmp 45) (.tmp 47) 27 rfl 31 Try.underlying27 _ _ infoEQ rfl (by omega) W0.heap.size _ _ _ _ rfl o2 _ 1 1 [i] rfl r2 ?_ hb10.size W0 hb10 ?_
          · omega
          intro s11 c11 w11 o3 hb11 g11
          refine hK.out _ _ (fun _ => hb11) ?_
          clear hK K
          refine wpAnyT_ready (rs := [18]) (by kernel_rfl) (by simp) ?_
          refine AllReadyT.cons rfl (fun K hK => ?_) AllReadyT.nil
          refine Eq.mpr (if_pos (by kernel_rfl)) ?_
          refine op_append_g _ (.tmp 48) (.tmp 54) 27 rfl 31 Try.underlying27 _ _ infoEQ rfl (by omega) W0.heap.size _ _ _ _ rfl o3 _ _ _ (ns.drop k) rfl ((HB.out _ hb11).2.from rfl k hk) ?_ hb11.size W0 hb11 ?_
          · omega
          intro s18 c18 w18 o4 hb18 g18
          refine hK.out _ _ (fun _ => hb18) ?_
          obtain ⟨q1, q2⟩ := cell_fz ((hb18.block p hpl).trans hbox) 1 _ rfl
          clear hK K
          refine wpAnyT_ready (rs := [19]) (by kernel_rfl) (by simp) ?_
          refine AllReadyT.cons rfl (fun K hK => ?_) AllReadyT.nil
          go_simp
          refine hK.out _ _ (fun _ => hb18) ?_
          clear hK K
          refine wpAnyT_ready (rs := [20]) (by kernel_rfl) (by simp) ?_
          refine AllReadyT.cons rfl (fun K hK => ?_) AllReadyT.nil
          go_simp
          refine hK.out _ _ (fun _ => hb18) ?_
          clear hK K
          refine wpAnyT_ready (rs := [21]) (by kernel_rfl) (by simp) ?_
          refine AllReadyT.cons rfl (fun K hK => ?_) AllReadyT.nil
          go_simp
          refine hK.out _ _ (fun h => by cases h) ?_
          clear hK K
          refine wpAnyT_done (by kernel_rfl) ?_ _
          refine NoPanic.normal ?_
          go_wp2_with fail
          all_goals
            (try simp only [Nat.zero_add] at o4)
            (try simp only [List.append_assoc, List.singleton_append] at o4)
            go_meet
            exact hM.setIDs hb18 o4
        refine AllReadyT.cons rfl (fun K hK => ?_) ?_
        · go_simp
          have hb10 : Below W0.heap.size W0 (((W0.drew).alloc (.cells #[] 31)).alloc (.cells #[Value.int .u64 i] 31)) := hb1.alloc hb1.size _
          refine hK.out _ _ (fun _ => hb10) ?_
          have r2 : RowG EQ (((W0.drew).alloc (.cells #[] 31)).alloc (.cells #[Value.int .u64 i] 31)) (some ⟨(W0.heap.size + 1), 0, none⟩) 1 1 [i] := (owng_lit EQ _ 31 [i] _ rfl 1 rfl (by omega) (Enc.Ok.one hi) (W0.heap.size + 1) 0 (by simp) (by omega)).row
          replace o1 := o1.below (below_alloc _ (.cells #[Value.int .u64 i] 31))
          clear hK K
          refine wpAnyT_ready (rs := [8]) (by kernel_rfl) (by simp) ?_
          refine AllReadyT.cons rfl (fun K hK => ?_) AllReadyT.nil
          refine Eq.mpr (if_pos (by kernel_rfl)) ?_
          refine op_append_g _ (.tmp 38) (.tmp 44) 27 rfl 31 Try.underlying27 _ _ infoEQ rfl (by omega) W0.heap.size 0 0 _ [] rfl o1 ia k ic (ns.take k) rfl ((HB.out _ hb10).2.pre k hk) ?_ hb10.size W0 hb10 ?_
          · omega
          intro s8 c8 w8 o2 hb8 g8
          refine hK.out _ _ (fun _ => hb8) ?_
          rw [List.nil_append] at o2
          replace r2 := r2.grown g8 (by intro x hx; cases hx; simp [Value.ownBlock])
          clear hK K
          refine wpAnyT_ready (rs := [11]) (by kernel_rfl) (by simp) ?_
          refine AllReadyT.cons rfl (fun K hK => ?_) AllReadyT.nil
          refine Eq.mpr (if_pos (by kernel_rfl)) ?_
          refine op_append_g _ (.tmp 45) (.tmp 47) 27 rfl 31 Try.underlying27 _ _ infoEQ rfl (by omega) W0.heap.size _ _ _ _ rfl o2 _ 1 1 [i] rfl r2 ?_ hb8.size W0 hb8 ?_
          · omega
          intro s11 c11 w11 o3 hb11 g11
          refine hK.out _ _ (fun _ => hb11) ?_
          clear hK K
          refine wpAnyT_ready (rs := [18]) (by kernel_rfl) (by simp) ?_
          refine AllReadyT.cons rfl (fun K hK => ?_) AllReadyT.nil
          refine Eq.mpr (if_pos (by kernel_rfl)) ?_
          refine op_append_g _ (.tmp 48) (.tmp 54) 27 rfl 31 Try.underlying27 _ _ infoEQ rfl (by omega) W0.heap.size _ _ _ _ rfl o3 _ _ _ (ns.drop k) rfl ((HB.out _ hb11).2.from rfl k hk) ?_ hb11.size W0 hb11 ?_
          · omega
          intro s18 c18 w18 o4 hb18 g18
          refine hK.out _ _ (fun _ => hb18) ?_
          obtain ⟨q1, q2⟩ := cell_fz ((hb18.block p hpl).trans hbox) 1 _ rfl
          clear hK K
          refine wpAnyT_ready (rs := [19]) (by kernel_rfl) (by simp) ?_
          refine AllReadyT.cons rfl (fun K hK => ?_) AllReadyT.nil
          go_simp
          refine hK.out _ _ (fun _ => hb18) ?_
          clear hK K
          refine wpAnyT_ready (rs := [20]) (by kernel_rfl) (by simp) ?_
          refine AllReadyT.cons rfl (fun K hK => ?_) AllReadyT.nil
          go_simp
          refine hK.out _ _ (fun _ => hb18) ?_
          clear hK K
          refine wpAnyT_ready (rs := [21]) (by kernel_rfl) (by simp) ?_
          refine AllReadyT.cons rfl (fun K hK => ?_) AllReadyT.nil
          go_simp
          refine hK.out _ _ (fun h => by cases h) ?_
          clear hK K
          refine wpAnyT_done (by kernel_rfl) ?_ _
          refine NoPanic.normal ?_
          go_wp2_with fail
          all_goals
            (try simp only [Nat.zero_add] at o4)
            (try simp only [List.append_assoc, List.singleton_append] at o4)
            go_meet
            exact hM.setIDs hb18 o4
        exact AllReadyT.nil
      refine AllReadyT.cons rfl (fun K hK => ?_) ?_
      · go_simp
        have hb10 : Below W0.heap.size W0 ((W0.drew).alloc (.cells #[Value.int .u64 i] 31)) := hS.alloc hS.size _
        refine hK.out _ _ (fun _ => hb10) ?_
        have r2 : RowG EQ ((W0.drew).alloc (.cells #[Value.int .u64 i] 31)) (some ⟨W0.heap.size, 0, none⟩) 1 1 [i] := (owng_lit EQ _ 31 [i] _ rfl 1 rfl (by omega) (Enc.Ok.one hi) W0.heap.size 0 (by simp) (by omega)).row
        clear hK K
        refine wpAnyT_ready (rs := [1]) (by kernel_rfl) (by simp) ?_
        refine AllReadyT.cons rfl (fun K hK => ?_) AllReadyT.nil
        go_simp
        have hb1 : Below W0.heap.size W0 (((W0.drew).alloc (.cells #[Value.int .u64 i] 31)).alloc (.cells #[] 31)) := hb10.alloc hb10.size _
        refine hK.out _ _ (fun _ => hb1) ?_
        have o1 : OwnG EQ 31 (((W0.drew).alloc (.cells #[Value.int .u64 i] 31)).alloc (.cells #[] 31)) W0.heap.size (some ⟨(W0.heap.size + 1), 0, none⟩) 0 0 [] := owng_lit EQ _ 31 [] _ rfl 0 rfl (by omega) Enc.Ok.nil _ _ (by simp) (by omega)
        replace r2 := r2.below (below_alloc _ (.cells #[] 31))
        clear hK K
        refine wpAnyT_ready (rs := [8]) (by kernel_rfl) (by simp) ?_
        refine AllReadyT.cons rfl (fun K hK => ?_) AllReadyT.nil
        refine Eq.mpr (if_pos (by kernel_rfl)) ?_
        refine op_append_g _ (.tmp 38) (.tmp 44) 27 rfl 31 Try.underlying27 _ _ infoEQ rfl (by omega) W0.heap.size 0 0 _ [] rfl o1 ia k ic (ns.take k) rfl ((HB.out _ hb1).2.pre k hk) ?_ hb1.size W0 hb1 ?_
        · omega
        intro s8 c8 w8 o2 hb8 g8
        refine hK.out _ _ (fun _ => hb8) ?_
        rw [List.nil_append] at o2
        replace r2 := r2.grown g8 (by intro x hx; cases hx; simp [Value.ownBlock])
        clear hK K
        refine wpAnyT_ready (rs := [11]) (by kernel_rfl) (by simp) ?_
        refine AllReadyT.cons rfl (fun K hK => ?_) AllReadyT.nil
        refine Eq.mpr (if_pos (by kernel_rfl)) ?_
        refine op_append_g _ (.tmp 45) (.tmp 47) 27 rfl 31 Try.underlying27 _ _ infoEQ rfl (by omega) W0.heap.size _ _ _ _ rfl o2 _ 1 1 [i] rfl r2 ?_ hb8.size W0 hb8 ?_
        · omega
        intro s11 c11 w11 o3 hb11 g11
        refine hK.out _ _ (fun _ => hb11) ?_
        clear hK K
        refine wpAnyT_ready (rs := [18]) (by kernel_rfl) (by simp) ?_
        refine AllReadyT.cons rfl (fun K hK => ?_) AllReadyT.nil
        refine Eq.mpr (if_pos (by kernel_rfl)) ?_
        refine op_append_g _ (.tmp 48) (.tmp 54) 27 rfl 31 Try.underlying27 _ _ infoEQ rfl (by omega) W0.heap.size _ _ _ _ rfl o3 _ _ _ (ns.drop k) rfl ((HB.out _ hb11).2.from rfl k hk) ?_ hb11.size W0 hb11 ?_
        · omega
        intro s18 c18 w18 o4 hb18 g18
        refine hK.out _ _ (fun _ => hb18) ?_
        obtain ⟨q1, q2⟩ := cell_fz ((hb18.block p hpl).trans hbox) 1 _ rfl
        clear hK K
        refine wpAnyT_ready (rs := [19]) (by kernel_rfl) (by simp) ?_
        refine AllReadyT.cons rfl (fun K hK => ?_) AllReadyT.nil
        go_simp
        refine hK.out _ _ (fun _ => hb18) ?_
        clear hK K
        refine wpAnyT_ready (rs := [20]) (by kernel_rfl) (by simp) ?_
        refine AllReadyT.cons rfl (fun K hK => ?_) AllReadyT.nil
        go_simp
        refine hK.out _ _ (fun _ => hb18) ?_
        clear hK K
        refine wpAnyT_ready (rs := [21]) (by kernel_rfl) (by simp) ?_
        refine AllReadyT.cons rfl (fun K hK => ?_) AllReadyT.nil
        go_simp
        refine hK.out _ _ (fun h => by cases h) ?_
        clear hK K
        refine wpAnyT_done (by kernel_rfl) ?_ _
        refine NoPanic.normal ?_
        go_wp2_with fail
        all_goals
          (try simp only [Nat.zero_add] at o4)
          (try simp only [List.append_assoc, List.singleton_append] at o4)
          go_meet
          exact hM.setIDs hb18 o4
      exact AllReadyT.nil
    case rest =>
      obtain ⟨hM2, t2⟩ := hcut
      obtain ⟨W5, hW5⟩ : ∃ W5, W5 = wc := ⟨_, rfl⟩
      rw [← hW5] at hM2 t2 ⊢
      clear hW5
      have hks : k ≤ ss.length := by have := HLS.out; omega
      obtain ⟨ia, ic, sa, sc, hbox, h2, h3, h4, h5, h6, h7⟩ := id hM2
      have d1 : W5.cell? ⟨p, 2, none⟩ = some (.slice sa ss.length sc) := by simp [World.cell?, hbox]
      have hcap := h3.row.cap_le
      have hro := h3.row
      have hpl := lt_of_cell d1
      have hbd2 : ss.length ≤ 1099511627776 := by have := HLS.out; omega
      have HK : Hid (k ≤ ns.length) := hk
      clear hk hbd
      obtain ⟨n, hn⟩ : ∃ n, n = ss.length := ⟨_, rfl⟩
      rw [← hn] at d1 hcap hro hks hbd2
      have hk := hks
      have HB : Hid (∀ W, Below W5.heap.size W5 W → W.cell? ⟨p, 2, none⟩ = some (.slice sa n sc) ∧ RowG ES W sa n sc ss) := fun W hW => ⟨(hW.cell hpl).trans d1, hro.below hW⟩
      have tA : Tou S w W5 := (Tou.of_below bA S).more t2
      have HR : Hid (∀ W, Below W5.heap.size W5 W → Row W xa xn xc xs) := fun W hW => HR0.out W (tA.more (Tou.of_below hW S))
      have hkc : k ≤ sc := by omega
      have hkc2 : (k : Int) ≤ (sc : Int) := by omega
      have hk2 : (k : Int) ≤ (n : Int) := by omega
      clear hn d1 hro h2 h3 h4 h5 h6 h7 hks
      go_wp2_with fail
      refine wp_region_noPanic ?_
      refine wp_region_T (S := fun W => Below W5.heap.size W5 W) (by kernel_rfl) (ext_drew W5) fun hS => ?_
      refine takeT_to (i := 0) (v := ?_) 58 rfl rfl (by kernel_rfl) (by kernel_rfl) (by kernel_rfl) (by kernel_rfl) (fun _ _ _ h => h) (Or.inl ⟨by rfl, ?_⟩) hS ?_
      rotate_left
      · intro W hW
        have s0 := (HB.out W hW).1; have sC := strR.out W xa xn xc xs (HR.out W hW)
        go_simp
        try with_reducible rfl
      simp only [List.setIfInBounds_toArray, List.set_cons_zero, List.set_cons_succ]
      refine takeT_to (i := 2) (v := ?_) 60 rfl rfl (by kernel_rfl) (by kernel_rfl) (by kernel_rfl) (by kernel_rfl) (fun _ _ _ h => h) (Or.inl ⟨by rfl, ?_⟩) hS ?_
      rotate_left
      · intro W hW
        have s0 := (HB.out W hW).1; have sC := strR.out W xa xn xc xs (HR.out W hW)
        go_simp
        try with_reducible rfl
      simp only [List.setIfInBounds_toArray, List.set_cons_zero, List.set_cons_succ]
      refine takeT_to (i := 3) (v := ?_) 61 rfl rfl (by kernel_rfl) (by kernel_rfl) (by kernel_rfl) (by kernel_rfl) (fun _ _ _ h => h) (Or.inl ⟨by rfl, ?_⟩) hS ?_
      rotate_left
      · intro W hW
        have s0 := (HB.out W hW).1; have sC := strR.out W xa xn xc xs (HR.out W hW)
        go_simp
        try with_reducible rfl
      simp only [List.setIfInBounds_toArray, List.set_cons_zero, List.set_cons_succ]
      refine takeT_to (i := 4) (v := ?_) 62 rfl rfl (by kernel_rfl) (by kernel_rfl) (by kernel_rfl) (by kernel_rfl) (fun _ _ _ h => h) (Or.inl ⟨by rfl, ?_⟩) hS ?_
      rotate_left
      · intro W hW
        have s0 := (HB.out W hW).1; have sC := strR.out W xa xn xc xs (HR.out W hW)
        go_simp
        try with_reducible rfl
      simp only [List.setIfInBounds_toArray, List.set_cons_zero, List.set_cons_succ]
      refine takeT_to (i := 5) (v := ?_) 63 rfl rfl (by kernel_rfl) (by kernel_rfl) (by kernel_rfl) (by kernel_rfl) (fun _ _ _ h => h) (Or.inl ⟨by rfl, ?_⟩) hS ?_
      rotate_left
      · intro W hW
        have s0 := (HB.out W hW).1; have sC := strR.out W xa xn xc xs (HR.out W hW)
        go_simp
        try with_reducible rfl
      simp only [List.setIfInBounds_toArray, List.set_cons_zero, List.set_cons_succ]
      refine takeT_to (i := 6) (v := ?_) 64 rfl rfl (by kernel_rfl) (by kernel_rfl) (by kernel_rfl) (by kernel_rfl) (fun _ _ _ h => h) (Or.inl ⟨by rfl, ?_⟩) hS ?_
      rotate_left
      · intro W hW
        have s0 := (HB.out W hW).1; have sC := strR.out W xa xn xc xs (HR.out W hW)
        go_simp
        try with_reducible rfl
      simp only [List.setIfInBounds_toArray, List.set_cons_zero, List.set_cons_succ]
      refine takeT_to (i := 7) (v := ?_) 65 rfl rfl (by kernel_rfl) (by kernel_rfl) (by kernel_rfl) (by kernel_rfl) (fun _ _ _ h => h) (Or.inl ⟨by rfl, ?_⟩) hS ?_
      rotate_left
      · intro W hW
        have s0 := (HB.out W hW).1; have sC := strR.out W xa xn xc xs (HR.out W hW)
        go_simp
        try with_reducible rfl
      simp only [List.setIfInBounds_toArray, List.set_cons_zero, List.set_cons_succ]
      refine takeT_to (i := 9) (v := ?_) 67 rfl rfl (by kernel_rfl) (by kernel_rfl) (by kernel_rfl) (by kernel_rfl) (fun _ _ _ h => h) (Or.inl ⟨by rfl, ?_⟩) hS ?_
      rotate_left
      · intro W hW
        have s0 := (HB.out W hW).1; have sC := strR.out W xa xn xc xs (HR.out W hW)
        go_simp
        try with_reducible rfl
      simp only [List.setIfInBounds_toArray, List.set_cons_zero, List.set_cons_succ]
      refine takeT_to (i := 10) (v := ?_) 68 rfl rfl (by kernel_rfl) (by kernel_rfl) (by kernel_rfl) (by kernel_rfl) (fun _ _ _ h => h) (Or.inl ⟨by rfl, ?_⟩) hS ?_
      rotate_left
      · intro W hW
        have s0 := (HB.out W hW).1; have sC := strR.out W xa xn xc xs (HR.out W hW)
        go_simp
        try with_reducible rfl
      simp only [List.setIfInBounds_toArray, List.set_cons_zero, List.set_cons_succ]
      refine takeT_to (i := 13) (v := ?_) 71 rfl rfl (by kernel_rfl) (by kernel_rfl) (by kernel_rfl) (by kernel_rfl) (fun _ _ _ h => h) (Or.inl ⟨by rfl, ?_⟩) hS ?_
      rotate_left
      · intro W hW
        have s0 := (HB.out W hW).1; have sC := strR.out W xa xn xc xs (HR.out W hW)
        go_simp
        try with_reducible rfl
      simp only [List.setIfInBounds_toArray, List.set_cons_zero, List.set_cons_succ]
      refine takeT_to (i := 14) (v := ?_) 72 rfl rfl (by kernel_rfl) (by kernel_rfl) (by kernel_rfl) (by kernel_rfl) (fun _ _ _ h => h) (Or.inl ⟨by rfl, ?_⟩) hS ?_
      rotate_left
      · intro W hW
        have s0 := (HB.out W hW).1; have sC := strR.out W xa xn xc xs (HR.out W hW)
        go_simp
        try with_reducible rfl
      simp only [List.setIfInBounds_toArray, List.set_cons_zero, List.set_cons_succ]
      refine takeT_to (i := 15) (v := ?_) 73 rfl rfl (by kernel_rfl) (by kernel_rfl) (by kernel_rfl) (by kernel_rfl) (fun _ _ _ h => h) (Or.inl ⟨by rfl, ?_⟩) hS ?_
      rotate_left
      · intro W hW
        have s0 := (HB.out W hW).1; have sC := strR.out W xa xn xc xs (HR.out W hW)
        go_simp
        try with_reducible rfl
      simp only [List.setIfInBounds_toArray, List.set_cons_zero, List.set_cons_succ]
      refine takeT_to (i := 16) (v := ?_) 74 rfl rfl (by kernel_rfl) (by kernel_rfl) (by kernel_rfl) (by kernel_rfl) (fun _ _ _ h => h) (Or.inl ⟨by rfl, ?_⟩) hS ?_
      rotate_left
      · intro W hW
        have s0 := (HB.out W hW).1; have sC := strR.out W xa xn xc xs (HR.out W hW)
        go_simp
        try with_reducible rfl
      simp only [List.setIfInBounds_toArray, List.set_cons_zero, List.set_cons_succ]
      refine takeT_to (i := 17) (v := ?_) 75 rfl rfl (by kernel_rfl) (by kernel_rfl) (by kernel_rfl) (by kernel_rfl) (fun _ _ _ h => h) (Or.inl ⟨by rfl, ?_⟩) hS ?_
      rotate_left
      · intro W hW
        have s0 := (HB.out W hW).1; have sC := strR.out W xa xn xc xs (HR.out W hW)
        go_simp
        try with_reducible rfl
      simp only [List.setIfInBounds_toArray, List.set_cons_zero, List.set_cons_succ]
      refine takeT_to (i := 18) (v := ?_) 76 rfl rfl (by kernel_rfl) (by kernel_rfl) (by kernel_rfl) (by kernel_rfl) (fun _ _ _ h => h) (Or.inl ⟨by rfl, ?_⟩) hS ?_
      rotate_left
      · intro W hW
        have s0 := (HB.out W hW).1; have sC := strR.out W xa xn xc xs (HR.out W hW)
        go_simp
        try with_reducible rfl
      simp only [List.setIfInBounds_toArray, List.set_cons_zero, List.set_cons_succ]
      refine wpAnyT_ready (rs := [1, 11]) (by kernel_rfl) (by simp) ?_
      refine AllReadyT.cons rfl (fun K hK => ?_) ?_
      · go_simp
        have hb1 : Below W5.heap.size W5 ((W5.drew).alloc (.cells #[] 9)) := hS.alloc hS.size _
        refine hK.out _ _ (fun _ => hb1) ?_
        have o1 : OwnG ES 9 ((W5.drew).alloc (.cells #[] 9)) W5.heap.size (some ⟨W5.heap.size, 0, none⟩) 0 0 [] := owng_lit ES _ 9 [] _ rfl 0 rfl (by omega) Enc.Ok.nil _ _ (by simp) (by omega)
        clear hK K
        refine wpAnyT_ready (rs := [8, 11]) (by kernel_rfl) (by simp) ?_
        refine AllReadyT.cons rfl (fun K hK => ?_) ?_
        · skip
          refine Eq.mpr (if_pos (by kernel_rfl)) ?_
          refine op_append_g _ (.tmp 59) (.tmp 65) 28 rfl 9 Try.underlying28 _ _ infoES rfl (by omega) W5.heap.size 0 0 _ [] rfl o1 sa k sc (ss.take k) rfl ((HB.out _ hb1).2.pre k hk) ?_ hb1.size W5 hb1 ?_
          · omega
          intro s8 c8 w8 o2 hb8 g8
          refine hK.out _ _ (fun _ => hb8) ?_
          rw [Nat.zero_add, List.nil_append] at o2
          clear hK K
          refine wpAnyT_ready (rs := [11]) (by kernel_rfl) (by simp) ?_
          refine AllReadyT.cons rfl (fun K hK => ?_) AllReadyT.nil
          go_simp
          have hb11 : Below W5.heap.size W5 ((w8).alloc (.cells #[Value.string (strOfNums xs)] 9)) := hb8.alloc hb8.size _
          refine hK.out _ _ (fun _ => hb11) ?_
          have r2 : RowG ES ((w8).alloc (.cells #[Value.string (strOfNums xs)] 9)) (some ⟨w8.heap.size, 0, none⟩) 1 1 [xs] := (owng_lit ES _ 9 [xs] _ rfl 1 rfl (by omega) (Enc.Ok.one hxb) w8.heap.size 0 (by simp) (by omega)).row
          replace o2 := o2.below (below_alloc _ (.cells #[Value.string (strOfNums xs)] 9))
          clear hK K
          refine wpAnyT_ready (rs := [12]) (by kernel_rfl) (by simp) ?_
          refine AllReadyT.cons rfl (fun K hK => ?_) AllReadyT.nil
          refine Eq.mpr (if_pos (by kernel_rfl)) ?_
          refine op_append_g _ (.tmp 66) (.tmp 69) 28 rfl 9 Try.underlying28 _ _ infoES rfl (by omega) W5.heap.size _ _ _ _ rfl o2 _ 1 1 [xs] rfl r2 ?_ hb11.size W5 hb11 ?_
          · omega
          intro s12 c12 w12 o3 hb12 g12
          refine hK.out _ _ (fun _ => hb12) ?_
          clear hK K
          refine wpAnyT_ready (rs := [19]) (by kernel_rfl) (by simp) ?_
          refine AllReadyT.cons rfl (fun K hK => ?_) AllReadyT.nil
          refine Eq.mpr (if_pos (by kernel_rfl)) ?_
          refine op_append_g _ (.tmp 70) (.tmp 76) 28 rfl 9 Try.underlying28 _ _ infoES rfl (by omega) W5.heap.size _ _ _ _ rfl o3 _ _ _ (ss.drop k) rfl ((HB.out _ hb12).2.from rfl k hk) ?_ hb12.size W5 hb12 ?_
          · omega
          intro s19 c19 w19 o4 hb19 g19
          refine hK.out _ _ (fun _ => hb19) ?_
          obtain ⟨q1, q2⟩ := cell_fz ((hb19.block p hpl).trans hbox) 2 _ rfl
          clear hK K
          refine wpAnyT_ready (rs := [20]) (by kernel_rfl) (by simp) ?_
          refine AllReadyT.cons rfl (fun K hK => ?_) AllReadyT.nil
          go_simp
          refine hK.out _ _ (fun _ => hb19) ?_
          clear hK K
          refine wpAnyT_ready (rs := [21]) (by kernel_rfl) (by simp) ?_
          refine AllReadyT.cons rfl (fun K hK => ?_) AllReadyT.nil
          go_simp
          refine hK.out _ _ (fun _ => hb19) ?_
          clear hK K
          refine wpAnyT_ready (rs := [22]) (by kernel_rfl) (by simp) ?_
          refine AllReadyT.cons rfl (fun K hK => ?_) AllReadyT.nil
          go_simp
          refine hK.out _ _ (fun h => by cases h) ?_
          clear hK K
          refine wpAnyT_done (by kernel_rfl) ?_ _
          refine NoPanic.normal ?_
          go_wp2
          all_goals
            (try simp only [Nat.zero_add] at o4)
            (try simp only [List.append_assoc, List.singleton_append] at o4)
            go_ret
            obtain ⟨hz, tz⟩ := hM2.setRecs hb19 o4
            have tf := tA.trans tz (fun q hq => hq.imp id (fun hq => by omega))
            exact ⟨rfl, tf, k, HK.out, HLO.out.1, HLO.out.2, .inr ⟨HKI.out, hz.outer sA t2.size tz.size (fun q hq => Nat.lt_of_lt_of_le (hM.lt q hq) (Nat.le_trans t2.size tz.size))⟩⟩
        refine AllReadyT.cons rfl (fun K hK => ?_) ?_
        · go_simp
          have hb11 : Below W5.heap.size W5 (((W5.drew).alloc (.cells #[] 9)).alloc (.cells #[Value.string (strOfNums xs)] 9)) := hb1.alloc hb1.size _
          refine hK.out _ _ (fun _ => hb11) ?_
          have r2 : RowG ES (((W5.drew).alloc (.cells #[] 9)).alloc (.cells #[Value.string (strOfNums xs)] 9)) (some ⟨(W5.heap.size + 1), 0, none⟩) 1 1 [xs] := (owng_lit ES _ 9 [xs] _ rfl 1 rfl (by omega) (Enc.Ok.one hxb) (W5.heap.size + 1) 0 (by simp) (by omega)).row
          replace o1 := o1.below (below_alloc _ (.cells #[Value.string (strOfNums xs)] 9))
          clear hK K
          refine wpAnyT_ready (rs := [8]) (by kernel_rfl) (by simp) ?_
          refine AllReadyT.cons rfl (fun K hK => ?_) AllReadyT.nil
          refine Eq.mpr (if_pos (by kernel_rfl)) ?_
          refine op_append_g _ (.tmp 59) (.tmp 65) 28 rfl 9 Try.underlying28 _ _ infoES rfl (by omega) W5.heap.size 0 0 _ [] rfl o1 sa k sc (ss.take k) rfl ((HB.out _ hb11).2.pre k hk) ?_ hb11.size W5 hb11 ?_
          · omega
          intro s8 c8 w8 o2 hb8 g8
          refine hK.out _ _ (fun _ => hb8) ?_
          rw [List.nil_append] at o2
          replace r2 := r2.grown g8 (by intro x hx; cases hx; simp [Value.ownBlock])
          clear hK K
          refine wpAnyT_ready (rs := [12]) (by kernel_rfl) (by simp) ?_
          refine AllReadyT.cons rfl (fun K hK => ?_) AllReadyT.nil
          refine Eq.mpr (if_pos (by kernel_rfl)) ?_
          refine op_append_g _ (.tmp 66) (.tmp 69) 28 rfl 9 Try.underlying28 _ _ infoES rfl (by omega) W5.heap.size _ _ _ _ rfl o2 _ 1 1 [xs] rfl r2 ?_ hb8.size W5 hb8 ?_
          · omega
          intro s12 c12 w12 o3 hb12 g12
          refine hK.out _ _ (fun _ => hb12) ?_
          clear hK K
          refine wpAnyT_ready (rs := [19]) (by kernel_rfl) (by simp) ?_
          refine AllReadyT.cons rfl (fun K hK => ?_) AllReadyT.nil
          refine Eq.mpr (if_pos (by kernel_rfl)) ?_
          refine op_append_g _ (.tmp 70) (.tmp 76) 28 rfl 9 Try.underlying28 _ _ infoES rfl (by omega) W5.heap.size _ _ _ _ rfl o3 _ _ _ (ss.drop k) rfl ((HB.out _ hb12).2.from rfl k hk) ?_ hb12.size W5 hb12 ?_
          · omega
          intro s19 c19 w19 o4 hb19 g19
          refine hK.out _ _ (fun _ => hb19) ?_
          obtain ⟨q1, q2⟩ := cell_fz ((hb19.block p hpl).trans hbox) 2 _ rfl
          clear hK K
          refine wpAnyT_ready (rs := [20]) (by kernel_rfl) (by simp) ?_
          refine AllReadyT.cons rfl (fun K hK => ?_) AllReadyT.nil
          go_simp
          refine hK.out _ _ (fun _ => hb19) ?_
          clear hK K
          refine wpAnyT_ready (rs := [21]) (by kernel_rfl) (by simp) ?_
          refine AllReadyT.cons rfl (fun K hK => ?_) AllReadyT.nil
          go_simp
          refine hK.out _ _ (fun _ => hb19) ?_
          clear hK K
          refine wpAnyT_ready (rs := [22]) (by kernel_rfl) (by simp) ?_
          refine AllReadyT.cons rfl (fun K hK => ?_) AllReadyT.nil
          go_simp
          refine hK.out _ _ (fun h => by cases h) ?_
          clear hK K
          refine wpAnyT_done (by kernel_rfl) ?_ _
          refine NoPanic.normal ?_
          go_wp2
          all_goals
            (try simp only [Nat.zero_add] at o4)
            (try simp only [List.append_assoc, List.singleton_append] at o4)
            go_ret
            obtain ⟨hz, tz⟩ := hM2.setRecs hb19 o4
            have tf := tA.trans tz (fun q hq => hq.imp id (fun hq => by omega))
            exact ⟨rfl, tf, k, HK.out, HLO.out.1, HLO.out.2, .inr ⟨HKI.out, hz.outer sA t2.size tz.size (fun q hq => Nat.lt_of_lt_of_le (hM.lt q hq) (Nat.le_trans t2.size tz.size))⟩⟩
        exact AllReadyT.nil
      refine AllReadyT.cons rfl (fun K hK => ?_) ?_
      · go_simp
        have hb11 : Below W5.heap.size W5 ((W5.drew).alloc (.cells #[Value.string (strOfNums xs)] 9)) := hS.alloc hS.size _
        refine hK.out _ _ (fun _ => hb11) ?_
        have r2 : RowG ES ((W5.drew).alloc (.cells #[Value.string (strOfNums xs)] 9)) (some ⟨W5.heap.size, 0, none⟩) 1 1 [xs] := (owng_lit ES _ 9 [xs] _ rfl 1 rfl (by omega) (Enc.Ok.one hxb) W5.heap.size 0 (by simp) (by omega)).row
        clear hK K
        refine wpAnyT_ready (rs := [1]) (by kernel_rfl) (by simp) ?_
        refine AllReadyT.cons rfl (fun K hK => ?_) AllReadyT.nil
        go_simp
        have hb1 : Below W5.heap.size W5 (((W5.drew).alloc (.cells #[Value.string (strOfNums xs)] 9)).alloc (.cells #[] 9)) := hb11.alloc hb11.size _
        refine hK.out _ _ (fun _ => hb1) ?_
        have o1 : OwnG ES 9 (((W5.drew).alloc (.cells #[Value.string (strOfNums xs)] 9)).alloc (.cells #[] 9)) W5.heap.size (some ⟨(W5.heap.size + 1), 0, none⟩) 0 0 [] := owng_lit ES _ 9 [] _ rfl 0 rfl (by omega) Enc.Ok.nil _ _ (by simp) (by omega)
        replace r2 := r2.below (below_alloc _ (.cells #[] 9))
        clear hK K
        refine wpAnyT_ready (rs := [8]) (by kernel_rfl) (by simp) ?_
        refine AllReadyT.cons rfl (fun K hK => ?_) AllReadyT.nil
        refine Eq.mpr (if_pos (by kernel_rfl)) ?_
        refine op_append_g _ (.tmp 59) (.tmp 65) 28 rfl 9 Try.underlying28 _ _ infoES rfl (by omega) W5.heap.size 0 0 _ [] rfl o1 sa k sc (ss.take k) rfl ((HB.out _ hb1).2.pre k hk) ?_ hb1.size W5 hb1 ?_
        · omega
        intro s8 c8 w8 o2 hb8 g8
        refine hK.out _ _ (fun _ => hb8) ?_
        rw [List.nil_append] at o2
        replace r2 := r2.grown g8 (by intro x hx; cases hx; simp [Value.ownBlock])
        clear hK K
        refine wpAnyT_ready (rs := [12]) (by kernel_rfl) (by simp) ?_
        refine AllReadyT.cons rfl (fun K hK => ?_) AllReadyT.nil
        refine Eq.mpr (if_pos (by kernel_rfl)) ?_
        refine op_append_g _ (.tmp 66) (.tmp 69) 28 rfl 9 Try.underlying28 _ _ infoES rfl (by omega) W5.heap.size _ _ _ _ rfl o2 _ 1 1 [xs] rfl r2 ?_ hb8.size W5 hb8 ?_
        · omega
        intro s12 c12 w12 o3 hb12 g12
        refine hK.out _ _ (fun _ => hb12) ?_
        clear hK K
        refine wpAnyT_ready (rs := [19]) (by kernel_rfl) (by simp) ?_
        refine AllReadyT.cons rfl (fun K hK => ?_) AllReadyT.nil
        refine Eq.mpr (if_pos (by kernel_rfl)) ?_
        refine op_append_g _ (.tmp 70) (.tmp 76) 28 rfl 9 Try.underlying28 _ _ infoES rfl (by omega) W5.heap.size _ _ _ _ rfl o3 _ _ _ (ss.drop k) rfl ((HB.out _ hb12).2.from rfl k hk) ?_ hb12.size W5 hb12 ?_
        · omega
        intro s19 c19 w19 o4 hb19 g19
        refine hK.out _ _ (fun _ => hb19) ?_
        obtain ⟨q1, q2⟩ := cell_fz ((hb19.block p hpl).trans hbox) 2 _ rfl
        clear hK K
        refine wpAnyT_ready (rs := [20]) (by kernel_rfl) (by simp) ?_
        refine AllReadyT.cons rfl (fun K hK => ?_) AllReadyT.nil
        go_simp
        refine hK.out _ _ (fun _ => hb19) ?_
        clear hK K
        refine wpAnyT_ready (rs := [21]) (by kernel_rfl) (by simp) ?_
        refine AllReadyT.cons rfl (fun K hK => ?_) AllReadyT.nil
        go_simp
        refine hK.out _ _ (fun _ => hb19) ?_
        clear hK K
        refine wpAnyT_ready (rs := [22]) (by kernel_rfl) (by simp) ?_
        refine AllReadyT.cons rfl (fun K hK => ?_) AllReadyT.nil
        go_simp
        refine hK.out _ _ (fun h => by cases h) ?_
        clear hK K
        refine wpAnyT_done (by kernel_rfl) ?_ _
        refine NoPanic.normal ?_
        go_wp2
        all_goals
          (try simp only [Nat.zero_add] at o4)
          (try simp only [List.append_assoc, List.singleton_append] at o4)
          go_ret
          obtain ⟨hz, tz⟩ := hM2.setRecs hb19 o4
          have tf := tA.trans tz (fun q hq => hq.imp id (fun hq => by omega))
          exact ⟨rfl, tf, k, HK.out, HLO.out.1, HLO.out.2, .inr ⟨HKI.out, hz.outer sA t2.size tz.size (fun q hq => Nat.lt_of_lt_of_le (hM.lt q hq) (Nat.le_trans t2.size tz.size))⟩⟩
      exact AllReadyT.nil
end
end Go.Proofs.Ytafnonmpanpfkaa
