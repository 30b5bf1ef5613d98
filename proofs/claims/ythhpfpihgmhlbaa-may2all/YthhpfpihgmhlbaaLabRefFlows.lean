/- What the document's own Flows, Join, Meet, RiseAll answer of labels: contracts. -/
import Derived.Test.YthhpfpihgmhlbaaLabMk
import Derived.Test.YthhpfpihgmhlbaaLabRise
namespace Go.Proofs.Ythhpfpihgmhlbaa
open Go.RowKit

set_option maxHeartbeats 2000000 in
theorem refFlows_any (d d' : Int) (a1 a2 : Option Addr) (n1 c1 n2 c2 : Nat) (xs ys : List (Int × Int)) (w : World) (hr : RowG PE w a1 n1 c1 xs) (hs : RowG PE w a2 n2 c2 ys) (hbd : n1 + n2 ≤ 1000) :
    Calls Try.prog 39 #[.agg #[.int .u8 d, .slice a1 n1 c1], .agg #[.int .u8 d', .slice a2 n2 c2]] w fun e w' => ∃ q : Bool, e = .returned (.bool q) ∧ (q = true ↔ FlL d xs d' ys) ∧ Below w.heap.size w w' := by
  have hcap1 := hr.cap_le
  have hcap2 := hs.cap_le
  go_enter Try.func39, Try.ntmps39
  go_wp2_with fail
  refine (cats_any d d' a1 a2 n1 c1 n2 c2 xs ys _ (hr.below (two_allocs _ _ _)) (hs.below (two_allocs _ _ _)) (by omega)).mono ?_
  rintro e W0 ⟨zo, kz, zc, zs, rfl, hzown, hb, _, hmem, hkz⟩
  have hbW : Below w.heap.size w W0 := Below.trans (by repeat (first | exact Below.refl _ _ | refine Below.alloc ?_ (by simp <;> omega) _)) (hb.mono (by simp <;> omega))
  have k0 : W0.cell? ⟨w.heap.size, 0, none⟩ = some (.int .u8 d) := by rw [hb.cell (by simp <;> omega)]; simp
  have k1 : W0.cell? ⟨w.heap.size, 1, none⟩ = some (.slice a1 n1 c1) := by rw [hb.cell (by simp <;> omega)]; simp
  have k2 : W0.cell? ⟨w.heap.size + 1, 0, none⟩ = some (.int .u8 d') := by rw [hb.cell (by simp <;> omega)]; simp
  have k3 : W0.cell? ⟨w.heap.size + 1, 1, none⟩ = some (.slice a2 n2 c2) := by rw [hb.cell (by simp <;> omega)]; simp
  have HM : Hid (∀ x, x ∈ zs ↔ x ∈ (xs ++ ys).map Prod.fst) := hmem
  have hzl : Hid (zs.length = kz) := hzown.1
  replace hzown := hzown.row
  have hzcap := hzown.cap_le
  have HN : Hid ((∀ p ∈ xs, 0 ≤ p.1) ∧ ∀ p ∈ ys, 0 ≤ p.1) := ⟨fun p hp => (hr.ok p hp).1.1, fun p hp => (hs.ok p hp).1.1⟩
  clear hmem hb
  go_wp2_with fail
  go_loopw [6] (fun i wr => ∃ j : Nat, j ≤ kz ∧ i = .int .i64 j ∧ Below W0.heap.size W0 wr ∧ ∀ (t : Nat) (C : Int), t < j → zs[t]? = some C → atL d xs C ≤ atL d' ys C) (fun i _ => kz - (intOf i).toNat)
  case atStart => exact ⟨0, by omega, rfl, Below.refl _ _, fun t _ h => by omega⟩
  case round =>
    obtain ⟨j, hj, rfl, hbr0, hup⟩ := hrel
    have HUP : Hid (∀ (t : Nat) (C : Int), t < j → zs[t]? = some C → atL d xs C ≤ atL d' ys C) := hup
    clear hup
    have hbr := ext_trans hbW hbr0
    by_cases hlt : j < kz
    · have hp : (j : Int) < (kz : Int) := by omega
      obtain ⟨C, zb, zoff, rfl, hC, hCb, z0⟩ := (hzown.below hbr0).at' j hlt
      have HC : Hid (∀ W, Below wr.heap.size wr W → W.cell? ⟨w.heap.size, 0, none⟩ = some (.int .u8 d) ∧ W.cell? ⟨w.heap.size, 1, none⟩ = some (.slice a1 n1 c1) ∧ W.cell? ⟨w.heap.size + 1, 0, none⟩ = some (.int .u8 d') ∧ W.cell? ⟨w.heap.size + 1, 1, none⟩ = some (.slice a2 n2 c2) ∧ W.cell? ⟨zb, zoff + j, none⟩ = some (.int .u16 C)) := fun W h => by
        have h' := ext_trans hbr0 h
        exact ⟨by rw [h'.cell (lt_of_cell k0)]; exact k0, by rw [h'.cell (lt_of_cell k1)]; exact k1, by rw [h'.cell (lt_of_cell k2)]; exact k2, by rw [h'.cell (lt_of_cell k3)]; exact k3, by rw [h.cell (lt_of_cell z0)]; exact z0⟩
      have HZ : Hid (zs[j]? = some C) := hC
      clear hC z0
      go_wp2_with fail
      refine wp_region_noPanic ?_
      refine wp_region_held_drew (S := fun W => Below wr.heap.size wr W) (by kernel_rfl) (ext_drew wr) fun hS => ?_
      refine take_to (i := 0) (v := ?_) 16 rfl rfl (by kernel_rfl) (by kernel_rfl) (by kernel_rfl) (fun _ _ _ h => h) (Or.inl ⟨by rfl, ?_⟩) hS ?_
      rotate_left
      · intro W hW
        obtain ⟨s0, s1, s2, s3, s4⟩ := HC.out W hW
        go_simp
        try with_reducible rfl
      simp only [List.setIfInBounds_toArray, List.set_cons_zero, List.set_cons_succ]
      refine take_to (i := 1) (v := ?_) 17 rfl rfl (by kernel_rfl) (by kernel_rfl) (by kernel_rfl) (fun _ _ _ h => h) (Or.inl ⟨by rfl, ?_⟩) hS ?_
      rotate_left
      · intro W hW
        obtain ⟨s0, s1, s2, s3, s4⟩ := HC.out W hW
        go_simp
        try with_reducible rfl
      simp only [List.setIfInBounds_toArray, List.set_cons_zero, List.set_cons_succ]
      refine take_to (i := 2) (v := ?_) 18 rfl rfl (by kernel_rfl) (by kernel_rfl) (by kernel_rfl) (fun _ _ _ h => h) (Or.inl ⟨by rfl, ?_⟩) hS ?_
      rotate_left
      · intro W hW
        obtain ⟨s0, s1, s2, s3, s4⟩ := HC.out W hW
        go_simp
        try with_reducible rfl
      simp only [List.setIfInBounds_toArray, List.set_cons_zero, List.set_cons_succ]
      refine take_to (i := 3) (v := ?_) 19 rfl rfl (by kernel_rfl) (by kernel_rfl) (by kernel_rfl) (fun _ _ _ h => h) (Or.inl ⟨by rfl, ?_⟩) hS ?_
      rotate_left
      · intro W hW
        obtain ⟨s0, s1, s2, s3, s4⟩ := HC.out W hW
        go_simp
        try with_reducible rfl
      simp only [List.setIfInBounds_toArray, List.set_cons_zero, List.set_cons_succ]
      refine take_to (i := 4) (v := ?_) 20 rfl rfl (by kernel_rfl) (by kernel_rfl) (by kernel_rfl) (fun _ _ _ h => h) (Or.inl ⟨by rfl, ?_⟩) hS ?_
      rotate_left
      · intro W hW
        obtain ⟨s0, s1, s2, s3, s4⟩ := HC.out W hW
        go_simp
        try with_reducible rfl
      simp only [List.setIfInBounds_toArray, List.set_cons_zero, List.set_cons_succ]
      refine take_to (i := 6) (v := ?_) 22 rfl rfl (by kernel_rfl) (by kernel_rfl) (by kernel_rfl) (fun _ _ _ h => h) (Or.inl ⟨by rfl, ?_⟩) hS ?_
      rotate_left
      · intro W hW
        obtain ⟨s0, s1, s2, s3, s4⟩ := HC.out W hW
        go_simp
        try with_reducible rfl
      simp only [List.setIfInBounds_toArray, List.set_cons_zero, List.set_cons_succ]
      refine take_to (i := 7) (v := ?_) 23 rfl rfl (by kernel_rfl) (by kernel_rfl) (by kernel_rfl) (fun _ _ _ h => h) (Or.inl ⟨by rfl, ?_⟩) hS ?_
      rotate_left
      · intro W hW
        obtain ⟨s0, s1, s2, s3, s4⟩ := HC.out W hW
        go_simp
        try with_reducible rfl
      simp only [List.setIfInBounds_toArray, List.set_cons_zero, List.set_cons_succ]
      refine take_to (i := 8) (v := ?_) 24 rfl rfl (by kernel_rfl) (by kernel_rfl) (by kernel_rfl) (fun _ _ _ h => h) (Or.inl ⟨by rfl, ?_⟩) hS ?_
      rotate_left
      · intro W hW
        obtain ⟨s0, s1, s2, s3, s4⟩ := HC.out W hW
        go_simp
        try with_reducible rfl
      simp only [List.setIfInBounds_toArray, List.set_cons_zero, List.set_cons_succ]
      refine take_to (i := 9) (v := ?_) 25 rfl rfl (by kernel_rfl) (by kernel_rfl) (by kernel_rfl) (fun _ _ _ h => h) (Or.inl ⟨by rfl, ?_⟩) hS ?_
      rotate_left
      · intro W hW
        obtain ⟨s0, s1, s2, s3, s4⟩ := HC.out W hW
        go_simp
        try with_reducible rfl
      simp only [List.setIfInBounds_toArray, List.set_cons_zero, List.set_cons_succ]
      refine take_to (i := 10) (v := ?_) 26 rfl rfl (by kernel_rfl) (by kernel_rfl) (by kernel_rfl) (fun _ _ _ h => h) (Or.inl ⟨by rfl, ?_⟩) hS ?_
      rotate_left
      · intro W hW
        obtain ⟨s0, s1, s2, s3, s4⟩ := HC.out W hW
        go_simp
        try with_reducible rfl
      simp only [List.setIfInBounds_toArray, List.set_cons_zero, List.set_cons_succ]
      refine wpAnyH_ready (rs := [5]) (by kernel_rfl) (by simp) ?_
      refine AllReadyH.cons rfl (fun K hK => ?_) AllReadyH.nil
      go_simp
      refine (refAt_any d a1 n1 c1 xs C _ ((hr.below hbr).below (ext_drew _))).mono ?_
      rintro e w3 ⟨rfl, hb3⟩
      have hB3 : Below wr.heap.size wr w3 := ext_trans (ext_drew _) hb3
      refine hK.out _ _ hB3 fun _ => ?_
      clear hK K
      refine wpAnyH_ready (rs := [11]) (by kernel_rfl) (by simp) ?_
      refine AllReadyH.cons rfl (fun K hK => ?_) AllReadyH.nil
      go_simp
      refine (refAt_any d' a2 n2 c2 ys C _ ((hs.below hbr).below hB3)).mono ?_
      rintro e w4 ⟨rfl, hb4⟩
      have hB4 : Below wr.heap.size wr w4 := ext_trans hB3 hb4
      refine hK.out _ _ hB4 fun _ => ?_
      clear hK K
      obtain ⟨x, hx⟩ : ∃ x, x = atL d xs C := ⟨_, rfl⟩
      obtain ⟨y, hy⟩ : ∃ y, y = atL d' ys C := ⟨_, rfl⟩
      rw [← hx, ← hy]
      have HXY : Hid (x = atL d xs C ∧ y = atL d' ys C) := ⟨hx, hy⟩
      clear hx hy
      by_cases hxy : y < x
      · refine wpAnyH_ready (rs := [12]) (by kernel_rfl) (by simp) ?_
        refine AllReadyH.cons rfl (fun K hK => ?_) AllReadyH.nil
        go_simp
        refine hK.out _ _ hB4 fun _ => ?_
        clear hK K
        refine wpAnyH_done (by kernel_rfl) ?_ _
        refine NoPanic.normal ?_
        go_wp2_with fail
        go_ret
        refine ⟨false, rfl, ⟨fun h => by simp at h, fun h => ?_⟩, ext_trans hbr hB4⟩
        have h1 := h C
        rw [← HXY.out.1, ← HXY.out.2] at h1
        omega
      · have hxy' : decide (y < x) = false := by simpa using hxy
        refine wpAnyH_ready (rs := [12]) (by kernel_rfl) (by simp) ?_
        refine AllReadyH.cons rfl (fun K hK => ?_) AllReadyH.nil
        go_simp
        refine hK.out _ _ hB4 fun _ => ?_
        clear hK K
        refine wpAnyH_done (by kernel_rfl) ?_ _
        refine NoPanic.normal ?_
        go_wp2_with fail
        go_roundw
        case rel =>
          refine ⟨j + 1, by omega, by go_num, ext_trans hbr0 hB4, fun t C1 ht hc => ?_⟩
          by_cases h : t < j
          · exact HUP.out t C1 h hc
          · obtain rfl : t = j := by omega
            rw [HZ.out] at hc
            obtain rfl := Option.some.inj hc
            rw [← HXY.out.1, ← HXY.out.2]; omega
        case measure => simp [intOf]; omega
    · obtain rfl : kz = j := by omega
      have k0' : wr.cell? ⟨w.heap.size, 0, none⟩ = some (.int .u8 d) := by rw [hbr0.cell (lt_of_cell k0)]; exact k0
      have k2' : wr.cell? ⟨w.heap.size + 1, 0, none⟩ = some (.int .u8 d') := by rw [hbr0.cell (lt_of_cell k2)]; exact k2
      have hdd : Hid (decide (d ≤ d') = true ↔ d ≤ d') := decide_eq_true_iff
      go_wp2_with fail
      go_ret
      refine ⟨decide (d ≤ d'), rfl, ?_, hbr⟩
      rw [hdd.out]
      refine ⟨fun h c => ?_, fun h => by have := h (-1); rwa [atL_none HN.out.1, atL_none HN.out.2] at this⟩
      by_cases hc : c ∈ zs
      · obtain ⟨i, hi, rfl⟩ := List.mem_iff_getElem.1 hc
        exact HUP.out i _ (by have := hzl.out; omega) (List.getElem?_eq_getElem hi)
      · have hn := fun hm => hc ((HM.out c).2 hm)
        rw [List.map_append, List.mem_append] at hn
        rw [atL_off d xs c (fun p hp e => hn (.inl (List.mem_map.2 ⟨p, hp, e⟩))), atL_off d' ys c (fun p hp e => hn (.inr (List.mem_map.2 ⟨p, hp, e⟩)))]
        exact h
end Go.Proofs.Ythhpfpihgmhlbaa
