/- 'PagesParts' answers true: what is written in parts, and read in parts, is what is written and read at once. -/
import Derived.Test.YtdmdamidknbjoaaPgStr
import Derived.Test.YtdmdamidknbjoaaPgBegun
import Derived.Test.YtdmdamidknbjoaaRegion
import Derived.Deep.CutRange
namespace Go.Proofs.Ytdmdamidknbjoaa
open Go.RowKit
set_option maxRecDepth 100000

set_option maxHeartbeats 4000000 in
set_option maxRecDepth 100000 in
theorem pagesParts_all (a : Option Addr) (len cap : Nat) (xs : List Int) (x y z : Int) (hx : 0 ≤ x ∧ x < 256) (hy : 0 ≤ y ∧ y < 256) (hz : 0 ≤ z ∧ z < 256) (W : World) (hr : Row W a len cap xs) :
    Calls Try.prog 6 #[.slice a len cap, .int .u8 x, .int .u8 y, .int .u8 z] W fun e w' => e = .returned (.bool true) ∧ Below W.heap.size W w' := by
  have hcap := hr.cap_le
  by_cases h0 : len = 0
  · subst h0
    go_enter Try.func6, Try.ntmps6
    go_wp2_with fail
    refine (begun13_true _).mono ?_
    rintro e w1 ⟨rfl, hb1⟩
    go_wp2_with fail
    go_ret
    exact ⟨rfl, hb1⟩
  have hl0 : ((len : Int) == 0) = false := by rw [beq_eq_false_iff_ne]; omega
  by_cases hl : len ≤ 64
  case neg =>
    have hl' : (64 : Int) < (len : Int) := by omega
    go_enter Try.func6, Try.ntmps6
    go_wp2_with fail
    refine (begun13_true _).mono ?_
    rintro e w1 ⟨rfl, hb1⟩
    go_wp2_with fail
    go_ret
    exact ⟨rfl, hb1⟩
  have hl' : decide ((64 : Int) < (len : Int)) = false := by simp; omega
  obtain ⟨bb, bo, rfl, hcell⟩ := hr.at (by omega)
  have hbl : bb < W.heap.size := lt_of_cell (hcell 0 (by omega))
  have hd : ∀ {n : Nat}, ∀ x, some (⟨bb, bo, none⟩ : Addr) = some x → 0 < n → x.block < W.heap.size := fun x hx _ => by obtain rfl := Option.some.inj hx; exact hbl
  clear hcell h0
  have hpg := pg_64 hl
  have hxl : Hid (xs.length = len) := hr.len
  obtain ⟨k, hk, ek⟩ : ∃ k : Nat, k ≤ len ∧ x.tmod ((len : Int) + 1) = (k : Int) := by
    have h1 := Int.emod_nonneg x (show (len : Int) + 1 ≠ 0 by omega)
    have h2 := Int.emod_lt_of_pos x (show 0 < (len : Int) + 1 by omega)
    exact ⟨(x % ((len : Int) + 1)).toNat, by omega, by rw [Int.tmod_eq_emod_of_nonneg hx.1]; omega⟩
  obtain ⟨v, hv, ev⟩ : ∃ v : Nat, v ≤ len ∧ y.tmod ((len : Int) + 1) = (v : Int) := by
    have h1 := Int.emod_nonneg y (show (len : Int) + 1 ≠ 0 by omega)
    have h2 := Int.emod_lt_of_pos y (show 0 < (len : Int) + 1 by omega)
    exact ⟨(y % ((len : Int) + 1)).toNat, by omega, by rw [Int.tmod_eq_emod_of_nonneg hy.1]; omega⟩
  obtain ⟨c, hc, ec⟩ : ∃ c : Nat, v + c ≤ len ∧ min z ((len : Int) - (v : Int)) = (c : Int) := ⟨(min z ((len : Int) - (v : Int))).toNat, by omega, by omega⟩
  have hl1 : ((len : Int) + 1 == 0) = false := by rw [beq_eq_false_iff_ne]; omega
  go_enter Try.func6, Try.ntmps6
  go_wp2_with fail
  refine (begun13_true _).mono ?_
  rintro e w1 ⟨rfl, hb1⟩
  go_wp2_with fail
  refine (po_new hb1 20 20 rfl).mono ?_
  rintro e w2 ⟨q, rfl, h2⟩
  clear hb1
  go_wp2_with fail
  refine (po_map h2 1 ⟨by decide, by decide⟩ rfl len hl (by omega) (by omega)).mono ?_
  rintro e w3 ⟨rfl, h3⟩
  clear h2
  go_wp2_with fail
  refine (po_map h3 2 ⟨by decide, by decide⟩ (setI_other _ _ (by decide)) len hl (by omega) (by omega)).mono ?_
  rintro e w4 ⟨rfl, h4⟩
  clear h3
  have hT1 : setI (setI (fun _ => none : Txt) 1 (some (len, fun _ => (0 : Int)))) 2 (some (len, fun _ => (0 : Int))) 1 = some (len, fun _ => 0) := (setI_other _ _ (by decide)).trans (setI_same _ _ _)
  have hfin : ∀ k, k ≤ len → ∀ j, j < len → fW (fun _ => (0 : Int)) 0 xs len j = xs.getD j 0 ∧ fW (fW (fun _ => (0 : Int)) k (xs.drop k) (len - k)) 0 (xs.take k) k j = xs.getD j 0 := fun k hk j hj => by
    unfold fW
    refine ⟨by rw [if_pos (by omega)]; rfl, ?_⟩
    by_cases hjk : j < k
    · rw [if_pos (by omega)]
      simp [List.getD, hjk]
    · rw [if_neg (by omega), if_pos (by omega)]
      simp [List.getD, show k + (j - k) = j by omega]
  have hT2 : setI (setI (setI (fun _ => none : Txt) 1 (some (len, fun _ => (0 : Int)))) 2 (some (len, fun _ => (0 : Int)))) 1 (some (len, fW (fun _ => 0) 0 xs len)) 2 = some (len, fun _ => 0) := (setI_other _ _ (by decide)).trans (setI_same _ _ _)
  go_upto_region 9 with fail
  go_cut [11, 12, 13] from 51 to 64 (fun s11 s12 s13 wc => s11 = .int .i64 0 ∧ s12 = .int .i64 0 ∧ s13 = .int .i64 0 ∧ ∃ (fr : Nat) (T3 : Txt) (f1 f2 : Nat → Int), Po W wc q 20 2 fr T3 ∧ T3 1 = some (len, f1) ∧ T3 2 = some (len, f2) ∧ Hid (∀ j, j < len → f1 j = xs.getD j 0 ∧ f2 j = xs.getD j 0))
  case first =>
    by_cases hck : cap = k
    · obtain rfl : len = k := by omega
      obtain rfl : len = cap := by omega
      have hd2 : ∀ x, some (⟨bb, bo, none⟩ : Addr) = some x → 0 < 0 → x.block < W.heap.size := fun x hx _ => hd x hx (Nat.lt_succ_self 0)
      refine wp_region_noPanic ?_
      refine wp_region_held_drew (S := fun _ => True) (by kernel_rfl) trivial fun hS => ?_
      refine take_to (i := 0) (v := ?_) 51 rfl rfl (by kernel_rfl) (by kernel_rfl) (by kernel_rfl) (fun _ _ _ h => h) (Or.inl ⟨by rfl, ?_⟩) hS ?_
      rotate_left
      · intro W hW
        go_simp
        try with_reducible rfl
      simp only [List.setIfInBounds_toArray, List.set_cons_zero, List.set_cons_succ]
      refine take_to (i := 1) (v := ?_) 52 rfl rfl (by kernel_rfl) (by kernel_rfl) (by kernel_rfl) (fun _ _ _ h => h) (Or.inl ⟨by rfl, ?_⟩) hS ?_
      rotate_left
      · intro W hW
        go_simp
        try with_reducible rfl
      simp only [List.setIfInBounds_toArray, List.set_cons_zero, List.set_cons_succ]
      refine take_to (i := 3) (v := ?_) 54 rfl rfl (by kernel_rfl) (by kernel_rfl) (by kernel_rfl) (fun _ _ _ h => h) (Or.inl ⟨by rfl, ?_⟩) hS ?_
      rotate_left
      · intro W hW
        go_simp
        try with_reducible rfl
      simp only [List.setIfInBounds_toArray, List.set_cons_zero, List.set_cons_succ]
      refine take_to (i := 4) (v := ?_) 55 rfl rfl (by kernel_rfl) (by kernel_rfl) (by kernel_rfl) (fun _ _ _ h => h) (Or.inl ⟨by rfl, ?_⟩) hS ?_
      rotate_left
      · intro W hW
        go_simp
        try with_reducible rfl
      simp only [List.setIfInBounds_toArray, List.set_cons_zero, List.set_cons_succ]
      refine take_to (i := 5) (v := ?_) 56 rfl rfl (by kernel_rfl) (by kernel_rfl) (by kernel_rfl) (fun _ _ _ h => h) (Or.inl ⟨by rfl, ?_⟩) hS ?_
      rotate_left
      · intro W hW
        go_simp
        try with_reducible rfl
      simp only [List.setIfInBounds_toArray, List.set_cons_zero, List.set_cons_succ]
      refine take_to (i := 6) (v := ?_) 57 rfl rfl (by kernel_rfl) (by kernel_rfl) (by kernel_rfl) (fun _ _ _ h => h) (Or.inl ⟨by rfl, ?_⟩) hS ?_
      rotate_left
      · intro W hW
        go_simp
        try with_reducible rfl
      simp only [List.setIfInBounds_toArray, List.set_cons_zero, List.set_cons_succ]
      refine take_to (i := 7) (v := ?_) 58 rfl rfl (by kernel_rfl) (by kernel_rfl) (by kernel_rfl) (fun _ _ _ h => h) (Or.inl ⟨by rfl, ?_⟩) hS ?_
      rotate_left
      · intro W hW
        go_simp
        try with_reducible rfl
      simp only [List.setIfInBounds_toArray, List.set_cons_zero, List.set_cons_succ]
      refine take_to (i := 9) (v := ?_) 60 rfl rfl (by kernel_rfl) (by kernel_rfl) (by kernel_rfl) (fun _ _ _ h => h) (Or.inl ⟨by rfl, ?_⟩) hS ?_
      rotate_left
      · intro W hW
        go_simp
        try with_reducible rfl
      simp only [List.setIfInBounds_toArray, List.set_cons_zero, List.set_cons_succ]
      refine take_to (i := 10) (v := ?_) 61 rfl rfl (by kernel_rfl) (by kernel_rfl) (by kernel_rfl) (fun _ _ _ h => h) (Or.inl ⟨by rfl, ?_⟩) hS ?_
      rotate_left
      · intro W hW
        go_simp
        try with_reducible rfl
      simp only [List.setIfInBounds_toArray, List.set_cons_zero, List.set_cons_succ]
      refine take_to (i := 11) (v := ?_) 62 rfl rfl (by kernel_rfl) (by kernel_rfl) (by kernel_rfl) (fun _ _ _ h => h) (Or.inl ⟨by rfl, ?_⟩) hS ?_
      rotate_left
      · intro W hW
        go_simp
        try with_reducible rfl
      simp only [List.setIfInBounds_toArray, List.set_cons_zero, List.set_cons_succ]
      refine take_to (i := 12) (v := ?_) 63 rfl rfl (by kernel_rfl) (by kernel_rfl) (by kernel_rfl) (fun _ _ _ h => h) (Or.inl ⟨by rfl, ?_⟩) hS ?_
      rotate_left
      · intro W hW
        go_simp
        try with_reducible rfl
      simp only [List.setIfInBounds_toArray, List.set_cons_zero, List.set_cons_succ]
      refine wpAnyH_ready (rs := [2]) (by kernel_rfl) (by simp) ?_
      refine AllReadyH.cons rfl (fun K hK => ?_) AllReadyH.nil
      go_simp
      refine (po_write (h4.on (ext_drew _)) 1 ⟨by decide, by decide⟩ len _ hT1 (some ⟨bb, bo, none⟩) len len xs (hr.below (h4.on (ext_drew _)).below) hd 0 (by omega)).mono ?_
      rintro e w5 ⟨rfl, h5⟩
      refine hK.out _ _ trivial fun hS => ?_
      clear hK K
      refine wpAnyH_ready (rs := [8]) (by kernel_rfl) (by simp) ?_
      refine AllReadyH.cons rfl (fun K hK => ?_) AllReadyH.nil
      go_simp
      have HRow : Hid (Row _ _ _ _ _) := hr.below h5.below
      refine (po_write h5 2 ⟨by decide, by decide⟩ len _ hT2 (some ⟨bb, bo, none⟩) 0 0 (xs.drop len) (HRow.out.done _ _ (by omega)) hd2 len (by omega)).mono ?_
      rintro e w6 ⟨rfl, h6⟩
      refine hK.out _ _ trivial fun hS => ?_
      clear hK K
      refine wpAnyH_ready (rs := [13]) (by kernel_rfl) (by simp) ?_
      refine AllReadyH.cons rfl (fun K hK => ?_) AllReadyH.nil
      go_simp
      refine (po_write h6 2 ⟨by decide, by decide⟩ len _ (setI_same _ _ _) (some ⟨bb, bo, none⟩) len len (xs.take len) ((hr.below h6.below).pre len (by omega)) hd 0 (by omega)).mono ?_
      rintro e w7 ⟨rfl, h7⟩
      refine hK.out _ _ trivial fun hS => ?_
      clear hK K
      refine take_to (i := 14) (v := ?_) 11 rfl rfl (by kernel_rfl) (by kernel_rfl) (by kernel_rfl) (fun _ _ _ h => h) (Or.inl ⟨by rfl, ?_⟩) hS ?_
      rotate_left
      · intro W hW
        go_simp
        try with_reducible rfl
      simp only [List.setIfInBounds_toArray, List.set_cons_zero, List.set_cons_succ]
      refine take_to (i := 15) (v := ?_) 12 rfl rfl (by kernel_rfl) (by kernel_rfl) (by kernel_rfl) (fun _ _ _ h => h) (Or.inl ⟨by rfl, ?_⟩) hS ?_
      rotate_left
      · intro W hW
        go_simp
        try with_reducible rfl
      simp only [List.setIfInBounds_toArray, List.set_cons_zero, List.set_cons_succ]
      refine take_to (i := 16) (v := ?_) 13 rfl rfl (by kernel_rfl) (by kernel_rfl) (by kernel_rfl) (fun _ _ _ h => h) (Or.inl ⟨by rfl, ?_⟩) hS ?_
      rotate_left
      · intro W hW
        go_simp
        try with_reducible rfl
      simp only [List.setIfInBounds_toArray, List.set_cons_zero, List.set_cons_succ]
      refine wpAnyH_done (by kernel_rfl) ?_ _
      refine NoPanic.normal ?_
      go_wp2_with fail
      go_meet
      case rel => exact ⟨rfl, rfl, rfl, _, _, _, _, h7, (setI_other _ _ (by decide)).trans ((setI_other _ _ (by decide)).trans (setI_same _ _ _)), setI_same _ _ _, by have := hfin len (Nat.le_refl _); rw [Nat.sub_self] at this; exact this⟩
    · have hd2 : ∀ x, some (⟨bb, bo + k, none⟩ : Addr) = some x → 0 < len - k → x.block < W.heap.size := fun x hx _ => by obtain rfl := Option.some.inj hx; exact hbl
      have hkc : k ≤ cap := by omega
      refine wp_region_noPanic ?_
      refine wp_region_held_drew (S := fun _ => True) (by kernel_rfl) trivial fun hS => ?_
      refine take_to (i := 0) (v := ?_) 51 rfl rfl (by kernel_rfl) (by kernel_rfl) (by kernel_rfl) (fun _ _ _ h => h) (Or.inl ⟨by rfl, ?_⟩) hS ?_
      rotate_left
      · intro W hW
        go_simp
        try with_reducible rfl
      simp only [List.setIfInBounds_toArray, List.set_cons_zero, List.set_cons_succ]
      refine take_to (i := 1) (v := ?_) 52 rfl rfl (by kernel_rfl) (by kernel_rfl) (by kernel_rfl) (fun _ _ _ h => h) (Or.inl ⟨by rfl, ?_⟩) hS ?_
      rotate_left
      · intro W hW
        go_simp
        try with_reducible rfl
      simp only [List.setIfInBounds_toArray, List.set_cons_zero, List.set_cons_succ]
      refine take_to (i := 3) (v := ?_) 54 rfl rfl (by kernel_rfl) (by kernel_rfl) (by kernel_rfl) (fun _ _ _ h => h) (Or.inl ⟨by rfl, ?_⟩) hS ?_
      rotate_left
      · intro W hW
        go_simp
        try with_reducible rfl
      simp only [List.setIfInBounds_toArray, List.set_cons_zero, List.set_cons_succ]
      refine take_to (i := 4) (v := ?_) 55 rfl rfl (by kernel_rfl) (by kernel_rfl) (by kernel_rfl) (fun _ _ _ h => h) (Or.inl ⟨by rfl, ?_⟩) hS ?_
      rotate_left
      · intro W hW
        go_simp
        try with_reducible rfl
      simp only [List.setIfInBounds_toArray, List.set_cons_zero, List.set_cons_succ]
      refine take_to (i := 5) (v := ?_) 56 rfl rfl (by kernel_rfl) (by kernel_rfl) (by kernel_rfl) (fun _ _ _ h => h) (Or.inl ⟨by rfl, ?_⟩) hS ?_
      rotate_left
      · intro W hW
        go_simp
        try with_reducible rfl
      simp only [List.setIfInBounds_toArray, List.set_cons_zero, List.set_cons_succ]
      refine take_to (i := 6) (v := ?_) 57 rfl rfl (by kernel_rfl) (by kernel_rfl) (by kernel_rfl) (fun _ _ _ h => h) (Or.inl ⟨by rfl, ?_⟩) hS ?_
      rotate_left
      · intro W hW
        go_simp
        try with_reducible rfl
      simp only [List.setIfInBounds_toArray, List.set_cons_zero, List.set_cons_succ]
      refine take_to (i := 7) (v := ?_) 58 rfl rfl (by kernel_rfl) (by kernel_rfl) (by kernel_rfl) (fun _ _ _ h => h) (Or.inl ⟨by rfl, ?_⟩) hS ?_
      rotate_left
      · intro W hW
        go_simp
        try with_reducible rfl
      simp only [List.setIfInBounds_toArray, List.set_cons_zero, List.set_cons_succ]
      refine take_to (i := 9) (v := ?_) 60 rfl rfl (by kernel_rfl) (by kernel_rfl) (by kernel_rfl) (fun _ _ _ h => h) (Or.inl ⟨by rfl, ?_⟩) hS ?_
      rotate_left
      · intro W hW
        go_simp
        try with_reducible rfl
      simp only [List.setIfInBounds_toArray, List.set_cons_zero, List.set_cons_succ]
      refine take_to (i := 10) (v := ?_) 61 rfl rfl (by kernel_rfl) (by kernel_rfl) (by kernel_rfl) (fun _ _ _ h => h) (Or.inl ⟨by rfl, ?_⟩) hS ?_
      rotate_left
      · intro W hW
        go_simp
        try with_reducible rfl
      simp only [List.setIfInBounds_toArray, List.set_cons_zero, List.set_cons_succ]
      refine take_to (i := 11) (v := ?_) 62 rfl rfl (by kernel_rfl) (by kernel_rfl) (by kernel_rfl) (fun _ _ _ h => h) (Or.inl ⟨by rfl, ?_⟩) hS ?_
      rotate_left
      · intro W hW
        go_simp
        try with_reducible rfl
      simp only [List.setIfInBounds_toArray, List.set_cons_zero, List.set_cons_succ]
      refine take_to (i := 12) (v := ?_) 63 rfl rfl (by kernel_rfl) (by kernel_rfl) (by kernel_rfl) (fun _ _ _ h => h) (Or.inl ⟨by rfl, ?_⟩) hS ?_
      rotate_left
      · intro W hW
        go_simp
        try with_reducible rfl
      simp only [List.setIfInBounds_toArray, List.set_cons_zero, List.set_cons_succ]
      refine wpAnyH_ready (rs := [2]) (by kernel_rfl) (by simp) ?_
      refine AllReadyH.cons rfl (fun K hK => ?_) AllReadyH.nil
      go_simp
      refine (po_write (h4.on (ext_drew _)) 1 ⟨by decide, by decide⟩ len _ hT1 (some ⟨bb, bo, none⟩) len cap xs (hr.below (h4.on (ext_drew _)).below) hd 0 (by omega)).mono ?_
      rintro e w5 ⟨rfl, h5⟩
      refine hK.out _ _ trivial fun hS => ?_
      clear hK K
      refine wpAnyH_ready (rs := [8]) (by kernel_rfl) (by simp) ?_
      refine AllReadyH.cons rfl (fun K hK => ?_) AllReadyH.nil
      go_simp
      have HRow : Hid (Row _ _ _ _ _) := hr.below h5.below
      refine (po_write h5 2 ⟨by decide, by decide⟩ len _ hT2 (some ⟨bb, bo + k, none⟩) (len - k) (cap - k) (xs.drop k) (HRow.out.rest k hk) hd2 k (by omega)).mono ?_
      rintro e w6 ⟨rfl, h6⟩
      refine hK.out _ _ trivial fun hS => ?_
      clear hK K
      refine wpAnyH_ready (rs := [13]) (by kernel_rfl) (by simp) ?_
      refine AllReadyH.cons rfl (fun K hK => ?_) AllReadyH.nil
      go_simp
      refine (po_write h6 2 ⟨by decide, by decide⟩ len _ (setI_same _ _ _) (some ⟨bb, bo, none⟩) k cap (xs.take k) ((hr.below h6.below).pre k (by omega)) hd 0 (by omega)).mono ?_
      rintro e w7 ⟨rfl, h7⟩
      refine hK.out _ _ trivial fun hS => ?_
      clear hK K
      refine take_to (i := 14) (v := ?_) 11 rfl rfl (by kernel_rfl) (by kernel_rfl) (by kernel_rfl) (fun _ _ _ h => h) (Or.inl ⟨by rfl, ?_⟩) hS ?_
      rotate_left
      · intro W hW
        go_simp
        try with_reducible rfl
      simp only [List.setIfInBounds_toArray, List.set_cons_zero, List.set_cons_succ]
      refine take_to (i := 15) (v := ?_) 12 rfl rfl (by kernel_rfl) (by kernel_rfl) (by kernel_rfl) (fun _ _ _ h => h) (Or.inl ⟨by rfl, ?_⟩) hS ?_
      rotate_left
      · intro W hW
        go_simp
        try with_reducible rfl
      simp only [List.setIfInBounds_toArray, List.set_cons_zero, List.set_cons_succ]
      refine take_to (i := 16) (v := ?_) 13 rfl rfl (by kernel_rfl) (by kernel_rfl) (by kernel_rfl) (fun _ _ _ h => h) (Or.inl ⟨by rfl, ?_⟩) hS ?_
      rotate_left
      · intro W hW
        go_simp
        try with_reducible rfl
      simp only [List.setIfInBounds_toArray, List.set_cons_zero, List.set_cons_succ]
      refine wpAnyH_done (by kernel_rfl) ?_ _
      refine NoPanic.normal ?_
      go_wp2_with fail
      go_meet
      case rel => exact ⟨rfl, rfl, rfl, _, _, _, _, h7, (setI_other _ _ (by decide)).trans ((setI_other _ _ (by decide)).trans (setI_same _ _ _)), setI_same _ _ _, hfin k hk⟩
  case rest =>
    obtain ⟨rfl, rfl, rfl, fr, T3, f1, f2, ⟨S, h5, hb5, hSW⟩, hT1, hT2, hf⟩ := hcut
    have hSl := h5.lt
    obtain ⟨L, hL⟩ : ∃ L, L = (xs.drop v).take c := ⟨_, rfl⟩
    have hLl : L.length = c := by rw [hL]; simp [hxl.out]; omega
    have hLj : ∀ j, j < c → f1 (v + j) = L.getD j 0 ∧ f2 (v + j) = L.getD j 0 := fun j hj => by
      obtain ⟨g1, g2⟩ := hf.out (v + j) (by omega)
      rw [g1, g2, hL]
      simp [List.getD, hj]
    have hl1 := list_of (fun j => f1 (v + j)) L c hLl (fun j hj => (hLj j hj).1)
    have hl2 := list_of (fun j => f2 (v + j)) L c hLl (fun j hj => (hLj j hj).2)
    clear h4 hfin
    go_wp2_with fail
    refine (spc_read h5 1 ⟨by decide, by decide⟩ len f1 hT1 v c hc).mono ?_
    rintro e w6 ⟨r1, rfl, hrow1, hr1, hb6⟩
    have h6 := h5.below hb6
    have hq1 := row_of_bytes hrow1 (by omega) (fun j hj => (h5.byt hT1).2 _ (by omega))
    rw [hl1] at hq1
    go_wp2_with fail
    refine (spc_read h6 2 ⟨by decide, by decide⟩ len f2 hT2 v c hc).mono ?_
    rintro e w7 ⟨r2, rfl, hrow2, hr2, hb7⟩
    have h7 := h6.below hb7
    have hq2 := row_of_bytes hrow2 (by omega) (fun j hj => (h5.byt hT2).2 _ (by omega))
    rw [hl2] at hq2
    have hq1 := hq1.below hb7
    have hb67 := ext_trans hb6 hb7
    go_wp2_with fail
    refine (spc_read_range h7 1 ⟨by decide, by decide⟩ len f1 hT1 v ((len : Int) - (v : Int) + 1) (by omega) (by omega)).mono ?_
    rintro e w8 ⟨rfl, hb8'⟩
    have h8 := h7.below hb8'
    have hq1 := hq1.below hb8'
    have hq2 := hq2.below hb8'
    have hb8 : Below W.heap.size W w8 := hb5.trans ((ext_trans hb67 hb8').mono hb5.size)
    have hr2 := Nat.le_trans hb6.size hr2
    obtain ⟨u, hu⟩ : ∃ u, u = v + c := ⟨_, rfl⟩
    have hu2 : (v : Int) + (c : Int) = (u : Int) := by omega
    have hu3 : u - v = c := by omega
    have hu4 : v ≤ u := by omega
    have hu5 : u ≤ cap := by omega
    have hwu : IntKind.i64.wrap (u : Int) = (u : Int) := by rw [IntKind.wrap_i64]; omega
    clear hu h5 h6 h7 hb6 hb7 hb67 hb8' hb5 hLj hl1 hl2 hrow1 hrow2
    have hrr := hr.below hb8
    go_upto_region 15 with fail
    by_cases hcv : cap = v
    · obtain rfl : v = len := by omega
      obtain rfl : v = cap := by omega
      have hq0 : Row w8 (some ⟨bb, bo, none⟩) c 0 L := by
        have hc0 : c = 0 := by omega
        subst hc0
        rw [List.eq_nil_of_length_eq_zero hLl]
        exact Row.none_of _ _ _ (by omega)
      have hBel : Hid (∀ W', Below w8.heap.size w8 W' → (Row W' (some ⟨bb, bo, none⟩) c 0 L ∧ Row W' (some ⟨r1, 0, none⟩) c c L ∧ Row W' (some ⟨r2, 0, none⟩) c c L)) := fun W' hb => ⟨hq0.below hb, hq1.below hb, hq2.below hb⟩
      have hn0 : ∀ x, some (⟨bb, bo, none⟩ : Addr) = some x → 0 < c → ¬ S x.block := fun x hx _ hc => by
        rw [← Option.some.inj hx] at hc
        exact absurd (show W.heap.size ≤ bb from hSW _ hc) (by omega)
      have hn1 : ∀ x, some (⟨r1, 0, none⟩ : Addr) = some x → 0 < c → ¬ S x.block := fun x hx _ hc => by
        rw [← Option.some.inj hx] at hc
        exact absurd (show r1 < _ from hSl _ hc) (by omega)
      have hn2 : ∀ x, some (⟨r2, 0, none⟩ : Addr) = some x → 0 < c → ¬ S x.block := fun x hx _ hc => by
        rw [← Option.some.inj hx] at hc
        exact absurd (show r2 < _ from hSl _ hc) (by omega)
      refine wp_region_noPanic ?_
      refine wp_region_held_drew (S := fun W => Row W (some ⟨bb, bo, none⟩) c 0 L ∧ Row W (some ⟨r1, 0, none⟩) c c L ∧ Row W (some ⟨r2, 0, none⟩) c c L) (by kernel_rfl) (hBel.out _ (ext_drew w8)) fun hS => ?_
      refine take_to (i := 0) (v := ?_) 103 rfl rfl (by kernel_rfl) (by kernel_rfl) (by kernel_rfl) (fun _ _ _ h => h) (Or.inl ⟨by rfl, ?_⟩) hS ?_
      rotate_left
      · intro W hW
        have s1 := strB.out W _ _ _ _ hW.1; have s2 := strB.out W _ _ _ _ hW.2.1; have s3 := strB.out W _ _ _ _ hW.2.2
        go_simp
        try with_reducible rfl
      simp only [List.setIfInBounds_toArray, List.set_cons_zero, List.set_cons_succ]
      refine take_to (i := 1) (v := ?_) 104 rfl rfl (by kernel_rfl) (by kernel_rfl) (by kernel_rfl) (fun _ _ _ h => h) (Or.inl ⟨by rfl, ?_⟩) hS ?_
      rotate_left
      · intro W hW
        have s1 := strB.out W _ _ _ _ hW.1; have s2 := strB.out W _ _ _ _ hW.2.1; have s3 := strB.out W _ _ _ _ hW.2.2
        go_simp
        try with_reducible rfl
      simp only [List.setIfInBounds_toArray, List.set_cons_zero, List.set_cons_succ]
      refine take_to (i := 2) (v := ?_) 105 rfl rfl (by kernel_rfl) (by kernel_rfl) (by kernel_rfl) (fun _ _ _ h => h) (Or.inl ⟨by rfl, ?_⟩) hS ?_
      rotate_left
      · intro W hW
        have s1 := strB.out W _ _ _ _ hW.1; have s2 := strB.out W _ _ _ _ hW.2.1; have s3 := strB.out W _ _ _ _ hW.2.2
        go_simp
        try with_reducible rfl
      simp only [List.setIfInBounds_toArray, List.set_cons_zero, List.set_cons_succ]
      refine take_to (i := 3) (v := ?_) 106 rfl rfl (by kernel_rfl) (by kernel_rfl) (by kernel_rfl) (fun _ _ _ h => h) (Or.inl ⟨by rfl, ?_⟩) hS ?_
      rotate_left
      · intro W hW
        have s1 := strB.out W _ _ _ _ hW.1; have s2 := strB.out W _ _ _ _ hW.2.1; have s3 := strB.out W _ _ _ _ hW.2.2
        go_simp
        try with_reducible rfl
      simp only [List.setIfInBounds_toArray, List.set_cons_zero, List.set_cons_succ]
      refine take_to (i := 4) (v := ?_) 107 rfl rfl (by kernel_rfl) (by kernel_rfl) (by kernel_rfl) (fun _ _ _ h => h) (Or.inl ⟨by rfl, ?_⟩) hS ?_
      rotate_left
      · intro W hW
        have s1 := strB.out W _ _ _ _ hW.1; have s2 := strB.out W _ _ _ _ hW.2.1; have s3 := strB.out W _ _ _ _ hW.2.2
        go_simp
        try with_reducible rfl
      simp only [List.setIfInBounds_toArray, List.set_cons_zero, List.set_cons_succ]
      refine take_to (i := 5) (v := ?_) 108 rfl rfl (by kernel_rfl) (by kernel_rfl) (by kernel_rfl) (fun _ _ _ h => h) (Or.inl ⟨by rfl, ?_⟩) hS ?_
      rotate_left
      · intro W hW
        have s1 := strB.out W _ _ _ _ hW.1; have s2 := strB.out W _ _ _ _ hW.2.1; have s3 := strB.out W _ _ _ _ hW.2.2
        go_simp
        try with_reducible rfl
      simp only [List.setIfInBounds_toArray, List.set_cons_zero, List.set_cons_succ]
      refine take_to (i := 6) (v := ?_) 109 rfl rfl (by kernel_rfl) (by kernel_rfl) (by kernel_rfl) (fun _ _ _ h => h) (Or.inl ⟨by rfl, ?_⟩) hS ?_
      rotate_left
      · intro W hW
        have s1 := strB.out W _ _ _ _ hW.1; have s2 := strB.out W _ _ _ _ hW.2.1; have s3 := strB.out W _ _ _ _ hW.2.2
        go_simp
        try with_reducible rfl
      simp only [List.setIfInBounds_toArray, List.set_cons_zero, List.set_cons_succ]
      refine take_to (i := 7) (v := ?_) 110 rfl rfl (by kernel_rfl) (by kernel_rfl) (by kernel_rfl) (fun _ _ _ h => h) (Or.inl ⟨by rfl, ?_⟩) hS ?_
      rotate_left
      · intro W hW
        have s1 := strB.out W _ _ _ _ hW.1; have s2 := strB.out W _ _ _ _ hW.2.1; have s3 := strB.out W _ _ _ _ hW.2.2
        go_simp
        try with_reducible rfl
      simp only [List.setIfInBounds_toArray, List.set_cons_zero, List.set_cons_succ]
      refine take_to (i := 8) (v := ?_) 111 rfl rfl (by kernel_rfl) (by kernel_rfl) (by kernel_rfl) (fun _ _ _ h => h) (Or.inl ⟨by rfl, ?_⟩) hS ?_
      rotate_left
      · intro W hW
        have s1 := strB.out W _ _ _ _ hW.1; have s2 := strB.out W _ _ _ _ hW.2.1; have s3 := strB.out W _ _ _ _ hW.2.2
        go_simp
        try with_reducible rfl
      simp only [List.setIfInBounds_toArray, List.set_cons_zero, List.set_cons_succ]
      refine take_to (i := 9) (v := ?_) 112 rfl rfl (by kernel_rfl) (by kernel_rfl) (by kernel_rfl) (fun _ _ _ h => h) (Or.inl ⟨by rfl, ?_⟩) hS ?_
      rotate_left
      · intro W hW
        have s1 := strB.out W _ _ _ _ hW.1; have s2 := strB.out W _ _ _ _ hW.2.1; have s3 := strB.out W _ _ _ _ hW.2.2
        go_simp
        try with_reducible rfl
      simp only [List.setIfInBounds_toArray, List.set_cons_zero, List.set_cons_succ]
      refine take_to (i := 10) (v := ?_) 113 rfl rfl (by kernel_rfl) (by kernel_rfl) (by kernel_rfl) (fun _ _ _ h => h) (Or.inl ⟨by rfl, ?_⟩) hS ?_
      rotate_left
      · intro W hW
        have s1 := strB.out W _ _ _ _ hW.1; have s2 := strB.out W _ _ _ _ hW.2.1; have s3 := strB.out W _ _ _ _ hW.2.2
        go_simp
        try with_reducible rfl
      simp only [List.setIfInBounds_toArray, List.set_cons_zero, List.set_cons_succ]
      refine take_to (i := 11) (v := ?_) 114 rfl rfl (by kernel_rfl) (by kernel_rfl) (by kernel_rfl) (fun _ _ _ h => h) (Or.inl ⟨by rfl, ?_⟩) hS ?_
      rotate_left
      · intro W hW
        have s1 := strB.out W _ _ _ _ hW.1; have s2 := strB.out W _ _ _ _ hW.2.1; have s3 := strB.out W _ _ _ _ hW.2.2
        go_simp
        try with_reducible rfl
      simp only [List.setIfInBounds_toArray, List.set_cons_zero, List.set_cons_succ]
      refine take_to (i := 12) (v := ?_) 115 rfl rfl (by kernel_rfl) (by kernel_rfl) (by kernel_rfl) (fun _ _ _ h => h) (Or.inl ⟨by rfl, ?_⟩) hS ?_
      rotate_left
      · intro W hW
        have s1 := strB.out W _ _ _ _ hW.1; have s2 := strB.out W _ _ _ _ hW.2.1; have s3 := strB.out W _ _ _ _ hW.2.2
        go_simp
        try with_reducible rfl
      simp only [List.setIfInBounds_toArray, List.set_cons_zero, List.set_cons_succ]
      refine take_to (i := 13) (v := ?_) 116 rfl rfl (by kernel_rfl) (by kernel_rfl) (by kernel_rfl) (fun _ _ _ h => h) (Or.inl ⟨by rfl, ?_⟩) hS ?_
      rotate_left
      · intro W hW
        have s1 := strB.out W _ _ _ _ hW.1; have s2 := strB.out W _ _ _ _ hW.2.1; have s3 := strB.out W _ _ _ _ hW.2.2
        go_simp
        try with_reducible rfl
      simp only [List.setIfInBounds_toArray, List.set_cons_zero, List.set_cons_succ]
      refine take_to (i := 14) (v := ?_) 117 rfl rfl (by kernel_rfl) (by kernel_rfl) (by kernel_rfl) (fun _ _ _ h => h) (Or.inl ⟨by rfl, ?_⟩) hS ?_
      rotate_left
      · intro W hW
        have s1 := strB.out W _ _ _ _ hW.1; have s2 := strB.out W _ _ _ _ hW.2.1; have s3 := strB.out W _ _ _ _ hW.2.2
        go_simp
        try with_reducible rfl
      simp only [List.setIfInBounds_toArray, List.set_cons_zero, List.set_cons_succ]
      refine take_to (i := 15) (v := ?_) 118 rfl rfl (by kernel_rfl) (by kernel_rfl) (by kernel_rfl) (fun _ _ _ h => h) (Or.inl ⟨by rfl, ?_⟩) hS ?_
      rotate_left
      · intro W hW
        have s1 := strB.out W _ _ _ _ hW.1; have s2 := strB.out W _ _ _ _ hW.2.1; have s3 := strB.out W _ _ _ _ hW.2.2
        go_simp
        try with_reducible rfl
      simp only [List.setIfInBounds_toArray, List.set_cons_zero, List.set_cons_succ]
      refine take_to (i := 16) (v := ?_) 119 rfl rfl (by kernel_rfl) (by kernel_rfl) (by kernel_rfl) (fun _ _ _ h => h) (Or.inl ⟨by rfl, ?_⟩) hS ?_
      rotate_left
      · intro W hW
        have s1 := strB.out W _ _ _ _ hW.1; have s2 := strB.out W _ _ _ _ hW.2.1; have s3 := strB.out W _ _ _ _ hW.2.2
        go_simp
        try with_reducible rfl
      simp only [List.setIfInBounds_toArray, List.set_cons_zero, List.set_cons_succ]
      refine take_to (i := 17) (v := ?_) 120 rfl rfl (by kernel_rfl) (by kernel_rfl) (by kernel_rfl) (fun _ _ _ h => h) (Or.inl ⟨by rfl, ?_⟩) hS ?_
      rotate_left
      · intro W hW
        have s1 := strB.out W _ _ _ _ hW.1; have s2 := strB.out W _ _ _ _ hW.2.1; have s3 := strB.out W _ _ _ _ hW.2.2
        go_simp
        try with_reducible rfl
      simp only [List.setIfInBounds_toArray, List.set_cons_zero, List.set_cons_succ]
      refine take_to (i := 18) (v := ?_) 121 rfl rfl (by kernel_rfl) (by kernel_rfl) (by kernel_rfl) (fun _ _ _ h => h) (Or.inl ⟨by rfl, ?_⟩) hS ?_
      rotate_left
      · intro W hW
        have s1 := strB.out W _ _ _ _ hW.1; have s2 := strB.out W _ _ _ _ hW.2.1; have s3 := strB.out W _ _ _ _ hW.2.2
        go_simp
        try with_reducible rfl
      simp only [List.setIfInBounds_toArray, List.set_cons_zero, List.set_cons_succ]
      refine take_to (i := 19) (v := ?_) 122 rfl rfl (by kernel_rfl) (by kernel_rfl) (by kernel_rfl) (fun _ _ _ h => h) (Or.inl ⟨by rfl, ?_⟩) hS ?_
      rotate_left
      · intro W hW
        have s1 := strB.out W _ _ _ _ hW.1; have s2 := strB.out W _ _ _ _ hW.2.1; have s3 := strB.out W _ _ _ _ hW.2.2
        go_simp
        try with_reducible rfl
      simp only [List.setIfInBounds_toArray, List.set_cons_zero, List.set_cons_succ]
      refine take_to (i := 20) (v := ?_) 123 rfl rfl (by kernel_rfl) (by kernel_rfl) (by kernel_rfl) (fun _ _ _ h => h) (Or.inl ⟨by rfl, ?_⟩) hS ?_
      rotate_left
      · intro W hW
        have s1 := strB.out W _ _ _ _ hW.1; have s2 := strB.out W _ _ _ _ hW.2.1; have s3 := strB.out W _ _ _ _ hW.2.2
        go_simp
        try with_reducible rfl
      simp only [List.setIfInBounds_toArray, List.set_cons_zero, List.set_cons_succ]
      refine take_to (i := 21) (v := ?_) 124 rfl rfl (by kernel_rfl) (by kernel_rfl) (by kernel_rfl) (fun _ _ _ h => h) (Or.inl ⟨by rfl, ?_⟩) hS ?_
      rotate_left
      · intro W hW
        have s1 := strB.out W _ _ _ _ hW.1; have s2 := strB.out W _ _ _ _ hW.2.1; have s3 := strB.out W _ _ _ _ hW.2.2
        go_simp
        try with_reducible rfl
      simp only [List.setIfInBounds_toArray, List.set_cons_zero, List.set_cons_succ]
      refine take_to (i := 22) (v := ?_) 125 rfl rfl (by kernel_rfl) (by kernel_rfl) (by kernel_rfl) (fun _ _ _ h => h) (Or.inl ⟨by rfl, ?_⟩) hS ?_
      rotate_left
      · intro W hW
        have s1 := strB.out W _ _ _ _ hW.1; have s2 := strB.out W _ _ _ _ hW.2.1; have s3 := strB.out W _ _ _ _ hW.2.2
        go_simp
        try with_reducible rfl
      simp only [List.setIfInBounds_toArray, List.set_cons_zero, List.set_cons_succ]
      refine take_to (i := 23) (v := ?_) 126 rfl rfl (by kernel_rfl) (by kernel_rfl) (by kernel_rfl) (fun _ _ _ h => h) (Or.inl ⟨by rfl, ?_⟩) hS ?_
      rotate_left
      · intro W hW
        have s1 := strB.out W _ _ _ _ hW.1; have s2 := strB.out W _ _ _ _ hW.2.1; have s3 := strB.out W _ _ _ _ hW.2.2
        go_simp
        try with_reducible rfl
      simp only [List.setIfInBounds_toArray, List.set_cons_zero, List.set_cons_succ]
      refine take_to (i := 24) (v := ?_) 127 rfl rfl (by kernel_rfl) (by kernel_rfl) (by kernel_rfl) (fun _ _ _ h => h) (Or.inl ⟨by rfl, ?_⟩) hS ?_
      rotate_left
      · intro W hW
        have s1 := strB.out W _ _ _ _ hW.1; have s2 := strB.out W _ _ _ _ hW.2.1; have s3 := strB.out W _ _ _ _ hW.2.2
        go_simp
        try with_reducible rfl
      simp only [List.setIfInBounds_toArray, List.set_cons_zero, List.set_cons_succ]
      refine take_to (i := 25) (v := ?_) 128 rfl rfl (by kernel_rfl) (by kernel_rfl) (by kernel_rfl) (fun _ _ _ h => h) (Or.inl ⟨by rfl, ?_⟩) hS ?_
      rotate_left
      · intro W hW
        have s1 := strB.out W _ _ _ _ hW.1; have s2 := strB.out W _ _ _ _ hW.2.1; have s3 := strB.out W _ _ _ _ hW.2.2
        go_simp
        try with_reducible rfl
      simp only [List.setIfInBounds_toArray, List.set_cons_zero, List.set_cons_succ]
      refine take_to (i := 26) (v := ?_) 129 rfl rfl (by kernel_rfl) (by kernel_rfl) (by kernel_rfl) (fun _ _ _ h => h) (Or.inl ⟨by rfl, ?_⟩) hS ?_
      rotate_left
      · intro W hW
        have s1 := strB.out W _ _ _ _ hW.1; have s2 := strB.out W _ _ _ _ hW.2.1; have s3 := strB.out W _ _ _ _ hW.2.2
        go_simp
        try with_reducible rfl
      simp only [List.setIfInBounds_toArray, List.set_cons_zero, List.set_cons_succ]
      refine take_to (i := 27) (v := ?_) 130 rfl rfl (by kernel_rfl) (by kernel_rfl) (by kernel_rfl) (fun _ _ _ h => h) (Or.inl ⟨by rfl, ?_⟩) hS ?_
      rotate_left
      · intro W hW
        have s1 := strB.out W _ _ _ _ hW.1; have s2 := strB.out W _ _ _ _ hW.2.1; have s3 := strB.out W _ _ _ _ hW.2.2
        go_simp
        try with_reducible rfl
      simp only [List.setIfInBounds_toArray, List.set_cons_zero, List.set_cons_succ]
      refine take_to (i := 28) (v := ?_) 131 rfl rfl (by kernel_rfl) (by kernel_rfl) (by kernel_rfl) (fun _ _ _ h => h) (Or.inl ⟨by rfl, ?_⟩) hS ?_
      rotate_left
      · intro W hW
        have s1 := strB.out W _ _ _ _ hW.1; have s2 := strB.out W _ _ _ _ hW.2.1; have s3 := strB.out W _ _ _ _ hW.2.2
        go_simp
        try with_reducible rfl
      simp only [List.setIfInBounds_toArray, List.set_cons_zero, List.set_cons_succ]
      refine take_to (i := 29) (v := ?_) 132 rfl rfl (by kernel_rfl) (by kernel_rfl) (by kernel_rfl) (fun _ _ _ h => h) (Or.inl ⟨by rfl, ?_⟩) hS ?_
      rotate_left
      · intro W hW
        have s1 := strB.out W _ _ _ _ hW.1; have s2 := strB.out W _ _ _ _ hW.2.1; have s3 := strB.out W _ _ _ _ hW.2.2
        go_simp
        try with_reducible rfl
      simp only [List.setIfInBounds_toArray, List.set_cons_zero, List.set_cons_succ]
      refine take_to (i := 30) (v := ?_) 133 rfl rfl (by kernel_rfl) (by kernel_rfl) (by kernel_rfl) (fun _ _ _ h => h) (Or.inl ⟨by rfl, ?_⟩) hS ?_
      rotate_left
      · intro W hW
        have s1 := strB.out W _ _ _ _ hW.1; have s2 := strB.out W _ _ _ _ hW.2.1; have s3 := strB.out W _ _ _ _ hW.2.2
        go_simp
        try with_reducible rfl
      simp only [List.setIfInBounds_toArray, List.set_cons_zero, List.set_cons_succ]
      refine take_to (i := 31) (v := ?_) 134 rfl rfl (by kernel_rfl) (by kernel_rfl) (by kernel_rfl) (fun _ _ _ h => h) (Or.inl ⟨by rfl, ?_⟩) hS ?_
      rotate_left
      · intro W hW
        have s1 := strB.out W _ _ _ _ hW.1; have s2 := strB.out W _ _ _ _ hW.2.1; have s3 := strB.out W _ _ _ _ hW.2.2
        go_simp
        try with_reducible rfl
      simp only [List.setIfInBounds_toArray, List.set_cons_zero, List.set_cons_succ]
      refine take_to (i := 32) (v := ?_) 135 rfl rfl (by kernel_rfl) (by kernel_rfl) (by kernel_rfl) (fun _ _ _ h => h) (Or.inl ⟨by rfl, ?_⟩) hS ?_
      rotate_left
      · intro W hW
        have s1 := strB.out W _ _ _ _ hW.1; have s2 := strB.out W _ _ _ _ hW.2.1; have s3 := strB.out W _ _ _ _ hW.2.2
        go_simp
        try with_reducible rfl
      simp only [List.setIfInBounds_toArray, List.set_cons_zero, List.set_cons_succ]
      refine take_to (i := 33) (v := ?_) 136 rfl rfl (by kernel_rfl) (by kernel_rfl) (by kernel_rfl) (fun _ _ _ h => h) (Or.inl ⟨by rfl, ?_⟩) hS ?_
      rotate_left
      · intro W hW
        have s1 := strB.out W _ _ _ _ hW.1; have s2 := strB.out W _ _ _ _ hW.2.1; have s3 := strB.out W _ _ _ _ hW.2.2
        go_simp
        try with_reducible rfl
      simp only [List.setIfInBounds_toArray, List.set_cons_zero, List.set_cons_succ]
      refine take_to (i := 34) (v := ?_) 137 rfl rfl (by kernel_rfl) (by kernel_rfl) (by kernel_rfl) (fun _ _ _ h => h) (Or.inl ⟨by rfl, ?_⟩) hS ?_
      rotate_left
      · intro W hW
        have s1 := strB.out W _ _ _ _ hW.1; have s2 := strB.out W _ _ _ _ hW.2.1; have s3 := strB.out W _ _ _ _ hW.2.2
        go_simp
        try with_reducible rfl
      simp only [List.setIfInBounds_toArray, List.set_cons_zero, List.set_cons_succ]
      refine take_to (i := 35) (v := ?_) 138 rfl rfl (by kernel_rfl) (by kernel_rfl) (by kernel_rfl) (fun _ _ _ h => h) (Or.inl ⟨by rfl, ?_⟩) hS ?_
      rotate_left
      · intro W hW
        have s1 := strB.out W _ _ _ _ hW.1; have s2 := strB.out W _ _ _ _ hW.2.1; have s3 := strB.out W _ _ _ _ hW.2.2
        go_simp
        try with_reducible rfl
      simp only [List.setIfInBounds_toArray, List.set_cons_zero, List.set_cons_succ]
      refine take_to (i := 36) (v := ?_) 139 rfl rfl (by kernel_rfl) (by kernel_rfl) (by kernel_rfl) (fun _ _ _ h => h) (Or.inl ⟨by rfl, ?_⟩) hS ?_
      rotate_left
      · intro W hW
        have s1 := strB.out W _ _ _ _ hW.1; have s2 := strB.out W _ _ _ _ hW.2.1; have s3 := strB.out W _ _ _ _ hW.2.2
        go_simp
        try with_reducible rfl
      simp only [List.setIfInBounds_toArray, List.set_cons_zero, List.set_cons_succ]
      refine take_to (i := 37) (v := ?_) 140 rfl rfl (by kernel_rfl) (by kernel_rfl) (by kernel_rfl) (fun _ _ _ h => h) (Or.inl ⟨by rfl, ?_⟩) hS ?_
      rotate_left
      · intro W hW
        have s1 := strB.out W _ _ _ _ hW.1; have s2 := strB.out W _ _ _ _ hW.2.1; have s3 := strB.out W _ _ _ _ hW.2.2
        go_simp
        try with_reducible rfl
      simp only [List.setIfInBounds_toArray, List.set_cons_zero, List.set_cons_succ]
      refine take_to (i := 38) (v := ?_) 141 rfl rfl (by kernel_rfl) (by kernel_rfl) (by kernel_rfl) (fun _ _ _ h => h) (Or.inl ⟨by rfl, ?_⟩) hS ?_
      rotate_left
      · intro W hW
        have s1 := strB.out W _ _ _ _ hW.1; have s2 := strB.out W _ _ _ _ hW.2.1; have s3 := strB.out W _ _ _ _ hW.2.2
        go_simp
        try with_reducible rfl
      simp only [List.setIfInBounds_toArray, List.set_cons_zero, List.set_cons_succ]
      refine take_to (i := 39) (v := ?_) 142 rfl rfl (by kernel_rfl) (by kernel_rfl) (by kernel_rfl) (fun _ _ _ h => h) (Or.inl ⟨by rfl, ?_⟩) hS ?_
      rotate_left
      · intro W hW
        have s1 := strB.out W _ _ _ _ hW.1; have s2 := strB.out W _ _ _ _ hW.2.1; have s3 := strB.out W _ _ _ _ hW.2.2
        go_simp
        try with_reducible rfl
      simp only [List.setIfInBounds_toArray, List.set_cons_zero, List.set_cons_succ]
      refine take_to (i := 40) (v := ?_) 143 rfl rfl (by kernel_rfl) (by kernel_rfl) (by kernel_rfl) (fun _ _ _ h => h) (Or.inl ⟨by rfl, ?_⟩) hS ?_
      rotate_left
      · intro W hW
        have s1 := strB.out W _ _ _ _ hW.1; have s2 := strB.out W _ _ _ _ hW.2.1; have s3 := strB.out W _ _ _ _ hW.2.2
        go_simp
        try with_reducible rfl
      simp only [List.setIfInBounds_toArray, List.set_cons_zero, List.set_cons_succ]
      refine take_to (i := 41) (v := ?_) 144 rfl rfl (by kernel_rfl) (by kernel_rfl) (by kernel_rfl) (fun _ _ _ h => h) (Or.inl ⟨by rfl, ?_⟩) hS ?_
      rotate_left
      · intro W hW
        have s1 := strB.out W _ _ _ _ hW.1; have s2 := strB.out W _ _ _ _ hW.2.1; have s3 := strB.out W _ _ _ _ hW.2.2
        go_simp
        try with_reducible rfl
      simp only [List.setIfInBounds_toArray, List.set_cons_zero, List.set_cons_succ]
      refine take_to (i := 42) (v := ?_) 145 rfl rfl (by kernel_rfl) (by kernel_rfl) (by kernel_rfl) (fun _ _ _ h => h) (Or.inl ⟨by rfl, ?_⟩) hS ?_
      rotate_left
      · intro W hW
        have s1 := strB.out W _ _ _ _ hW.1; have s2 := strB.out W _ _ _ _ hW.2.1; have s3 := strB.out W _ _ _ _ hW.2.2
        go_simp
        try with_reducible rfl
      simp only [List.setIfInBounds_toArray, List.set_cons_zero, List.set_cons_succ]
      refine take_to (i := 43) (v := ?_) 146 rfl rfl (by kernel_rfl) (by kernel_rfl) (by kernel_rfl) (fun _ _ _ h => h) (Or.inl ⟨by rfl, ?_⟩) hS ?_
      rotate_left
      · intro W hW
        have s1 := strB.out W _ _ _ _ hW.1; have s2 := strB.out W _ _ _ _ hW.2.1; have s3 := strB.out W _ _ _ _ hW.2.2
        go_simp
        try with_reducible rfl
      simp only [List.setIfInBounds_toArray, List.set_cons_zero, List.set_cons_succ]
      refine take_to (i := 44) (v := ?_) 147 rfl rfl (by kernel_rfl) (by kernel_rfl) (by kernel_rfl) (fun _ _ _ h => h) (Or.inl ⟨by rfl, ?_⟩) hS ?_
      rotate_left
      · intro W hW
        have s1 := strB.out W _ _ _ _ hW.1; have s2 := strB.out W _ _ _ _ hW.2.1; have s3 := strB.out W _ _ _ _ hW.2.2
        go_simp
        try with_reducible rfl
      simp only [List.setIfInBounds_toArray, List.set_cons_zero, List.set_cons_succ]
      refine wpAnyH_ready (rs := [45]) (by kernel_rfl) (by simp) ?_
      refine AllReadyH.cons rfl (fun K hK => ?_) AllReadyH.nil
      go_simp
      have hb9 := (below_alloc w8.drew (.cells #[.int .u8 1] 5))
      have hb9' : Below w8.heap.size w8 (w8.drew.alloc (.cells #[.int .u8 1] 5)) := ⟨hb9.os, hb9.tape, hb9.output, hb9.size, hb9.block⟩
      have hS9 := hBel.out _ hb9'
      refine hK.out _ _ hS9 fun hS => ?_
      clear hK K
      refine wpAnyH_ready (rs := [46]) (by kernel_rfl) (by simp) ?_
      refine AllReadyH.cons rfl (fun K hK => ?_) AllReadyH.nil
      go_simp
      refine (spc_write_range (h8.below hb9') 1 ⟨by decide, by decide⟩ v f1 hT1 v (by omega) _ 1 1 (by omega)).mono ?_
      rintro e w10 ⟨rfl, hb10⟩
      have hb11 := ext_trans hb9' hb10
      refine hK.out _ _ (hBel.out _ hb11) fun hS => ?_
      clear hK K
      refine take_to (i := 47) (v := ?_) 150 rfl rfl (by kernel_rfl) (by kernel_rfl) (by kernel_rfl) (fun _ _ _ h => h) (Or.inl ⟨by rfl, ?_⟩) hS ?_
      rotate_left
      · intro W hW
        have s1 := strB.out W _ _ _ _ hW.1; have s2 := strB.out W _ _ _ _ hW.2.1; have s3 := strB.out W _ _ _ _ hW.2.2
        go_simp
        try with_reducible rfl
      simp only [List.setIfInBounds_toArray, List.set_cons_zero, List.set_cons_succ]
      refine take_to (i := 48) (v := ?_) 151 rfl rfl (by kernel_rfl) (by kernel_rfl) (by kernel_rfl) (fun _ _ _ h => h) (Or.inl ⟨by rfl, ?_⟩) hS ?_
      rotate_left
      · intro W hW
        have s1 := strB.out W _ _ _ _ hW.1; have s2 := strB.out W _ _ _ _ hW.2.1; have s3 := strB.out W _ _ _ _ hW.2.2
        go_simp
        try with_reducible rfl
      simp only [List.setIfInBounds_toArray, List.set_cons_zero, List.set_cons_succ]
      refine take_to (i := 49) (v := ?_) 152 rfl rfl (by kernel_rfl) (by kernel_rfl) (by kernel_rfl) (fun _ _ _ h => h) (Or.inl ⟨by rfl, ?_⟩) hS ?_
      rotate_left
      · intro W hW
        have s1 := strB.out W _ _ _ _ hW.1; have s2 := strB.out W _ _ _ _ hW.2.1; have s3 := strB.out W _ _ _ _ hW.2.2
        go_simp
        try with_reducible rfl
      simp only [List.setIfInBounds_toArray, List.set_cons_zero, List.set_cons_succ]
      refine take_to (i := 50) (v := ?_) 153 rfl rfl (by kernel_rfl) (by kernel_rfl) (by kernel_rfl) (fun _ _ _ h => h) (Or.inl ⟨by rfl, ?_⟩) hS ?_
      rotate_left
      · intro W hW
        have s1 := strB.out W _ _ _ _ hW.1; have s2 := strB.out W _ _ _ _ hW.2.1; have s3 := strB.out W _ _ _ _ hW.2.2
        go_simp
        try with_reducible rfl
      simp only [List.setIfInBounds_toArray, List.set_cons_zero, List.set_cons_succ]
      refine take_to (i := 51) (v := ?_) 154 rfl rfl (by kernel_rfl) (by kernel_rfl) (by kernel_rfl) (fun _ _ _ h => h) (Or.inl ⟨by rfl, ?_⟩) hS ?_
      rotate_left
      · intro W hW
        have s1 := strB.out W _ _ _ _ hW.1; have s2 := strB.out W _ _ _ _ hW.2.1; have s3 := strB.out W _ _ _ _ hW.2.2
        go_simp
        try with_reducible rfl
      simp only [List.setIfInBounds_toArray, List.set_cons_zero, List.set_cons_succ]
      refine take_to (i := 52) (v := ?_) 155 rfl rfl (by kernel_rfl) (by kernel_rfl) (by kernel_rfl) (fun _ _ _ h => h) (Or.inl ⟨by rfl, ?_⟩) hS ?_
      rotate_left
      · intro W hW
        have s1 := strB.out W _ _ _ _ hW.1; have s2 := strB.out W _ _ _ _ hW.2.1; have s3 := strB.out W _ _ _ _ hW.2.2
        go_simp
        try with_reducible rfl
      simp only [List.setIfInBounds_toArray, List.set_cons_zero, List.set_cons_succ]
      refine wpAnyH_ready (rs := [53]) (by kernel_rfl) (by simp) ?_
      refine AllReadyH.cons rfl (fun K hK => ?_) AllReadyH.nil
      go_simp
      refine (write_ok (h8.below hb11) 1 ⟨by decide, by decide⟩ v f1 hT1 none 0 0 [] (Row.nil _) (fun x hx _ => (by cases hx)) v (by omega)).mono ?_
      rintro e w12 ⟨rfl, h12, hc12⟩
      have hfinal := (hb8.trans (hb11.mono hb8.size)).trans (hc12.below hSW (Nat.le_trans hb8.size hb11.size))
      refine hK.out _ _ ⟨hS.1.chg hc12 hn0, hS.2.1.chg hc12 hn1, hS.2.2.chg hc12 hn2⟩ fun hS => ?_
      clear hK K
      refine take_to (i := 54) (v := ?_) 157 rfl rfl (by kernel_rfl) (by kernel_rfl) (by kernel_rfl) (fun _ _ _ h => h) (Or.inl ⟨by rfl, ?_⟩) hS ?_
      rotate_left
      · intro W hW
        have s1 := strB.out W _ _ _ _ hW.1; have s2 := strB.out W _ _ _ _ hW.2.1; have s3 := strB.out W _ _ _ _ hW.2.2
        go_simp
        try with_reducible rfl
      simp only [List.setIfInBounds_toArray, List.set_cons_zero, List.set_cons_succ]
      refine take_to (i := 55) (v := ?_) 158 rfl rfl (by kernel_rfl) (by kernel_rfl) (by kernel_rfl) (fun _ _ _ h => h) (Or.inl ⟨by rfl, ?_⟩) hS ?_
      rotate_left
      · intro W hW
        have s1 := strB.out W _ _ _ _ hW.1; have s2 := strB.out W _ _ _ _ hW.2.1; have s3 := strB.out W _ _ _ _ hW.2.2
        go_simp
        try with_reducible rfl
      simp only [List.setIfInBounds_toArray, List.set_cons_zero, List.set_cons_succ]
      refine take_to (i := 56) (v := ?_) 8 rfl rfl (by kernel_rfl) (by kernel_rfl) (by kernel_rfl) (fun _ _ _ h => h) (Or.inl ⟨by rfl, ?_⟩) hS ?_
      rotate_left
      · intro W hW
        have s1 := strB.out W _ _ _ _ hW.1; have s2 := strB.out W _ _ _ _ hW.2.1; have s3 := strB.out W _ _ _ _ hW.2.2
        go_simp
        try with_reducible rfl
      simp only [List.setIfInBounds_toArray, List.set_cons_zero, List.set_cons_succ]
      refine wpAnyH_done (by kernel_rfl) ?_ _
      refine NoPanic.normal ?_
      go_wp2_with fail
      go_ret
      exact ⟨rfl, hfinal⟩
    · have hq0 := hrr.sub v c (by omega)
      rw [← hL] at hq0
      have hBel : Hid (∀ W', Below w8.heap.size w8 W' → (Row W' (some ⟨bb, bo + v, none⟩) c (cap - v) L ∧ Row W' (some ⟨r1, 0, none⟩) c c L ∧ Row W' (some ⟨r2, 0, none⟩) c c L)) := fun W' hb => ⟨hq0.below hb, hq1.below hb, hq2.below hb⟩
      have hn0 : ∀ x, some (⟨bb, bo + v, none⟩ : Addr) = some x → 0 < c → ¬ S x.block := fun x hx _ hc => by
        rw [← Option.some.inj hx] at hc
        exact absurd (show W.heap.size ≤ bb from hSW _ hc) (by omega)
      have hn1 : ∀ x, some (⟨r1, 0, none⟩ : Addr) = some x → 0 < c → ¬ S x.block := fun x hx _ hc => by
        rw [← Option.some.inj hx] at hc
        exact absurd (show r1 < _ from hSl _ hc) (by omega)
      have hn2 : ∀ x, some (⟨r2, 0, none⟩ : Addr) = some x → 0 < c → ¬ S x.block := fun x hx _ hc => by
        rw [← Option.some.inj hx] at hc
        exact absurd (show r2 < _ from hSl _ hc) (by omega)
      refine wp_region_noPanic ?_
      refine wp_region_held_drew (S := fun W => Row W (some ⟨bb, bo + v, none⟩) c (cap - v) L ∧ Row W (some ⟨r1, 0, none⟩) c c L ∧ Row W (some ⟨r2, 0, none⟩) c c L) (by kernel_rfl) (hBel.out _ (ext_drew w8)) fun hS => ?_
      refine take_to (i := 0) (v := ?_) 103 rfl rfl (by kernel_rfl) (by kernel_rfl) (by kernel_rfl) (fun _ _ _ h => h) (Or.inl ⟨by rfl, ?_⟩) hS ?_
      rotate_left
      · intro W hW
        have s1 := strB.out W _ _ _ _ hW.1; have s2 := strB.out W _ _ _ _ hW.2.1; have s3 := strB.out W _ _ _ _ hW.2.2
        go_simp
        try with_reducible rfl
      simp only [List.setIfInBounds_toArray, List.set_cons_zero, List.set_cons_succ]
      refine take_to (i := 1) (v := ?_) 104 rfl rfl (by kernel_rfl) (by kernel_rfl) (by kernel_rfl) (fun _ _ _ h => h) (Or.inl ⟨by rfl, ?_⟩) hS ?_
      rotate_left
      · intro W hW
        have s1 := strB.out W _ _ _ _ hW.1; have s2 := strB.out W _ _ _ _ hW.2.1; have s3 := strB.out W _ _ _ _ hW.2.2
        go_simp
        try with_reducible rfl
      simp only [List.setIfInBounds_toArray, List.set_cons_zero, List.set_cons_succ]
      refine take_to (i := 2) (v := ?_) 105 rfl rfl (by kernel_rfl) (by kernel_rfl) (by kernel_rfl) (fun _ _ _ h => h) (Or.inl ⟨by rfl, ?_⟩) hS ?_
      rotate_left
      · intro W hW
        have s1 := strB.out W _ _ _ _ hW.1; have s2 := strB.out W _ _ _ _ hW.2.1; have s3 := strB.out W _ _ _ _ hW.2.2
        go_simp
        try with_reducible rfl
      simp only [List.setIfInBounds_toArray, List.set_cons_zero, List.set_cons_succ]
      refine take_to (i := 3) (v := ?_) 106 rfl rfl (by kernel_rfl) (by kernel_rfl) (by kernel_rfl) (fun _ _ _ h => h) (Or.inl ⟨by rfl, ?_⟩) hS ?_
      rotate_left
      · intro W hW
        have s1 := strB.out W _ _ _ _ hW.1; have s2 := strB.out W _ _ _ _ hW.2.1; have s3 := strB.out W _ _ _ _ hW.2.2
        go_simp
        try with_reducible rfl
      simp only [List.setIfInBounds_toArray, List.set_cons_zero, List.set_cons_succ]
      refine take_to (i := 4) (v := ?_) 107 rfl rfl (by kernel_rfl) (by kernel_rfl) (by kernel_rfl) (fun _ _ _ h => h) (Or.inl ⟨by rfl, ?_⟩) hS ?_
      rotate_left
      · intro W hW
        have s1 := strB.out W _ _ _ _ hW.1; have s2 := strB.out W _ _ _ _ hW.2.1; have s3 := strB.out W _ _ _ _ hW.2.2
        go_simp
        try with_reducible rfl
      simp only [List.setIfInBounds_toArray, List.set_cons_zero, List.set_cons_succ]
      refine take_to (i := 5) (v := ?_) 108 rfl rfl (by kernel_rfl) (by kernel_rfl) (by kernel_rfl) (fun _ _ _ h => h) (Or.inl ⟨by rfl, ?_⟩) hS ?_
      rotate_left
      · intro W hW
        have s1 := strB.out W _ _ _ _ hW.1; have s2 := strB.out W _ _ _ _ hW.2.1; have s3 := strB.out W _ _ _ _ hW.2.2
        go_simp
        try with_reducible rfl
      simp only [List.setIfInBounds_toArray, List.set_cons_zero, List.set_cons_succ]
      refine take_to (i := 6) (v := ?_) 109 rfl rfl (by kernel_rfl) (by kernel_rfl) (by kernel_rfl) (fun _ _ _ h => h) (Or.inl ⟨by rfl, ?_⟩) hS ?_
      rotate_left
      · intro W hW
        have s1 := strB.out W _ _ _ _ hW.1; have s2 := strB.out W _ _ _ _ hW.2.1; have s3 := strB.out W _ _ _ _ hW.2.2
        go_simp
        try with_reducible rfl
      simp only [List.setIfInBounds_toArray, List.set_cons_zero, List.set_cons_succ]
      refine take_to (i := 7) (v := ?_) 110 rfl rfl (by kernel_rfl) (by kernel_rfl) (by kernel_rfl) (fun _ _ _ h => h) (Or.inl ⟨by rfl, ?_⟩) hS ?_
      rotate_left
      · intro W hW
        have s1 := strB.out W _ _ _ _ hW.1; have s2 := strB.out W _ _ _ _ hW.2.1; have s3 := strB.out W _ _ _ _ hW.2.2
        go_simp
        try with_reducible rfl
      simp only [List.setIfInBounds_toArray, List.set_cons_zero, List.set_cons_succ]
      refine take_to (i := 8) (v := ?_) 111 rfl rfl (by kernel_rfl) (by kernel_rfl) (by kernel_rfl) (fun _ _ _ h => h) (Or.inl ⟨by rfl, ?_⟩) hS ?_
      rotate_left
      · intro W hW
        have s1 := strB.out W _ _ _ _ hW.1; have s2 := strB.out W _ _ _ _ hW.2.1; have s3 := strB.out W _ _ _ _ hW.2.2
        go_simp
        try with_reducible rfl
      simp only [List.setIfInBounds_toArray, List.set_cons_zero, List.set_cons_succ]
      refine take_to (i := 9) (v := ?_) 112 rfl rfl (by kernel_rfl) (by kernel_rfl) (by kernel_rfl) (fun _ _ _ h => h) (Or.inl ⟨by rfl, ?_⟩) hS ?_
      rotate_left
      · intro W hW
        have s1 := strB.out W _ _ _ _ hW.1; have s2 := strB.out W _ _ _ _ hW.2.1; have s3 := strB.out W _ _ _ _ hW.2.2
        go_simp
        try with_reducible rfl
      simp only [List.setIfInBounds_toArray, List.set_cons_zero, List.set_cons_succ]
      refine take_to (i := 10) (v := ?_) 113 rfl rfl (by kernel_rfl) (by kernel_rfl) (by kernel_rfl) (fun _ _ _ h => h) (Or.inl ⟨by rfl, ?_⟩) hS ?_
      rotate_left
      · intro W hW
        have s1 := strB.out W _ _ _ _ hW.1; have s2 := strB.out W _ _ _ _ hW.2.1; have s3 := strB.out W _ _ _ _ hW.2.2
        go_simp
        try with_reducible rfl
      simp only [List.setIfInBounds_toArray, List.set_cons_zero, List.set_cons_succ]
      refine take_to (i := 11) (v := ?_) 114 rfl rfl (by kernel_rfl) (by kernel_rfl) (by kernel_rfl) (fun _ _ _ h => h) (Or.inl ⟨by rfl, ?_⟩) hS ?_
      rotate_left
      · intro W hW
        have s1 := strB.out W _ _ _ _ hW.1; have s2 := strB.out W _ _ _ _ hW.2.1; have s3 := strB.out W _ _ _ _ hW.2.2
        go_simp
        try with_reducible rfl
      simp only [List.setIfInBounds_toArray, List.set_cons_zero, List.set_cons_succ]
      refine take_to (i := 12) (v := ?_) 115 rfl rfl (by kernel_rfl) (by kernel_rfl) (by kernel_rfl) (fun _ _ _ h => h) (Or.inl ⟨by rfl, ?_⟩) hS ?_
      rotate_left
      · intro W hW
        have s1 := strB.out W _ _ _ _ hW.1; have s2 := strB.out W _ _ _ _ hW.2.1; have s3 := strB.out W _ _ _ _ hW.2.2
        go_simp
        try with_reducible rfl
      simp only [List.setIfInBounds_toArray, List.set_cons_zero, List.set_cons_succ]
      refine take_to (i := 13) (v := ?_) 116 rfl rfl (by kernel_rfl) (by kernel_rfl) (by kernel_rfl) (fun _ _ _ h => h) (Or.inl ⟨by rfl, ?_⟩) hS ?_
      rotate_left
      · intro W hW
        have s1 := strB.out W _ _ _ _ hW.1; have s2 := strB.out W _ _ _ _ hW.2.1; have s3 := strB.out W _ _ _ _ hW.2.2
        go_simp
        try with_reducible rfl
      simp only [List.setIfInBounds_toArray, List.set_cons_zero, List.set_cons_succ]
      refine take_to (i := 14) (v := ?_) 117 rfl rfl (by kernel_rfl) (by kernel_rfl) (by kernel_rfl) (fun _ _ _ h => h) (Or.inl ⟨by rfl, ?_⟩) hS ?_
      rotate_left
      · intro W hW
        have s1 := strB.out W _ _ _ _ hW.1; have s2 := strB.out W _ _ _ _ hW.2.1; have s3 := strB.out W _ _ _ _ hW.2.2
        go_simp
        try with_reducible rfl
      simp only [List.setIfInBounds_toArray, List.set_cons_zero, List.set_cons_succ]
      refine take_to (i := 15) (v := ?_) 118 rfl rfl (by kernel_rfl) (by kernel_rfl) (by kernel_rfl) (fun _ _ _ h => h) (Or.inl ⟨by rfl, ?_⟩) hS ?_
      rotate_left
      · intro W hW
        have s1 := strB.out W _ _ _ _ hW.1; have s2 := strB.out W _ _ _ _ hW.2.1; have s3 := strB.out W _ _ _ _ hW.2.2
        go_simp
        try with_reducible rfl
      simp only [List.setIfInBounds_toArray, List.set_cons_zero, List.set_cons_succ]
      refine take_to (i := 16) (v := ?_) 119 rfl rfl (by kernel_rfl) (by kernel_rfl) (by kernel_rfl) (fun _ _ _ h => h) (Or.inl ⟨by rfl, ?_⟩) hS ?_
      rotate_left
      · intro W hW
        have s1 := strB.out W _ _ _ _ hW.1; have s2 := strB.out W _ _ _ _ hW.2.1; have s3 := strB.out W _ _ _ _ hW.2.2
        go_simp
        try with_reducible rfl
      simp only [List.setIfInBounds_toArray, List.set_cons_zero, List.set_cons_succ]
      refine take_to (i := 17) (v := ?_) 120 rfl rfl (by kernel_rfl) (by kernel_rfl) (by kernel_rfl) (fun _ _ _ h => h) (Or.inl ⟨by rfl, ?_⟩) hS ?_
      rotate_left
      · intro W hW
        have s1 := strB.out W _ _ _ _ hW.1; have s2 := strB.out W _ _ _ _ hW.2.1; have s3 := strB.out W _ _ _ _ hW.2.2
        go_simp
        try with_reducible rfl
      simp only [List.setIfInBounds_toArray, List.set_cons_zero, List.set_cons_succ]
      refine take_to (i := 18) (v := ?_) 121 rfl rfl (by kernel_rfl) (by kernel_rfl) (by kernel_rfl) (fun _ _ _ h => h) (Or.inl ⟨by rfl, ?_⟩) hS ?_
      rotate_left
      · intro W hW
        have s1 := strB.out W _ _ _ _ hW.1; have s2 := strB.out W _ _ _ _ hW.2.1; have s3 := strB.out W _ _ _ _ hW.2.2
        go_simp
        try with_reducible rfl
      simp only [List.setIfInBounds_toArray, List.set_cons_zero, List.set_cons_succ]
      refine take_to (i := 19) (v := ?_) 122 rfl rfl (by kernel_rfl) (by kernel_rfl) (by kernel_rfl) (fun _ _ _ h => h) (Or.inl ⟨by rfl, ?_⟩) hS ?_
      rotate_left
      · intro W hW
        have s1 := strB.out W _ _ _ _ hW.1; have s2 := strB.out W _ _ _ _ hW.2.1; have s3 := strB.out W _ _ _ _ hW.2.2
        go_simp
        try with_reducible rfl
      simp only [List.setIfInBounds_toArray, List.set_cons_zero, List.set_cons_succ]
      refine take_to (i := 20) (v := ?_) 123 rfl rfl (by kernel_rfl) (by kernel_rfl) (by kernel_rfl) (fun _ _ _ h => h) (Or.inl ⟨by rfl, ?_⟩) hS ?_
      rotate_left
      · intro W hW
        have s1 := strB.out W _ _ _ _ hW.1; have s2 := strB.out W _ _ _ _ hW.2.1; have s3 := strB.out W _ _ _ _ hW.2.2
        go_simp
        try with_reducible rfl
      simp only [List.setIfInBounds_toArray, List.set_cons_zero, List.set_cons_succ]
      refine take_to (i := 21) (v := ?_) 124 rfl rfl (by kernel_rfl) (by kernel_rfl) (by kernel_rfl) (fun _ _ _ h => h) (Or.inl ⟨by rfl, ?_⟩) hS ?_
      rotate_left
      · intro W hW
        have s1 := strB.out W _ _ _ _ hW.1; have s2 := strB.out W _ _ _ _ hW.2.1; have s3 := strB.out W _ _ _ _ hW.2.2
        go_simp
        try with_reducible rfl
      simp only [List.setIfInBounds_toArray, List.set_cons_zero, List.set_cons_succ]
      refine take_to (i := 22) (v := ?_) 125 rfl rfl (by kernel_rfl) (by kernel_rfl) (by kernel_rfl) (fun _ _ _ h => h) (Or.inl ⟨by rfl, ?_⟩) hS ?_
      rotate_left
      · intro W hW
        have s1 := strB.out W _ _ _ _ hW.1; have s2 := strB.out W _ _ _ _ hW.2.1; have s3 := strB.out W _ _ _ _ hW.2.2
        go_simp
        try with_reducible rfl
      simp only [List.setIfInBounds_toArray, List.set_cons_zero, List.set_cons_succ]
      refine take_to (i := 23) (v := ?_) 126 rfl rfl (by kernel_rfl) (by kernel_rfl) (by kernel_rfl) (fun _ _ _ h => h) (Or.inl ⟨by rfl, ?_⟩) hS ?_
      rotate_left
      · intro W hW
        have s1 := strB.out W _ _ _ _ hW.1; have s2 := strB.out W _ _ _ _ hW.2.1; have s3 := strB.out W _ _ _ _ hW.2.2
        go_simp
        try with_reducible rfl
      simp only [List.setIfInBounds_toArray, List.set_cons_zero, List.set_cons_succ]
      refine take_to (i := 24) (v := ?_) 127 rfl rfl (by kernel_rfl) (by kernel_rfl) (by kernel_rfl) (fun _ _ _ h => h) (Or.inl ⟨by rfl, ?_⟩) hS ?_
      rotate_left
      · intro W hW
        have s1 := strB.out W _ _ _ _ hW.1; have s2 := strB.out W _ _ _ _ hW.2.1; have s3 := strB.out W _ _ _ _ hW.2.2
        go_simp
        try with_reducible rfl
      simp only [List.setIfInBounds_toArray, List.set_cons_zero, List.set_cons_succ]
      refine take_to (i := 25) (v := ?_) 128 rfl rfl (by kernel_rfl) (by kernel_rfl) (by kernel_rfl) (fun _ _ _ h => h) (Or.inl ⟨by rfl, ?_⟩) hS ?_
      rotate_left
      · intro W hW
        have s1 := strB.out W _ _ _ _ hW.1; have s2 := strB.out W _ _ _ _ hW.2.1; have s3 := strB.out W _ _ _ _ hW.2.2
        go_simp
        try with_reducible rfl
      simp only [List.setIfInBounds_toArray, List.set_cons_zero, List.set_cons_succ]
      refine take_to (i := 26) (v := ?_) 129 rfl rfl (by kernel_rfl) (by kernel_rfl) (by kernel_rfl) (fun _ _ _ h => h) (Or.inl ⟨by rfl, ?_⟩) hS ?_
      rotate_left
      · intro W hW
        have s1 := strB.out W _ _ _ _ hW.1; have s2 := strB.out W _ _ _ _ hW.2.1; have s3 := strB.out W _ _ _ _ hW.2.2
        go_simp
        try with_reducible rfl
      simp only [List.setIfInBounds_toArray, List.set_cons_zero, List.set_cons_succ]
      refine take_to (i := 27) (v := ?_) 130 rfl rfl (by kernel_rfl) (by kernel_rfl) (by kernel_rfl) (fun _ _ _ h => h) (Or.inl ⟨by rfl, ?_⟩) hS ?_
      rotate_left
      · intro W hW
        have s1 := strB.out W _ _ _ _ hW.1; have s2 := strB.out W _ _ _ _ hW.2.1; have s3 := strB.out W _ _ _ _ hW.2.2
        go_simp
        try with_reducible rfl
      simp only [List.setIfInBounds_toArray, List.set_cons_zero, List.set_cons_succ]
      refine take_to (i := 28) (v := ?_) 131 rfl rfl (by kernel_rfl) (by kernel_rfl) (by kernel_rfl) (fun _ _ _ h => h) (Or.inl ⟨by rfl, ?_⟩) hS ?_
      rotate_left
      · intro W hW
        have s1 := strB.out W _ _ _ _ hW.1; have s2 := strB.out W _ _ _ _ hW.2.1; have s3 := strB.out W _ _ _ _ hW.2.2
        go_simp
        try with_reducible rfl
      simp only [List.setIfInBounds_toArray, List.set_cons_zero, List.set_cons_succ]
      refine take_to (i := 29) (v := ?_) 132 rfl rfl (by kernel_rfl) (by kernel_rfl) (by kernel_rfl) (fun _ _ _ h => h) (Or.inl ⟨by rfl, ?_⟩) hS ?_
      rotate_left
      · intro W hW
        have s1 := strB.out W _ _ _ _ hW.1; have s2 := strB.out W _ _ _ _ hW.2.1; have s3 := strB.out W _ _ _ _ hW.2.2
        go_simp
        try with_reducible rfl
      simp only [List.setIfInBounds_toArray, List.set_cons_zero, List.set_cons_succ]
      refine take_to (i := 30) (v := ?_) 133 rfl rfl (by kernel_rfl) (by kernel_rfl) (by kernel_rfl) (fun _ _ _ h => h) (Or.inl ⟨by rfl, ?_⟩) hS ?_
      rotate_left
      · intro W hW
        have s1 := strB.out W _ _ _ _ hW.1; have s2 := strB.out W _ _ _ _ hW.2.1; have s3 := strB.out W _ _ _ _ hW.2.2
        go_simp
        try with_reducible rfl
      simp only [List.setIfInBounds_toArray, List.set_cons_zero, List.set_cons_succ]
      refine take_to (i := 31) (v := ?_) 134 rfl rfl (by kernel_rfl) (by kernel_rfl) (by kernel_rfl) (fun _ _ _ h => h) (Or.inl ⟨by rfl, ?_⟩) hS ?_
      rotate_left
      · intro W hW
        have s1 := strB.out W _ _ _ _ hW.1; have s2 := strB.out W _ _ _ _ hW.2.1; have s3 := strB.out W _ _ _ _ hW.2.2
        go_simp
        try with_reducible rfl
      simp only [List.setIfInBounds_toArray, List.set_cons_zero, List.set_cons_succ]
      refine take_to (i := 32) (v := ?_) 135 rfl rfl (by kernel_rfl) (by kernel_rfl) (by kernel_rfl) (fun _ _ _ h => h) (Or.inl ⟨by rfl, ?_⟩) hS ?_
      rotate_left
      · intro W hW
        have s1 := strB.out W _ _ _ _ hW.1; have s2 := strB.out W _ _ _ _ hW.2.1; have s3 := strB.out W _ _ _ _ hW.2.2
        go_simp
        try with_reducible rfl
      simp only [List.setIfInBounds_toArray, List.set_cons_zero, List.set_cons_succ]
      refine take_to (i := 33) (v := ?_) 136 rfl rfl (by kernel_rfl) (by kernel_rfl) (by kernel_rfl) (fun _ _ _ h => h) (Or.inl ⟨by rfl, ?_⟩) hS ?_
      rotate_left
      · intro W hW
        have s1 := strB.out W _ _ _ _ hW.1; have s2 := strB.out W _ _ _ _ hW.2.1; have s3 := strB.out W _ _ _ _ hW.2.2
        go_simp
        try with_reducible rfl
      simp only [List.setIfInBounds_toArray, List.set_cons_zero, List.set_cons_succ]
      refine take_to (i := 34) (v := ?_) 137 rfl rfl (by kernel_rfl) (by kernel_rfl) (by kernel_rfl) (fun _ _ _ h => h) (Or.inl ⟨by rfl, ?_⟩) hS ?_
      rotate_left
      · intro W hW
        have s1 := strB.out W _ _ _ _ hW.1; have s2 := strB.out W _ _ _ _ hW.2.1; have s3 := strB.out W _ _ _ _ hW.2.2
        go_simp
        try with_reducible rfl
      simp only [List.setIfInBounds_toArray, List.set_cons_zero, List.set_cons_succ]
      refine take_to (i := 35) (v := ?_) 138 rfl rfl (by kernel_rfl) (by kernel_rfl) (by kernel_rfl) (fun _ _ _ h => h) (Or.inl ⟨by rfl, ?_⟩) hS ?_
      rotate_left
      · intro W hW
        have s1 := strB.out W _ _ _ _ hW.1; have s2 := strB.out W _ _ _ _ hW.2.1; have s3 := strB.out W _ _ _ _ hW.2.2
        go_simp
        try with_reducible rfl
      simp only [List.setIfInBounds_toArray, List.set_cons_zero, List.set_cons_succ]
      refine take_to (i := 36) (v := ?_) 139 rfl rfl (by kernel_rfl) (by kernel_rfl) (by kernel_rfl) (fun _ _ _ h => h) (Or.inl ⟨by rfl, ?_⟩) hS ?_
      rotate_left
      · intro W hW
        have s1 := strB.out W _ _ _ _ hW.1; have s2 := strB.out W _ _ _ _ hW.2.1; have s3 := strB.out W _ _ _ _ hW.2.2
        go_simp
        try with_reducible rfl
      simp only [List.setIfInBounds_toArray, List.set_cons_zero, List.set_cons_succ]
      refine take_to (i := 37) (v := ?_) 140 rfl rfl (by kernel_rfl) (by kernel_rfl) (by kernel_rfl) (fun _ _ _ h => h) (Or.inl ⟨by rfl, ?_⟩) hS ?_
      rotate_left
      · intro W hW
        have s1 := strB.out W _ _ _ _ hW.1; have s2 := strB.out W _ _ _ _ hW.2.1; have s3 := strB.out W _ _ _ _ hW.2.2
        go_simp
        try with_reducible rfl
      simp only [List.setIfInBounds_toArray, List.set_cons_zero, List.set_cons_succ]
      refine take_to (i := 38) (v := ?_) 141 rfl rfl (by kernel_rfl) (by kernel_rfl) (by kernel_rfl) (fun _ _ _ h => h) (Or.inl ⟨by rfl, ?_⟩) hS ?_
      rotate_left
      · intro W hW
        have s1 := strB.out W _ _ _ _ hW.1; have s2 := strB.out W _ _ _ _ hW.2.1; have s3 := strB.out W _ _ _ _ hW.2.2
        go_simp
        try with_reducible rfl
      simp only [List.setIfInBounds_toArray, List.set_cons_zero, List.set_cons_succ]
      refine take_to (i := 39) (v := ?_) 142 rfl rfl (by kernel_rfl) (by kernel_rfl) (by kernel_rfl) (fun _ _ _ h => h) (Or.inl ⟨by rfl, ?_⟩) hS ?_
      rotate_left
      · intro W hW
        have s1 := strB.out W _ _ _ _ hW.1; have s2 := strB.out W _ _ _ _ hW.2.1; have s3 := strB.out W _ _ _ _ hW.2.2
        go_simp
        try with_reducible rfl
      simp only [List.setIfInBounds_toArray, List.set_cons_zero, List.set_cons_succ]
      refine take_to (i := 40) (v := ?_) 143 rfl rfl (by kernel_rfl) (by kernel_rfl) (by kernel_rfl) (fun _ _ _ h => h) (Or.inl ⟨by rfl, ?_⟩) hS ?_
      rotate_left
      · intro W hW
        have s1 := strB.out W _ _ _ _ hW.1; have s2 := strB.out W _ _ _ _ hW.2.1; have s3 := strB.out W _ _ _ _ hW.2.2
        go_simp
        try with_reducible rfl
      simp only [List.setIfInBounds_toArray, List.set_cons_zero, List.set_cons_succ]
      refine take_to (i := 41) (v := ?_) 144 rfl rfl (by kernel_rfl) (by kernel_rfl) (by kernel_rfl) (fun _ _ _ h => h) (Or.inl ⟨by rfl, ?_⟩) hS ?_
      rotate_left
      · intro W hW
        have s1 := strB.out W _ _ _ _ hW.1; have s2 := strB.out W _ _ _ _ hW.2.1; have s3 := strB.out W _ _ _ _ hW.2.2
        go_simp
        try with_reducible rfl
      simp only [List.setIfInBounds_toArray, List.set_cons_zero, List.set_cons_succ]
      refine take_to (i := 42) (v := ?_) 145 rfl rfl (by kernel_rfl) (by kernel_rfl) (by kernel_rfl) (fun _ _ _ h => h) (Or.inl ⟨by rfl, ?_⟩) hS ?_
      rotate_left
      · intro W hW
        have s1 := strB.out W _ _ _ _ hW.1; have s2 := strB.out W _ _ _ _ hW.2.1; have s3 := strB.out W _ _ _ _ hW.2.2
        go_simp
        try with_reducible rfl
      simp only [List.setIfInBounds_toArray, List.set_cons_zero, List.set_cons_succ]
      refine take_to (i := 43) (v := ?_) 146 rfl rfl (by kernel_rfl) (by kernel_rfl) (by kernel_rfl) (fun _ _ _ h => h) (Or.inl ⟨by rfl, ?_⟩) hS ?_
      rotate_left
      · intro W hW
        have s1 := strB.out W _ _ _ _ hW.1; have s2 := strB.out W _ _ _ _ hW.2.1; have s3 := strB.out W _ _ _ _ hW.2.2
        go_simp
        try with_reducible rfl
      simp only [List.setIfInBounds_toArray, List.set_cons_zero, List.set_cons_succ]
      refine take_to (i := 44) (v := ?_) 147 rfl rfl (by kernel_rfl) (by kernel_rfl) (by kernel_rfl) (fun _ _ _ h => h) (Or.inl ⟨by rfl, ?_⟩) hS ?_
      rotate_left
      · intro W hW
        have s1 := strB.out W _ _ _ _ hW.1; have s2 := strB.out W _ _ _ _ hW.2.1; have s3 := strB.out W _ _ _ _ hW.2.2
        go_simp
        try with_reducible rfl
      simp only [List.setIfInBounds_toArray, List.set_cons_zero, List.set_cons_succ]
      refine wpAnyH_ready (rs := [45]) (by kernel_rfl) (by simp) ?_
      refine AllReadyH.cons rfl (fun K hK => ?_) AllReadyH.nil
      go_simp
      have hb9 := (below_alloc w8.drew (.cells #[.int .u8 1] 5))
      have hb9' : Below w8.heap.size w8 (w8.drew.alloc (.cells #[.int .u8 1] 5)) := ⟨hb9.os, hb9.tape, hb9.output, hb9.size, hb9.block⟩
      have hS9 := hBel.out _ hb9'
      refine hK.out _ _ hS9 fun hS => ?_
      clear hK K
      refine wpAnyH_ready (rs := [46]) (by kernel_rfl) (by simp) ?_
      refine AllReadyH.cons rfl (fun K hK => ?_) AllReadyH.nil
      go_simp
      refine (spc_write_range (h8.below hb9') 1 ⟨by decide, by decide⟩ len f1 hT1 len (by omega) _ 1 1 (by omega)).mono ?_
      rintro e w10 ⟨rfl, hb10⟩
      have hb11 := ext_trans hb9' hb10
      refine hK.out _ _ (hBel.out _ hb11) fun hS => ?_
      clear hK K
      refine take_to (i := 47) (v := ?_) 150 rfl rfl (by kernel_rfl) (by kernel_rfl) (by kernel_rfl) (fun _ _ _ h => h) (Or.inl ⟨by rfl, ?_⟩) hS ?_
      rotate_left
      · intro W hW
        have s1 := strB.out W _ _ _ _ hW.1; have s2 := strB.out W _ _ _ _ hW.2.1; have s3 := strB.out W _ _ _ _ hW.2.2
        go_simp
        try with_reducible rfl
      simp only [List.setIfInBounds_toArray, List.set_cons_zero, List.set_cons_succ]
      refine take_to (i := 48) (v := ?_) 151 rfl rfl (by kernel_rfl) (by kernel_rfl) (by kernel_rfl) (fun _ _ _ h => h) (Or.inl ⟨by rfl, ?_⟩) hS ?_
      rotate_left
      · intro W hW
        have s1 := strB.out W _ _ _ _ hW.1; have s2 := strB.out W _ _ _ _ hW.2.1; have s3 := strB.out W _ _ _ _ hW.2.2
        go_simp
        try with_reducible rfl
      simp only [List.setIfInBounds_toArray, List.set_cons_zero, List.set_cons_succ]
      refine take_to (i := 49) (v := ?_) 152 rfl rfl (by kernel_rfl) (by kernel_rfl) (by kernel_rfl) (fun _ _ _ h => h) (Or.inl ⟨by rfl, ?_⟩) hS ?_
      rotate_left
      · intro W hW
        have s1 := strB.out W _ _ _ _ hW.1; have s2 := strB.out W _ _ _ _ hW.2.1; have s3 := strB.out W _ _ _ _ hW.2.2
        go_simp
        try with_reducible rfl
      simp only [List.setIfInBounds_toArray, List.set_cons_zero, List.set_cons_succ]
      refine take_to (i := 50) (v := ?_) 153 rfl rfl (by kernel_rfl) (by kernel_rfl) (by kernel_rfl) (fun _ _ _ h => h) (Or.inl ⟨by rfl, ?_⟩) hS ?_
      rotate_left
      · intro W hW
        have s1 := strB.out W _ _ _ _ hW.1; have s2 := strB.out W _ _ _ _ hW.2.1; have s3 := strB.out W _ _ _ _ hW.2.2
        go_simp
        try with_reducible rfl
      simp only [List.setIfInBounds_toArray, List.set_cons_zero, List.set_cons_succ]
      refine take_to (i := 51) (v := ?_) 154 rfl rfl (by kernel_rfl) (by kernel_rfl) (by kernel_rfl) (fun _ _ _ h => h) (Or.inl ⟨by rfl, ?_⟩) hS ?_
      rotate_left
      · intro W hW
        have s1 := strB.out W _ _ _ _ hW.1; have s2 := strB.out W _ _ _ _ hW.2.1; have s3 := strB.out W _ _ _ _ hW.2.2
        go_simp
        try with_reducible rfl
      simp only [List.setIfInBounds_toArray, List.set_cons_zero, List.set_cons_succ]
      refine take_to (i := 52) (v := ?_) 155 rfl rfl (by kernel_rfl) (by kernel_rfl) (by kernel_rfl) (fun _ _ _ h => h) (Or.inl ⟨by rfl, ?_⟩) hS ?_
      rotate_left
      · intro W hW
        have s1 := strB.out W _ _ _ _ hW.1; have s2 := strB.out W _ _ _ _ hW.2.1; have s3 := strB.out W _ _ _ _ hW.2.2
        go_simp
        try with_reducible rfl
      simp only [List.setIfInBounds_toArray, List.set_cons_zero, List.set_cons_succ]
      refine wpAnyH_ready (rs := [53]) (by kernel_rfl) (by simp) ?_
      refine AllReadyH.cons rfl (fun K hK => ?_) AllReadyH.nil
      go_simp
      refine (write_ok (h8.below hb11) 1 ⟨by decide, by decide⟩ len f1 hT1 none 0 0 [] (Row.nil _) (fun x hx _ => (by cases hx)) len (by omega)).mono ?_
      rintro e w12 ⟨rfl, h12, hc12⟩
      have hfinal := (hb8.trans (hb11.mono hb8.size)).trans (hc12.below hSW (Nat.le_trans hb8.size hb11.size))
      refine hK.out _ _ ⟨hS.1.chg hc12 hn0, hS.2.1.chg hc12 hn1, hS.2.2.chg hc12 hn2⟩ fun hS => ?_
      clear hK K
      refine take_to (i := 54) (v := ?_) 157 rfl rfl (by kernel_rfl) (by kernel_rfl) (by kernel_rfl) (fun _ _ _ h => h) (Or.inl ⟨by rfl, ?_⟩) hS ?_
      rotate_left
      · intro W hW
        have s1 := strB.out W _ _ _ _ hW.1; have s2 := strB.out W _ _ _ _ hW.2.1; have s3 := strB.out W _ _ _ _ hW.2.2
        go_simp
        try with_reducible rfl
      simp only [List.setIfInBounds_toArray, List.set_cons_zero, List.set_cons_succ]
      refine take_to (i := 55) (v := ?_) 158 rfl rfl (by kernel_rfl) (by kernel_rfl) (by kernel_rfl) (fun _ _ _ h => h) (Or.inl ⟨by rfl, ?_⟩) hS ?_
      rotate_left
      · intro W hW
        have s1 := strB.out W _ _ _ _ hW.1; have s2 := strB.out W _ _ _ _ hW.2.1; have s3 := strB.out W _ _ _ _ hW.2.2
        go_simp
        try with_reducible rfl
      simp only [List.setIfInBounds_toArray, List.set_cons_zero, List.set_cons_succ]
      refine take_to (i := 56) (v := ?_) 8 rfl rfl (by kernel_rfl) (by kernel_rfl) (by kernel_rfl) (fun _ _ _ h => h) (Or.inl ⟨by rfl, ?_⟩) hS ?_
      rotate_left
      · intro W hW
        have s1 := strB.out W _ _ _ _ hW.1; have s2 := strB.out W _ _ _ _ hW.2.1; have s3 := strB.out W _ _ _ _ hW.2.2
        go_simp
        try with_reducible rfl
      simp only [List.setIfInBounds_toArray, List.set_cons_zero, List.set_cons_succ]
      refine wpAnyH_done (by kernel_rfl) ?_ _
      refine NoPanic.normal ?_
      go_wp2_with fail
      go_ret
      exact ⟨rfl, hfinal⟩
end Go.Proofs.Ytdmdamidknbjoaa
