/- CatsBytes walked: it answers true, and turns nothing that was there. -/
import Derived.Test.YtpajojkhpnklfaaCatsAllWalk
import Derived.Test.YtpajojkhpnklfaaRegion
namespace Go.Proofs.Ytpajojkhpnklfaa
open Go.RowKit

theorem srt_may {A : List Int} (hA : Srt A) (hl : A.length ≤ 16) : mayS A = true := by
  simp [mayS, hl, (asc_iff A).2 hA]

set_option maxHeartbeats 4000000 in
theorem catsBytes_walk (a b : Option Addr) (n cap m cap2 : Nat) (xs bs : List Int) (w : World) (hr : RowW w a n cap xs) (hs : Row w b m cap2 bs) :
    Calls Try.prog 5 #[.slice a n cap, .slice b m cap2] w fun e w' => e = .returned (.bool true) ∧ Below w.heap.size w w' := by
  have hcap := hr.cap_le
  obtain ⟨K, hK⟩ : ∃ K, K = min n 16 := ⟨_, rfl⟩
  have hK1 : K ≤ n := by omega
  have hK2 : K ≤ 16 := by omega
  have hmin : min (n : Int) 16 = (K : Int) := by omega
  have hK3 : (K : Int) ≤ (cap : Int) := by omega
  have hK4 : K ≤ cap := by omega
  clear hK
  go_enter Try.func5, Try.ntmps5
  go_wp2_with fail
  refine (begun_true _).mono ?_
  rintro e w1 ⟨rfl, b1⟩
  replace hr := hr.below b1
  replace hs := hs.below b1
  go_wp2_with fail
  refine (refMake_any a K cap (xs.take K) _ (hr.pre K hK1) (by omega)).mono ?_
  rintro e w2 ⟨sa, na, ca, A, rfl, oa, b2, hA, mA, lA⟩
  have hlA := oa.1
  have hmay := srt_may hA (by omega)
  have HMAY : Hid (mayS A = true) := hmay
  have ra := oa.row
  replace hs := hs.below b2
  replace b1 := ext_trans b1 b2
  clear oa b2 hlA hmay hr mA
  by_cases hm : m > 80
  · have hm' : (m : Int) > 80 := by omega
    go_wp2_with fail
    go_ret
    exact ⟨rfl, b1⟩
  have hm' : ¬ (m : Int) > 80 := by omega
  have hm2 : decide ((80 : Int) < m) = false := by simp; omega
  go_wp2_with fail
  refine (takeSet_any b m cap2 bs _ hs).mono ?_
  rintro e w3 ⟨sx, nx, cx, rfl, ox, b3⟩
  replace ra := ra.below b3
  replace hs := hs.below b3
  replace b1 := ext_trans b1 b3
  have rx := ox.row
  clear ox b3
  go_wp2_with fail
  refine (refTakeSet_any b m cap2 bs _ hs).mono ?_
  rintro e w4 ⟨sy, ny, cy, rfl, oy, b4⟩
  replace ra := ra.below b4
  replace hs := hs.below b4
  replace rx := rx.below b4
  replace b1 := ext_trans b1 b4
  have ry := oy.row
  clear oy b4
  generalize tsN bs = TN
  generalize tsE bs = TE
  generalize tsY bs = TY at rx ry
  go_wp2_with fail
  have hst := fun (W : World) (ao : Option Addr) (n c : Nat) (zs : List Int) (hrow : Row W ao n c zs) => run_str (P := Try.prog) W 31 9 5 Try.underlying31 Try.underlying5 Try.underlying9 ao n c zs hrow
  have HS : Hid (∀ (W : World) (ao : Option Addr) (n c : Nat) (zs : List Int), Row W ao n c zs → (convert 31 9 (.slice ao n c)).run Try.prog W = .ok (.string (strOfNums zs)) W) := hst
  clear hst
  refine wp_region_noPanic ?_
  refine wp_region_held_drew (S := fun _ => True) (by kernel_rfl) trivial fun hT => ?_
  refine take_to (i := 0) (v := ?_) 35 rfl rfl (by kernel_rfl) (by kernel_rfl) (by kernel_rfl) (fun _ _ _ h => h) (Or.inl ⟨by rfl, ?_⟩) hT ?_
  rotate_left
  · intro W hW
    go_simp
    try with_reducible rfl
  simp only [List.setIfInBounds_toArray, List.set_cons_zero, List.set_cons_succ]
  refine take_to (i := 1) (v := ?_) 36 rfl rfl (by kernel_rfl) (by kernel_rfl) (by kernel_rfl) (fun _ _ _ h => h) (Or.inl ⟨by rfl, ?_⟩) hT ?_
  rotate_left
  · intro W hW
    go_simp
    try with_reducible rfl
  simp only [List.setIfInBounds_toArray, List.set_cons_zero, List.set_cons_succ]
  refine take_to (i := 4) (v := ?_) 39 rfl rfl (by kernel_rfl) (by kernel_rfl) (by kernel_rfl) (fun _ _ _ h => h) (Or.inl ⟨by rfl, ?_⟩) hT ?_
  rotate_left
  · intro W hW
    go_simp
    try with_reducible rfl
  simp only [List.setIfInBounds_toArray, List.set_cons_zero, List.set_cons_succ]
  refine take_to (i := 5) (v := ?_) 40 rfl rfl (by kernel_rfl) (by kernel_rfl) (by kernel_rfl) (fun _ _ _ h => h) (Or.inl ⟨by rfl, ?_⟩) hT ?_
  rotate_left
  · intro W hW
    go_simp
    try with_reducible rfl
  simp only [List.setIfInBounds_toArray, List.set_cons_zero, List.set_cons_succ]

  refine wpAnyH_ready (rs := [2]) (by kernel_rfl) (by simp) ?_
  refine AllReadyH.cons rfl (fun K hK => ?_) AllReadyH.nil
  go_simp
  refine (putSet_any b sa m cap2 na ca bs A _ hs.drew (ra.below (ext_drew _)) HMAY.out (by omega)).mono ?_
  rintro e w5 ⟨g5, c5, rfl, o5, b5⟩
  replace hs := hs.drew.below b5
  replace ra := (ra.below (ext_drew _)).below b5
  replace rx := (rx.below (ext_drew _)).below b5
  replace ry := (ry.below (ext_drew _)).below b5
  replace b1 := ext_trans (ext_trans b1 (ext_drew _)) b5
  refine hK.out _ _ trivial fun _ => ?_
  clear hK K
  refine wpAnyH_more (S' := fun W => Row W (some ⟨g5, 0, none⟩) (m + (1 + 2 * na)) c5 (bs ++ (putB na 1 ++ encS A))) (fun _ _ => trivial) _ _ _ _ ?_
  have hS1 := o5.row
  refine take_to (i := 3) (v := ?_) 38 rfl rfl (by kernel_rfl) (by kernel_rfl) (by kernel_rfl) (fun _ _ _ h => h) (Or.inl ⟨by rfl, ?_⟩) hS1 ?_
  rotate_left
  · intro W hW
    have hc := HS.out W _ _ _ _ hW
    go_simp
    try with_reducible rfl
  simp only [List.setIfInBounds_toArray, List.set_cons_zero, List.set_cons_succ]

  refine wpAnyH_ready (rs := [6]) (by kernel_rfl) (by simp) ?_
  refine AllReadyH.cons rfl (fun K hK => ?_) AllReadyH.nil
  go_simp
  refine (refPutSet_any b sa m cap2 na ca bs A _ hs ra (by omega) (by omega)).mono ?_
  rintro e w6 ⟨g6, c6, rfl, o6, b6⟩
  refine hK.out _ _ (hS1.below b6) fun _ => ?_
  clear hK K
  replace rx := rx.below b6
  replace ry := ry.below b6
  replace b1 := ext_trans b1 b6
  refine wpAnyH_more (S' := fun W => Row W (some ⟨g5, 0, none⟩) (m + (1 + 2 * na)) c5 (bs ++ (putB na 1 ++ encS A)) ∧ Row W (some ⟨g6, 0, none⟩) (m + (1 + 2 * na)) c6 (bs ++ (putB na 1 ++ encS A))) (fun _ h => h.1) _ _ _ _ ?_
  have hS2 : (fun W => Row W (some ⟨g5, 0, none⟩) (m + (1 + 2 * na)) c5 (bs ++ (putB na 1 ++ encS A)) ∧ Row W (some ⟨g6, 0, none⟩) (m + (1 + 2 * na)) c6 (bs ++ (putB na 1 ++ encS A))) w6 := ⟨hS1.below b6, o6.row⟩
  clear hS1 o5 o6 b5 b6 hs ra
  refine take_to (i := 7) (v := ?_) 42 rfl rfl (by kernel_rfl) (by kernel_rfl) (by kernel_rfl) (fun _ _ _ h => h) (Or.inl ⟨by rfl, ?_⟩) hS2 ?_
  rotate_left
  · intro W hW
    have hc := HS.out W _ _ _ _ hW.2
    go_simp
    try with_reducible rfl
  simp only [List.setIfInBounds_toArray, List.set_cons_zero, List.set_cons_succ]
  refine take_to (i := 8) (v := ?_) 43 rfl rfl (by kernel_rfl) (by kernel_rfl) (by kernel_rfl) (fun _ _ _ h => h) (Or.inl ⟨by rfl, ?_⟩) hS2 ?_
  rotate_left
  · intro W hW
    go_simp
    try with_reducible rfl
  simp only [List.setIfInBounds_toArray, List.set_cons_zero, List.set_cons_succ]
  refine take_to (i := 9) (v := ?_) 44 rfl rfl (by kernel_rfl) (by kernel_rfl) (by kernel_rfl) (fun _ _ _ h => h) (Or.inl ⟨by rfl, ?_⟩) hS2 ?_
  rotate_left
  · intro W hW
    go_simp
    try with_reducible rfl
  simp only [List.setIfInBounds_toArray, List.set_cons_zero, List.set_cons_succ]
  refine take_to (i := 10) (v := ?_) 45 rfl rfl (by kernel_rfl) (by kernel_rfl) (by kernel_rfl) (fun _ _ _ h => h) (Or.inl ⟨by rfl, ?_⟩) hS2 ?_
  rotate_left
  · intro W hW
    go_simp
    try with_reducible rfl
  simp only [List.setIfInBounds_toArray, List.set_cons_zero, List.set_cons_succ]
  refine take_to (i := 11) (v := ?_) 46 rfl rfl (by kernel_rfl) (by kernel_rfl) (by kernel_rfl) (fun _ _ _ h => h) (Or.inl ⟨by rfl, ?_⟩) hS2 ?_
  rotate_left
  · intro W hW
    go_simp
    try with_reducible rfl
  simp only [List.setIfInBounds_toArray, List.set_cons_zero, List.set_cons_succ]

  refine wpAnyH_ready (rs := [12]) (by kernel_rfl) (by simp) ?_
  refine AllReadyH.cons rfl (fun K hK => ?_) AllReadyH.nil
  go_simp
  refine (same_true sx nx cx TY sy ny cy TY _ rx ry rfl).mono ?_
  rintro e w7 ⟨rfl, b7⟩
  refine hK.out _ _ ⟨hS2.1.below b7, hS2.2.below b7⟩ fun hS3 => ?_
  clear hK K
  replace b1 := ext_trans b1 b7
  refine take_to (i := 13) (v := ?_) 48 rfl rfl (by kernel_rfl) (by kernel_rfl) (by kernel_rfl) (fun _ _ _ h => h) (Or.inl ⟨by rfl, ?_⟩) hS3 ?_
  rotate_left
  · intro W hW
    go_simp
    try with_reducible rfl
  simp only [List.setIfInBounds_toArray, List.set_cons_zero, List.set_cons_succ]
  refine take_to (i := 14) (v := ?_) 49 rfl rfl (by kernel_rfl) (by kernel_rfl) (by kernel_rfl) (fun _ _ _ h => h) (Or.inl ⟨by rfl, ?_⟩) hS3 ?_
  rotate_left
  · intro W hW
    go_simp
    try with_reducible rfl
  simp only [List.setIfInBounds_toArray, List.set_cons_zero, List.set_cons_succ]
  refine take_to (i := 15) (v := ?_) 50 rfl rfl (by kernel_rfl) (by kernel_rfl) (by kernel_rfl) (fun _ _ _ h => h) (Or.inl ⟨by rfl, ?_⟩) hS3 ?_
  rotate_left
  · intro W hW
    go_simp
    try with_reducible rfl
  simp only [List.setIfInBounds_toArray, List.set_cons_zero, List.set_cons_succ]
  refine take_to (i := 16) (v := ?_) 51 rfl rfl (by kernel_rfl) (by kernel_rfl) (by kernel_rfl) (fun _ _ _ h => h) (Or.inl ⟨by rfl, ?_⟩) hS3 ?_
  rotate_left
  · intro W hW
    go_simp
    try with_reducible rfl
  simp only [List.setIfInBounds_toArray, List.set_cons_zero, List.set_cons_succ]
  refine take_to (i := 17) (v := ?_) 52 rfl rfl (by kernel_rfl) (by kernel_rfl) (by kernel_rfl) (fun _ _ _ h => h) (Or.inl ⟨by rfl, ?_⟩) hS3 ?_
  rotate_left
  · intro W hW
    go_simp
    try with_reducible rfl
  simp only [List.setIfInBounds_toArray, List.set_cons_zero, List.set_cons_succ]
  refine take_to (i := 18) (v := ?_) 53 rfl rfl (by kernel_rfl) (by kernel_rfl) (by kernel_rfl) (fun _ _ _ h => h) (Or.inl ⟨by rfl, ?_⟩) hS3 ?_
  rotate_left
  · intro W hW
    go_simp
    try with_reducible rfl
  simp only [List.setIfInBounds_toArray, List.set_cons_zero, List.set_cons_succ]
  refine take_to (i := 19) (v := ?_) 54 rfl rfl (by kernel_rfl) (by kernel_rfl) (by kernel_rfl) (fun _ _ _ h => h) (Or.inl ⟨by rfl, ?_⟩) hS3 ?_
  rotate_left
  · intro W hW
    go_simp
    try with_reducible rfl
  simp only [List.setIfInBounds_toArray, List.set_cons_zero, List.set_cons_succ]
  refine take_to (i := 20) (v := ?_) 55 rfl rfl (by kernel_rfl) (by kernel_rfl) (by kernel_rfl) (fun _ _ _ h => h) (Or.inl ⟨by rfl, ?_⟩) hS3 ?_
  rotate_left
  · intro W hW
    go_simp
    try with_reducible rfl
  simp only [List.setIfInBounds_toArray, List.set_cons_zero, List.set_cons_succ]
  refine take_to (i := 21) (v := ?_) 56 rfl rfl (by kernel_rfl) (by kernel_rfl) (by kernel_rfl) (fun _ _ _ h => h) (Or.inl ⟨by rfl, ?_⟩) hS3 ?_
  rotate_left
  · intro W hW
    go_simp
    try with_reducible rfl
  simp only [List.setIfInBounds_toArray, List.set_cons_zero, List.set_cons_succ]
  refine take_to (i := 22) (v := ?_) 57 rfl rfl (by kernel_rfl) (by kernel_rfl) (by kernel_rfl) (fun _ _ _ h => h) (Or.inl ⟨by rfl, ?_⟩) hS3 ?_
  rotate_left
  · intro W hW
    go_simp
    try with_reducible rfl
  simp only [List.setIfInBounds_toArray, List.set_cons_zero, List.set_cons_succ]
  refine take_to (i := 23) (v := ?_) 58 rfl rfl (by kernel_rfl) (by kernel_rfl) (by kernel_rfl) (fun _ _ _ h => h) (Or.inl ⟨by rfl, ?_⟩) hS3 ?_
  rotate_left
  · intro W hW
    go_simp
    try with_reducible rfl
  simp only [List.setIfInBounds_toArray, List.set_cons_zero, List.set_cons_succ]
  refine take_to (i := 24) (v := ?_) 4 rfl rfl (by kernel_rfl) (by kernel_rfl) (by kernel_rfl) (fun _ _ _ h => h) (Or.inl ⟨by rfl, ?_⟩) hS3 ?_
  rotate_left
  · intro W hW
    go_simp
    try with_reducible rfl
  simp only [List.setIfInBounds_toArray, List.set_cons_zero, List.set_cons_succ]

  refine wpAnyH_done (by kernel_rfl) ?_ _
  refine NoPanic.normal ?_
  go_wp2_with fail
  go_ret
  exact ⟨rfl, b1⟩
end Go.Proofs.Ytpajojkhpnklfaa
