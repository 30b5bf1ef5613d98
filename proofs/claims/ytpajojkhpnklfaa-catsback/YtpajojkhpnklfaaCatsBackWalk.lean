/- CatsBack walked: it answers true, and turns nothing that was there. -/
import Derived.Test.YtpajojkhpnklfaaCatsMakeWalk
import Derived.Test.YtpajojkhpnklfaaCatsBytesWalk
import Derived.Test.YtpajojkhpnklfaaDec
namespace Go.Proofs.Ytpajojkhpnklfaa
open Go.RowKit

set_option maxHeartbeats 400000 in
theorem place_any (k n : Int) (w : World) (hn : 1 ≤ n ∧ n ≤ 9223372036854775807) :
    Calls Try.prog 29 #[.int .i64 k, .int .i64 n] w fun e w' => ∃ m : Nat, e = .returned (.int .i64 m) ∧ (m : Int) < n ∧ Below w.heap.size w w' := by
  obtain ⟨hn0, hn1⟩ := hn
  have h1 : ¬ n < 1 := by omega
  obtain ⟨t0, t1⟩ := tmod_bd k n hn0
  by_cases hneg : k.tmod n < 0
  · obtain ⟨m, hm⟩ := Int.eq_ofNat_of_zero_le (show 0 ≤ k.tmod n + n by omega)
    go_enter Try.func29, Try.ntmps29
    go_wp2_with fail
    go_ret
    exact ⟨m, by rw [← hm]; rfl, by omega, Below.refl _ _⟩
  · obtain ⟨m, hm⟩ := Int.eq_ofNat_of_zero_le (show 0 ≤ k.tmod n by omega)
    go_enter Try.func29, Try.ntmps29
    go_wp2_with fail
    go_ret
    exact ⟨m, rfl, by omega, Below.refl _ _⟩

/-- What is cut off is short. -/
theorem ts_cut (A : List Int) (hl : A.length ≤ 255) (k : Nat) (hk : k < 1 + 2 * A.length) : tsE ((putB A.length 1 ++ encS A).take k) = 3 := by
  have h1 : isShort ((putB A.length 1 ++ encS A).take k) = true := by
    rw [putB_one _ hl]
    simp only [isShort, decide_eq_true_eq, List.length_take, List.length_append, List.length_singleton, encS_len]
    rcases Nat.eq_zero_or_pos k with rfl | h0
    · exact .inl (by omega)
    · refine .inr ?_
      have : cnt (([(A.length : Int)] ++ encS A).take k) = A.length := by
        obtain ⟨j, rfl⟩ : ∃ j, k = j + 1 := ⟨k - 1, by omega⟩
        simp [cnt]
      rw [this]
      omega
  rw [tsE, h1]
  rfl
theorem encS_snoc (l : List Int) (x : Int) : encS (l ++ [x]) = encS l ++ putB x 2 := by simp [encS]
theorem putB_two (p q : Int) (hp : 0 ≤ p ∧ p < 256) (hq : 0 ≤ q ∧ q < 256) : putB (num [p, q]) 2 = [p, q] := by
  have h1 : num [p, q] = p * 256 + q := by simp [num]
  rw [h1]
  simp only [putB, Int.pow_zero, Int.ediv_one, Int.pow_succ, Int.one_mul]
  rw [show (p * 256 + q) / 256 % 256 = p by omega, show (p * 256 + q) % 256 = q by omega]
theorem enc_dec (bs : List Int) (hb : Byt bs) : ∀ k, 1 + 2 * k ≤ bs.length → encS (decW bs k) = (bs.drop 1).take (2 * k)
  | 0, _ => by simp [decW, encS]
  | k + 1, h => by
    rw [decW_succ, encS_snoc, enc_dec bs hb k (by omega)]
    have h1 : (bs.drop (1 + 2 * k)).take 2 = [bs.getD (1 + 2 * k) 0, bs.getD (1 + 2 * k + 1) 0] := by
      rw [List.drop_eq_getElem_cons (show 1 + 2 * k < bs.length by omega), List.drop_eq_getElem_cons (show 1 + 2 * k + 1 < bs.length by omega)]
      rw [List.take_succ_cons, List.take_succ_cons, List.take_zero, getD_eq (show 1 + 2 * k < bs.length by omega), getD_eq (show 1 + 2 * k + 1 < bs.length by omega)]
    rw [h1, putB_two _ _ (hb.get _) (hb.get _), ← h1, show 2 * (k + 1) = 2 * k + 2 by omega, List.take_add, List.drop_drop]
/-- What is taken is put as it was. -/
theorem ts_back (bs : List Int) (hb : Byt bs) (h : tsE bs = 0) : mayS (tsY bs) = true ∧ ∃ K : Nat, tsN bs = (K : Int) ∧ K ≤ bs.length ∧ K = 1 + 2 * (tsY bs).length ∧ putB (tsY bs).length 1 ++ encS (tsY bs) = bs.take K := by
  have hs : isShort bs = false := by
    cases hs : isShort bs
    · rfl
    · rw [tsE, hs] at h; simp at h
  have hm : mayS (decW bs (cnt bs)) = true := by
    cases hm : mayS (decW bs (cnt bs))
    · rw [tsE, hs, hm] at h; simp at h
    · rfl
  have hok : tsOk bs = true := by rw [tsOk, hs, hm]; rfl
  have hy : tsY bs = decW bs (cnt bs) := by rw [tsY, hok]; rfl
  have hn : tsN bs = 1 + 2 * (cnt bs : Int) := by rw [tsN, hok]; rfl
  have hl : 1 + 2 * cnt bs ≤ bs.length ∧ 1 ≤ bs.length := by
    simp only [isShort, decide_eq_false_iff_not] at hs
    omega
  refine ⟨by rw [hy]; exact hm, 1 + 2 * cnt bs, by rw [hn]; omega, hl.1, by rw [hy, decW_len], ?_⟩
  rw [hy, decW_len, enc_dec bs hb _ hl.1]
  have hc : putB (cnt bs) 1 = bs.take 1 := by
    have hg := hb.get 0
    have h0 : ((cnt bs : Nat) : Int) = bs.getD 0 0 := by unfold cnt; omega
    rw [putB_one _ (by unfold cnt; omega), h0]
    cases bs with
    | nil => simp at hl
    | cons x l => simp
  rw [hc, List.take_add]

set_option maxHeartbeats 400000 in
theorem catsBack_long (a b d : Option Addr) (n cap m cap2 l cap3 : Nat) (cut : Int) (w : World) (h : 20 < m ∨ 80 < l) :
    Calls Try.prog 6 #[.slice a n cap, .slice b m cap2, .int .i64 cut, .slice d l cap3] w fun e w' => e = .returned (.bool true) ∧ Below w.heap.size w w' := by
  by_cases h1 : (m : Int) > 20
  · go_enter Try.func6, Try.ntmps6
    go_wp2_with fail
    refine (begun_true _).mono ?_
    rintro e w1 ⟨rfl, hb1⟩
    go_wp2_with fail
    go_ret
    exact ⟨rfl, hb1⟩
  · have h2 : (l : Int) > 80 := by omega
    have h3 : decide ((20 : Int) < m) = false := by simpa using h1
    go_enter Try.func6, Try.ntmps6
    go_wp2_with fail
    refine (begun_true _).mono ?_
    rintro e w1 ⟨rfl, hb1⟩
    go_wp2_with fail
    go_ret
    exact ⟨rfl, hb1⟩

set_option maxHeartbeats 8000000 in
theorem catsBack_walk (a b d : Option Addr) (n cap m cap2 l cap3 : Nat) (xs more bs : List Int) (cut : Int) (w : World) (hr : RowW w a n cap xs) (hs : Row w b m cap2 more) (ht : Row w d l cap3 bs) :
    Calls Try.prog 6 #[.slice a n cap, .slice b m cap2, .int .i64 cut, .slice d l cap3] w fun e w' => e = .returned (.bool true) ∧ Below w.heap.size w w' := by
  by_cases hlong : 20 < m ∨ 80 < l
  · exact catsBack_long a b d n cap m cap2 l cap3 cut w hlong
  have h20 : ¬ (m : Int) > 20 := by omega
  have h80 : ¬ (l : Int) > 80 := by omega
  have h20' : decide ((20 : Int) < m) = false := by simp; omega
  have h80' : decide ((80 : Int) < l) = false := by simp; omega
  have hcap := hr.cap_le
  obtain ⟨K, hK⟩ : ∃ K, K = min n 16 := ⟨_, rfl⟩
  have hK1 : K ≤ n := by omega
  have hK2 : K ≤ 16 := by omega
  have hmin : min (n : Int) 16 = (K : Int) := by omega
  have hK3 : (K : Int) ≤ (cap : Int) := by omega
  have hK4 : K ≤ cap := by omega
  clear hK
  go_enter Try.func6, Try.ntmps6
  go_wp2_with fail
  refine (begun_true _).mono ?_
  rintro e w1 ⟨rfl, b1⟩
  replace hr := hr.below b1
  replace hs := hs.below b1
  replace ht := ht.below b1
  go_wp2_with fail
  refine (make_all a K cap (xs.take K) _ (hr.pre K hK1) (by omega)).mono ?_
  rintro e w2 ⟨sa, na, ca, A, rfl, oa, b2, hA, mA, lA⟩
  have hlA := oa.1
  have HMAY : Hid (mayS A = true) := srt_may hA (by omega)
  have ra := oa.row
  replace hs := hs.below b2
  replace ht := ht.below b2
  replace b1 := ext_trans b1 b2
  clear oa b2 hr mA hmin hK3 hK4 hcap
  have HL : Hid (A.length = na) := hlA
  clear hlA
  go_wp2_with fail
  refine (putSet_any none sa 0 0 na ca [] A _ (Row.nil _) ra HMAY.out (by omega)).mono ?_
  rintro e w3 ⟨g3, c3, rfl, o3, b3⟩
  simp only [Nat.zero_add, List.nil_append] at o3
  have rw3 := o3.row
  replace ra := ra.below b3
  replace hs := hs.below b3
  replace ht := ht.below b3
  replace b1 := ext_trans b1 b3
  clear b3 o3
  have hna : na ≤ 16 := by omega
  obtain ⟨L, hL⟩ : ∃ L, L = 1 + 2 * na := ⟨_, rfl⟩
  have HLL : Hid (L = 1 + 2 * na) := hL
  have hL1 : 1 ≤ L := by omega
  have hL2 : L ≤ 40 := by omega
  rw [← hL] at rw3
  rw [Nat.zero_add, ← hL]
  clear hL
  have HTS : Hid (tsE (putB na 1 ++ encS A ++ more) = 0 ∧ tsN (putB na 1 ++ encS A ++ more) = (L : Int) ∧ tsY (putB na 1 ++ encS A ++ more) = A) := by
    have h := ts_ok A more ra.wrd HMAY.out
    have e0 : putB na 1 ++ encS A ++ more = (A.length : Int) :: (encS A ++ more) := by rw [putB_one _ (by omega), HL.out]; simp
    refine ⟨by rw [e0]; exact h.1, by rw [e0, h.2.1, HL.out, HLL.out]; omega, by rw [e0]; exact h.2.2⟩
  obtain ⟨Z, hZ⟩ : ∃ Z, Z = putB na 1 ++ encS A := ⟨_, rfl⟩
  have HZ : Hid (Z = putB na 1 ++ encS A) := hZ
  rw [← hZ] at rw3
  have hZl := rw3.len
  rw [← hZ] at HTS
  clear hZ
  have HZl : Hid (Z.length = L) := hZl
  clear hZl
  go_wp2_with (first | (at_builtin; refine wp_append_bytes _ rfl (.tmp 39) (.tmp 40) 31 rfl 5 Try.underlying31 info5 w3.heap.size w3.heap.size 0 0 [] rfl (own_lit w3 5 [] 0 rfl (by omega) Byt.nil) (some ⟨g3, 0, none⟩) L c3 Z rfl (rw3.below (below_alloc _ _)) (by omega) (by simp) w3 (below_alloc _ _) ?_; intro g4 c4 w4 hown4 hb4) | (at_builtin; refine wp_append_bytes _ rfl (.tmp 41) (.tmp 42) 31 rfl 5 Try.underlying31 info5 w3.heap.size g4 L c4 Z rfl (by simpa using hown4) b m cap2 more rfl (hs.below hb4) (by omega) hb4.size w3 hb4 ?_; intro g5 c5 w5 hown5 hb5))
  refine (takeSet_any _ _ _ _ _ hown5.row).mono ?_
  rintro e w6 ⟨sx, nx, cx, rfl, ox, b6⟩
  rw [HTS.out.1, HTS.out.2.1]
  rw [HTS.out.2.2] at ox
  replace b6 := ext_trans hb5 b6
  have rx := ox.row
  clear ox hown5 hb5 hown4 hb4 HTS hs
  replace ra := ra.below b6
  replace ht := ht.below b6
  replace rw3 := rw3.below b6
  replace b1 := ext_trans b1 b6
  clear b6
  go_wp2_with fail
  refine (place_any cut L _ (by omega)).mono ?_
  rintro e w7 ⟨q, rfl, hq, b7⟩
  replace ra := ra.below b7
  replace ht := ht.below b7
  replace rw3 := rw3.below b7
  replace rx := rx.below b7
  replace b1 := ext_trans b1 b7
  clear b7
  have hc3 := rw3.cap_le
  go_wp2_with fail
  refine (takeSet_any (some ⟨g3, 0, none⟩) q c3 (Z.take q) _ (rw3.pre q (by omega))).mono ?_
  rintro e w8 ⟨s8, n8, c8, rfl, o8, b8⟩
  have e8 : tsE (Z.take q) = 3 := by
    have h := ts_cut A (by rw [HL.out]; omega) q (by rw [HL.out]; have := HLL.out; omega)
    rw [HL.out, ← HZ.out] at h
    exact h
  rw [e8]
  generalize tsN (Z.take q) = N8
  replace ra := ra.below b8
  replace ht := ht.below b8
  replace rx := rx.below b8
  replace b1 := ext_trans b1 b8
  clear b8 o8 e8 rw3 hq hc3
  go_wp2_with fail
  refine (takeSet_any d l cap3 bs _ ht).mono ?_
  rintro e w9 ⟨sy, ny, cy, rfl, oy, b9⟩
  replace ra := ra.below b9
  replace ht := ht.below b9
  replace rx := rx.below b9
  replace b1 := ext_trans b1 b9
  have ry := oy.row
  clear b9 oy HZ HZl HLL
  have HST : Hid (∀ (W : World) (ao : Option Addr) (n c : Nat) (zs : List Int), Row W ao n c zs → (convert 31 9 (.slice ao n c)).run Try.prog W = .ok (.string (strOfNums zs)) W) := fun (W : World) (ao : Option Addr) (n c : Nat) (zs : List Int) (hrow : Row W ao n c zs) => run_str (P := Try.prog) W 31 9 5 Try.underlying31 Try.underlying5 Try.underlying9 ao n c zs hrow
  by_cases hE : tsE bs = 0
  · skip
    obtain ⟨hmy, K2, hN, hK2a, hK2b, hback⟩ := ts_back bs ht.byt hE
    have HB : Hid (putB (tsY bs).length 1 ++ encS (tsY bs) = bs.take K2) := hback
    have HMY : Hid (mayS (tsY bs) = true) := hmy
    have hyl := ry.len
    rw [hyl] at hK2b HB
    have hll := ht.len
    have hcap3 := ht.cap_le
    rw [hll] at hK2a
    have hq1 : (0 : Int) ≤ (K2 : Int) := by omega
    have hq2 : (K2 : Int) ≤ (l : Int) := by omega
    have hq3 : (K2 : Int) ≤ (cap3 : Int) := by omega
    have hq4 : K2 ≤ cap3 := by omega
    rw [hN, hE]
    have HY : Hid (K2 = 1 + 2 * ny) := hK2b
    clear hN hE hmy hback hyl hK2b
    go_wp2_with fail
    refine wp_region_noPanic ?_
    refine wp_region_held_drew (S := fun W => Row W d K2 cap3 (bs.take K2)) (by kernel_rfl) (ht.pre K2 (by omega)).drew fun hT => ?_
    refine take_to (i := 0) (v := ?_) 65 rfl rfl (by kernel_rfl) (by kernel_rfl) (by kernel_rfl) (fun _ _ _ h => h) (Or.inl ⟨by rfl, ?_⟩) hT ?_
    rotate_left
    · intro W hW
      go_simp
      try with_reducible rfl
    simp only [List.setIfInBounds_toArray, List.set_cons_zero, List.set_cons_succ]
    refine take_to (i := 1) (v := ?_) 66 rfl rfl (by kernel_rfl) (by kernel_rfl) (by kernel_rfl) (fun _ _ _ h => h) (Or.inl ⟨by rfl, ?_⟩) hT ?_
    rotate_left
    · intro W hW
      go_simp
      try with_reducible rfl
    simp only [List.setIfInBounds_toArray, List.set_cons_zero, List.set_cons_succ]
    refine take_to (i := 2) (v := ?_) 67 rfl rfl (by kernel_rfl) (by kernel_rfl) (by kernel_rfl) (fun _ _ _ h => h) (Or.inl ⟨by rfl, ?_⟩) hT ?_
    rotate_left
    · intro W hW
      go_simp
      try with_reducible rfl
    simp only [List.setIfInBounds_toArray, List.set_cons_zero, List.set_cons_succ]
    refine take_to (i := 3) (v := ?_) 68 rfl rfl (by kernel_rfl) (by kernel_rfl) (by kernel_rfl) (fun _ _ _ h => h) (Or.inl ⟨by rfl, ?_⟩) hT ?_
    rotate_left
    · intro W hW
      go_simp
      try with_reducible rfl
    simp only [List.setIfInBounds_toArray, List.set_cons_zero, List.set_cons_succ]
    refine take_to (i := 4) (v := ?_) 69 rfl rfl (by kernel_rfl) (by kernel_rfl) (by kernel_rfl) (fun _ _ _ h => h) (Or.inl ⟨by rfl, ?_⟩) hT ?_
    rotate_left
    · intro W hW
      go_simp
      try with_reducible rfl
    simp only [List.setIfInBounds_toArray, List.set_cons_zero, List.set_cons_succ]
    refine take_to (i := 5) (v := ?_) 70 rfl rfl (by kernel_rfl) (by kernel_rfl) (by kernel_rfl) (fun _ _ _ h => h) (Or.inl ⟨by rfl, ?_⟩) hT ?_
    rotate_left
    · intro W hW
      go_simp
      try with_reducible rfl
    simp only [List.setIfInBounds_toArray, List.set_cons_zero, List.set_cons_succ]
    refine take_to (i := 6) (v := ?_) 71 rfl rfl (by kernel_rfl) (by kernel_rfl) (by kernel_rfl) (fun _ _ _ h => h) (Or.inl ⟨by rfl, ?_⟩) hT ?_
    rotate_left
    · intro W hW
      go_simp
      try with_reducible rfl
    simp only [List.setIfInBounds_toArray, List.set_cons_zero, List.set_cons_succ]
    refine take_to (i := 7) (v := ?_) 72 rfl rfl (by kernel_rfl) (by kernel_rfl) (by kernel_rfl) (fun _ _ _ h => h) (Or.inl ⟨by rfl, ?_⟩) hT ?_
    rotate_left
    · intro W hW
      go_simp
      try with_reducible rfl
    simp only [List.setIfInBounds_toArray, List.set_cons_zero, List.set_cons_succ]
    refine take_to (i := 8) (v := ?_) 73 rfl rfl (by kernel_rfl) (by kernel_rfl) (by kernel_rfl) (fun _ _ _ h => h) (Or.inl ⟨by rfl, ?_⟩) hT ?_
    rotate_left
    · intro W hW
      go_simp
      try with_reducible rfl
    simp only [List.setIfInBounds_toArray, List.set_cons_zero, List.set_cons_succ]
    refine take_to (i := 9) (v := ?_) 74 rfl rfl (by kernel_rfl) (by kernel_rfl) (by kernel_rfl) (fun _ _ _ h => h) (Or.inl ⟨by rfl, ?_⟩) hT ?_
    rotate_left
    · intro W hW
      go_simp
      try with_reducible rfl
    simp only [List.setIfInBounds_toArray, List.set_cons_zero, List.set_cons_succ]
    refine take_to (i := 10) (v := ?_) 75 rfl rfl (by kernel_rfl) (by kernel_rfl) (by kernel_rfl) (fun _ _ _ h => h) (Or.inl ⟨by rfl, ?_⟩) hT ?_
    rotate_left
    · intro W hW
      go_simp
      try with_reducible rfl
    simp only [List.setIfInBounds_toArray, List.set_cons_zero, List.set_cons_succ]
    refine wpAnyH_ready (rs := [11]) (by kernel_rfl) (by simp) ?_
    refine AllReadyH.cons rfl (fun K hK => ?_) AllReadyH.nil
    go_simp
    refine (same_true sx nx cx A sa na ca A _ (rx.below (ext_drew _)) (ra.below (ext_drew _)) rfl).mono ?_
    rintro e w10 ⟨rfl, b10⟩
    refine hK.out _ _ (hT.below b10) fun hT => ?_
    clear hK K
    replace ht := ht.drew.below b10
    replace ry := (ry.below (ext_drew _)).below b10
    replace b1 := ext_trans (ext_trans b1 (ext_drew _)) b10
    clear rx ra
    refine take_to (i := 12) (v := ?_) 77 rfl rfl (by kernel_rfl) (by kernel_rfl) (by kernel_rfl) (fun _ _ _ h => h) (Or.inl ⟨by rfl, ?_⟩) hT ?_
    rotate_left
    · intro W hW
      go_simp
      try with_reducible rfl
    simp only [List.setIfInBounds_toArray, List.set_cons_zero, List.set_cons_succ]
    refine take_to (i := 13) (v := ?_) 78 rfl rfl (by kernel_rfl) (by kernel_rfl) (by kernel_rfl) (fun _ _ _ h => h) (Or.inl ⟨by rfl, ?_⟩) hT ?_
    rotate_left
    · intro W hW
      go_simp
      try with_reducible rfl
    simp only [List.setIfInBounds_toArray, List.set_cons_zero, List.set_cons_succ]
    refine take_to (i := 14) (v := ?_) 79 rfl rfl (by kernel_rfl) (by kernel_rfl) (by kernel_rfl) (fun _ _ _ h => h) (Or.inl ⟨by rfl, ?_⟩) hT ?_
    rotate_left
    · intro W hW
      go_simp
      try with_reducible rfl
    simp only [List.setIfInBounds_toArray, List.set_cons_zero, List.set_cons_succ]
    refine take_to (i := 15) (v := ?_) 80 rfl rfl (by kernel_rfl) (by kernel_rfl) (by kernel_rfl) (fun _ _ _ h => h) (Or.inl ⟨by rfl, ?_⟩) hT ?_
    rotate_left
    · intro W hW
      go_simp
      try with_reducible rfl
    simp only [List.setIfInBounds_toArray, List.set_cons_zero, List.set_cons_succ]
    refine take_to (i := 16) (v := ?_) 81 rfl rfl (by kernel_rfl) (by kernel_rfl) (by kernel_rfl) (fun _ _ _ h => h) (Or.inl ⟨by rfl, ?_⟩) hT ?_
    rotate_left
    · intro W hW
      go_simp
      try with_reducible rfl
    simp only [List.setIfInBounds_toArray, List.set_cons_zero, List.set_cons_succ]
    refine take_to (i := 17) (v := ?_) 82 rfl rfl (by kernel_rfl) (by kernel_rfl) (by kernel_rfl) (fun _ _ _ h => h) (Or.inl ⟨by rfl, ?_⟩) hT ?_
    rotate_left
    · intro W hW
      go_simp
      try with_reducible rfl
    simp only [List.setIfInBounds_toArray, List.set_cons_zero, List.set_cons_succ]
    refine take_to (i := 18) (v := ?_) 83 rfl rfl (by kernel_rfl) (by kernel_rfl) (by kernel_rfl) (fun _ _ _ h => h) (Or.inl ⟨by rfl, ?_⟩) hT ?_
    rotate_left
    · intro W hW
      go_simp
      try with_reducible rfl
    simp only [List.setIfInBounds_toArray, List.set_cons_zero, List.set_cons_succ]
    refine take_to (i := 19) (v := ?_) 84 rfl rfl (by kernel_rfl) (by kernel_rfl) (by kernel_rfl) (fun _ _ _ h => h) (Or.inl ⟨by rfl, ?_⟩) hT ?_
    rotate_left
    · intro W hW
      go_simp
      try with_reducible rfl
    simp only [List.setIfInBounds_toArray, List.set_cons_zero, List.set_cons_succ]
    refine take_to (i := 20) (v := ?_) 85 rfl rfl (by kernel_rfl) (by kernel_rfl) (by kernel_rfl) (fun _ _ _ h => h) (Or.inl ⟨by rfl, ?_⟩) hT ?_
    rotate_left
    · intro W hW
      go_simp
      try with_reducible rfl
    simp only [List.setIfInBounds_toArray, List.set_cons_zero, List.set_cons_succ]
    refine take_to (i := 21) (v := ?_) 86 rfl rfl (by kernel_rfl) (by kernel_rfl) (by kernel_rfl) (fun _ _ _ h => h) (Or.inl ⟨by rfl, ?_⟩) hT ?_
    rotate_left
    · intro W hW
      go_simp
      try with_reducible rfl
    simp only [List.setIfInBounds_toArray, List.set_cons_zero, List.set_cons_succ]
    refine take_to (i := 22) (v := ?_) 87 rfl rfl (by kernel_rfl) (by kernel_rfl) (by kernel_rfl) (fun _ _ _ h => h) (Or.inl ⟨by rfl, ?_⟩) hT ?_
    rotate_left
    · intro W hW
      go_simp
      try with_reducible rfl
    simp only [List.setIfInBounds_toArray, List.set_cons_zero, List.set_cons_succ]
    refine take_to (i := 23) (v := ?_) 88 rfl rfl (by kernel_rfl) (by kernel_rfl) (by kernel_rfl) (fun _ _ _ h => h) (Or.inl ⟨by rfl, ?_⟩) hT ?_
    rotate_left
    · intro W hW
      go_simp
      try with_reducible rfl
    simp only [List.setIfInBounds_toArray, List.set_cons_zero, List.set_cons_succ]
    refine take_to (i := 24) (v := ?_) 89 rfl rfl (by kernel_rfl) (by kernel_rfl) (by kernel_rfl) (fun _ _ _ h => h) (Or.inl ⟨by rfl, ?_⟩) hT ?_
    rotate_left
    · intro W hW
      go_simp
      try with_reducible rfl
    simp only [List.setIfInBounds_toArray, List.set_cons_zero, List.set_cons_succ]
    refine take_to (i := 25) (v := ?_) 90 rfl rfl (by kernel_rfl) (by kernel_rfl) (by kernel_rfl) (fun _ _ _ h => h) (Or.inl ⟨by rfl, ?_⟩) hT ?_
    rotate_left
    · intro W hW
      go_simp
      try with_reducible rfl
    simp only [List.setIfInBounds_toArray, List.set_cons_zero, List.set_cons_succ]
    refine take_to (i := 26) (v := ?_) 91 rfl rfl (by kernel_rfl) (by kernel_rfl) (by kernel_rfl) (fun _ _ _ h => h) (Or.inl ⟨by rfl, ?_⟩) hT ?_
    rotate_left
    · intro W hW
      go_simp
      try with_reducible rfl
    simp only [List.setIfInBounds_toArray, List.set_cons_zero, List.set_cons_succ]
    refine take_to (i := 27) (v := ?_) 92 rfl rfl (by kernel_rfl) (by kernel_rfl) (by kernel_rfl) (fun _ _ _ h => h) (Or.inl ⟨by rfl, ?_⟩) hT ?_
    rotate_left
    · intro W hW
      go_simp
      try with_reducible rfl
    simp only [List.setIfInBounds_toArray, List.set_cons_zero, List.set_cons_succ]
    refine take_to (i := 28) (v := ?_) 93 rfl rfl (by kernel_rfl) (by kernel_rfl) (by kernel_rfl) (fun _ _ _ h => h) (Or.inl ⟨by rfl, ?_⟩) hT ?_
    rotate_left
    · intro W hW
      go_simp
      try with_reducible rfl
    simp only [List.setIfInBounds_toArray, List.set_cons_zero, List.set_cons_succ]
    refine take_to (i := 29) (v := ?_) 94 rfl rfl (by kernel_rfl) (by kernel_rfl) (by kernel_rfl) (fun _ _ _ h => h) (Or.inl ⟨by rfl, ?_⟩) hT ?_
    rotate_left
    · intro W hW
      go_simp
      try with_reducible rfl
    simp only [List.setIfInBounds_toArray, List.set_cons_zero, List.set_cons_succ]
    refine take_to (i := 30) (v := ?_) 95 rfl rfl (by kernel_rfl) (by kernel_rfl) (by kernel_rfl) (fun _ _ _ h => h) (Or.inl ⟨by rfl, ?_⟩) hT ?_
    rotate_left
    · intro W hW
      go_simp
      try with_reducible rfl
    simp only [List.setIfInBounds_toArray, List.set_cons_zero, List.set_cons_succ]
    refine take_to (i := 33) (v := ?_) 98 rfl rfl (by kernel_rfl) (by kernel_rfl) (by kernel_rfl) (fun _ _ _ h => h) (Or.inl ⟨by rfl, ?_⟩) hT ?_
    rotate_left
    · intro W hW
      go_simp
      try with_reducible rfl
    simp only [List.setIfInBounds_toArray, List.set_cons_zero, List.set_cons_succ]
    refine take_to (i := 34) (v := ?_) 99 rfl rfl (by kernel_rfl) (by kernel_rfl) (by kernel_rfl) (fun _ _ _ h => h) (Or.inl ⟨by rfl, ?_⟩) hT ?_
    rotate_left
    · intro W hW
      go_simp
      try with_reducible rfl
    simp only [List.setIfInBounds_toArray, List.set_cons_zero, List.set_cons_succ]
    refine take_to (i := 35) (v := ?_) 100 rfl rfl (by kernel_rfl) (by kernel_rfl) (by kernel_rfl) (fun _ _ _ h => h) (Or.inl ⟨by rfl, ?_⟩) hT ?_
    rotate_left
    · intro W hW
      go_simp
      try with_reducible rfl
    simp only [List.setIfInBounds_toArray, List.set_cons_zero, List.set_cons_succ]
    refine take_to (i := 36) (v := ?_) 101 rfl rfl (by kernel_rfl) (by kernel_rfl) (by kernel_rfl) (fun _ _ _ h => h) (Or.inl ⟨by rfl, ?_⟩) hT ?_
    rotate_left
    · intro W hW
      have hc := HST.out W _ _ _ _ hW
      go_simp
      try with_reducible rfl
    simp only [List.setIfInBounds_toArray, List.set_cons_zero, List.set_cons_succ]
    refine wpAnyH_ready (rs := [31]) (by kernel_rfl) (by simp) ?_
    refine AllReadyH.cons rfl (fun K hK => ?_) AllReadyH.nil
    go_simp
    refine (putSet_any none sy 0 0 ny cy [] _ _ (Row.nil _) ry HMY.out (by omega)).mono ?_
    rintro e w11 ⟨g11, c11, rfl, o11, b11⟩
    simp only [Nat.zero_add, List.nil_append] at o11
    rw [HB.out, ← HY.out] at o11
    rw [Nat.zero_add, ← HY.out]
    refine hK.out _ _ (hT.below b11) fun hT => ?_
    clear hK K
    replace ht := ht.below b11
    replace b1 := ext_trans b1 b11
    refine wpAnyH_more (S' := fun W => Row W (some ⟨g11, 0, none⟩) K2 c11 (bs.take K2) ∧ Row W d K2 cap3 (bs.take K2)) (fun _ h => h.2) _ _ _ _ ?_
    have hS : (fun W => Row W (some ⟨g11, 0, none⟩) K2 c11 (bs.take K2) ∧ Row W d K2 cap3 (bs.take K2)) w11 := ⟨o11.row, ht.pre K2 (by omega)⟩
    clear o11 b11
    refine take_to (i := 32) (v := ?_) 97 rfl rfl (by kernel_rfl) (by kernel_rfl) (by kernel_rfl) (fun _ _ _ h => h) (Or.inl ⟨by rfl, ?_⟩) hS ?_
    rotate_left
    · intro W hW
      have hc := HST.out W _ _ _ _ hW.1
      go_simp
      try with_reducible rfl
    simp only [List.setIfInBounds_toArray, List.set_cons_zero, List.set_cons_succ]
    refine take_to (i := 37) (v := ?_) 102 rfl rfl (by kernel_rfl) (by kernel_rfl) (by kernel_rfl) (fun _ _ _ h => h) (Or.inl ⟨by rfl, ?_⟩) hS ?_
    rotate_left
    · intro W hW
      go_simp
      try with_reducible rfl
    simp only [List.setIfInBounds_toArray, List.set_cons_zero, List.set_cons_succ]
    refine take_to (i := 38) (v := ?_) 103 rfl rfl (by kernel_rfl) (by kernel_rfl) (by kernel_rfl) (fun _ _ _ h => h) (Or.inl ⟨by rfl, ?_⟩) hS ?_
    rotate_left
    · intro W hW
      go_simp
      try with_reducible rfl
    simp only [List.setIfInBounds_toArray, List.set_cons_zero, List.set_cons_succ]
    refine take_to (i := 39) (v := ?_) 104 rfl rfl (by kernel_rfl) (by kernel_rfl) (by kernel_rfl) (fun _ _ _ h => h) (Or.inl ⟨by rfl, ?_⟩) hS ?_
    rotate_left
    · intro W hW
      go_simp
      try with_reducible rfl
    simp only [List.setIfInBounds_toArray, List.set_cons_zero, List.set_cons_succ]
    refine take_to (i := 40) (v := ?_) 105 rfl rfl (by kernel_rfl) (by kernel_rfl) (by kernel_rfl) (fun _ _ _ h => h) (Or.inl ⟨by rfl, ?_⟩) hS ?_
    rotate_left
    · intro W hW
      go_simp
      try with_reducible rfl
    simp only [List.setIfInBounds_toArray, List.set_cons_zero, List.set_cons_succ]
    refine take_to (i := 41) (v := ?_) 8 rfl rfl (by kernel_rfl) (by kernel_rfl) (by kernel_rfl) (fun _ _ _ h => h) (Or.inl ⟨by rfl, ?_⟩) hS ?_
    rotate_left
    · intro W hW
      go_simp
      try with_reducible rfl
    simp only [List.setIfInBounds_toArray, List.set_cons_zero, List.set_cons_succ]
    refine wpAnyH_done (by kernel_rfl) ?_ _
    refine NoPanic.normal ?_
    go_wp2_with fail
    go_ret
    exact ⟨rfl, b1⟩
  · skip
    have hE2 : (tsE bs == 0) = false := by simp [hE]
    obtain ⟨E, hEE⟩ : ∃ E, E = tsE bs := ⟨_, rfl⟩
    rw [← hEE] at hE hE2 ⊢
    generalize tsN bs = TN
    have hE3 : (E != 0) = true := by simp [hE]
    clear hEE HST
    go_wp2_with fail
    refine wp_region_noPanic ?_
    refine wp_region_held_drew (S := fun _ => True) (by kernel_rfl) trivial fun hT => ?_
    refine take_to (i := 0) (v := ?_) 65 rfl rfl (by kernel_rfl) (by kernel_rfl) (by kernel_rfl) (fun _ _ _ h => h) (Or.inl ⟨by rfl, ?_⟩) hT ?_
    rotate_left
    · intro W hW
      go_simp
      try with_reducible rfl
    simp only [List.setIfInBounds_toArray, List.set_cons_zero, List.set_cons_succ]
    refine take_to (i := 1) (v := ?_) 66 rfl rfl (by kernel_rfl) (by kernel_rfl) (by kernel_rfl) (fun _ _ _ h => h) (Or.inl ⟨by rfl, ?_⟩) hT ?_
    rotate_left
    · intro W hW
      go_simp
      try with_reducible rfl
    simp only [List.setIfInBounds_toArray, List.set_cons_zero, List.set_cons_succ]
    refine take_to (i := 2) (v := ?_) 67 rfl rfl (by kernel_rfl) (by kernel_rfl) (by kernel_rfl) (fun _ _ _ h => h) (Or.inl ⟨by rfl, ?_⟩) hT ?_
    rotate_left
    · intro W hW
      go_simp
      try with_reducible rfl
    simp only [List.setIfInBounds_toArray, List.set_cons_zero, List.set_cons_succ]
    refine take_to (i := 3) (v := ?_) 68 rfl rfl (by kernel_rfl) (by kernel_rfl) (by kernel_rfl) (fun _ _ _ h => h) (Or.inl ⟨by rfl, ?_⟩) hT ?_
    rotate_left
    · intro W hW
      go_simp
      try with_reducible rfl
    simp only [List.setIfInBounds_toArray, List.set_cons_zero, List.set_cons_succ]
    refine take_to (i := 4) (v := ?_) 69 rfl rfl (by kernel_rfl) (by kernel_rfl) (by kernel_rfl) (fun _ _ _ h => h) (Or.inl ⟨by rfl, ?_⟩) hT ?_
    rotate_left
    · intro W hW
      go_simp
      try with_reducible rfl
    simp only [List.setIfInBounds_toArray, List.set_cons_zero, List.set_cons_succ]
    refine take_to (i := 5) (v := ?_) 70 rfl rfl (by kernel_rfl) (by kernel_rfl) (by kernel_rfl) (fun _ _ _ h => h) (Or.inl ⟨by rfl, ?_⟩) hT ?_
    rotate_left
    · intro W hW
      go_simp
      try with_reducible rfl
    simp only [List.setIfInBounds_toArray, List.set_cons_zero, List.set_cons_succ]
    refine take_to (i := 6) (v := ?_) 71 rfl rfl (by kernel_rfl) (by kernel_rfl) (by kernel_rfl) (fun _ _ _ h => h) (Or.inl ⟨by rfl, ?_⟩) hT ?_
    rotate_left
    · intro W hW
      go_simp
      try with_reducible rfl
    simp only [List.setIfInBounds_toArray, List.set_cons_zero, List.set_cons_succ]
    refine take_to (i := 7) (v := ?_) 72 rfl rfl (by kernel_rfl) (by kernel_rfl) (by kernel_rfl) (fun _ _ _ h => h) (Or.inl ⟨by rfl, ?_⟩) hT ?_
    rotate_left
    · intro W hW
      go_simp
      try with_reducible rfl
    simp only [List.setIfInBounds_toArray, List.set_cons_zero, List.set_cons_succ]
    refine take_to (i := 8) (v := ?_) 73 rfl rfl (by kernel_rfl) (by kernel_rfl) (by kernel_rfl) (fun _ _ _ h => h) (Or.inl ⟨by rfl, ?_⟩) hT ?_
    rotate_left
    · intro W hW
      go_simp
      try with_reducible rfl
    simp only [List.setIfInBounds_toArray, List.set_cons_zero, List.set_cons_succ]
    refine take_to (i := 9) (v := ?_) 74 rfl rfl (by kernel_rfl) (by kernel_rfl) (by kernel_rfl) (fun _ _ _ h => h) (Or.inl ⟨by rfl, ?_⟩) hT ?_
    rotate_left
    · intro W hW
      go_simp
      try with_reducible rfl
    simp only [List.setIfInBounds_toArray, List.set_cons_zero, List.set_cons_succ]
    refine take_to (i := 10) (v := ?_) 75 rfl rfl (by kernel_rfl) (by kernel_rfl) (by kernel_rfl) (fun _ _ _ h => h) (Or.inl ⟨by rfl, ?_⟩) hT ?_
    rotate_left
    · intro W hW
      go_simp
      try with_reducible rfl
    simp only [List.setIfInBounds_toArray, List.set_cons_zero, List.set_cons_succ]
    refine wpAnyH_ready (rs := [11]) (by kernel_rfl) (by simp) ?_
    refine AllReadyH.cons rfl (fun K hK => ?_) AllReadyH.nil
    go_simp
    refine (same_true sx nx cx A sa na ca A _ (rx.below (ext_drew _)) (ra.below (ext_drew _)) rfl).mono ?_
    rintro e w10 ⟨rfl, b10⟩
    refine hK.out _ _ trivial fun hT => ?_
    clear hK K
    replace ht := ht.drew.below b10
    replace ry := (ry.below (ext_drew _)).below b10
    replace b1 := ext_trans (ext_trans b1 (ext_drew _)) b10
    clear rx ra
    refine take_to (i := 12) (v := ?_) 77 rfl rfl (by kernel_rfl) (by kernel_rfl) (by kernel_rfl) (fun _ _ _ h => h) (Or.inl ⟨by rfl, ?_⟩) hT ?_
    rotate_left
    · intro W hW
      go_simp
      try with_reducible rfl
    simp only [List.setIfInBounds_toArray, List.set_cons_zero, List.set_cons_succ]
    refine take_to (i := 13) (v := ?_) 78 rfl rfl (by kernel_rfl) (by kernel_rfl) (by kernel_rfl) (fun _ _ _ h => h) (Or.inl ⟨by rfl, ?_⟩) hT ?_
    rotate_left
    · intro W hW
      go_simp
      try with_reducible rfl
    simp only [List.setIfInBounds_toArray, List.set_cons_zero, List.set_cons_succ]
    refine take_to (i := 14) (v := ?_) 79 rfl rfl (by kernel_rfl) (by kernel_rfl) (by kernel_rfl) (fun _ _ _ h => h) (Or.inl ⟨by rfl, ?_⟩) hT ?_
    rotate_left
    · intro W hW
      go_simp
      try with_reducible rfl
    simp only [List.setIfInBounds_toArray, List.set_cons_zero, List.set_cons_succ]
    refine take_to (i := 15) (v := ?_) 80 rfl rfl (by kernel_rfl) (by kernel_rfl) (by kernel_rfl) (fun _ _ _ h => h) (Or.inl ⟨by rfl, ?_⟩) hT ?_
    rotate_left
    · intro W hW
      go_simp
      try with_reducible rfl
    simp only [List.setIfInBounds_toArray, List.set_cons_zero, List.set_cons_succ]
    refine take_to (i := 16) (v := ?_) 81 rfl rfl (by kernel_rfl) (by kernel_rfl) (by kernel_rfl) (fun _ _ _ h => h) (Or.inl ⟨by rfl, ?_⟩) hT ?_
    rotate_left
    · intro W hW
      go_simp
      try with_reducible rfl
    simp only [List.setIfInBounds_toArray, List.set_cons_zero, List.set_cons_succ]
    refine take_to (i := 17) (v := ?_) 82 rfl rfl (by kernel_rfl) (by kernel_rfl) (by kernel_rfl) (fun _ _ _ h => h) (Or.inl ⟨by rfl, ?_⟩) hT ?_
    rotate_left
    · intro W hW
      go_simp
      try with_reducible rfl
    simp only [List.setIfInBounds_toArray, List.set_cons_zero, List.set_cons_succ]
    refine take_to (i := 18) (v := ?_) 83 rfl rfl (by kernel_rfl) (by kernel_rfl) (by kernel_rfl) (fun _ _ _ h => h) (Or.inl ⟨by rfl, ?_⟩) hT ?_
    rotate_left
    · intro W hW
      go_simp
      try with_reducible rfl
    simp only [List.setIfInBounds_toArray, List.set_cons_zero, List.set_cons_succ]
    refine take_to (i := 19) (v := ?_) 84 rfl rfl (by kernel_rfl) (by kernel_rfl) (by kernel_rfl) (fun _ _ _ h => h) (Or.inl ⟨by rfl, ?_⟩) hT ?_
    rotate_left
    · intro W hW
      go_simp
      try with_reducible rfl
    simp only [List.setIfInBounds_toArray, List.set_cons_zero, List.set_cons_succ]
    refine take_to (i := 20) (v := ?_) 85 rfl rfl (by kernel_rfl) (by kernel_rfl) (by kernel_rfl) (fun _ _ _ h => h) (Or.inl ⟨by rfl, ?_⟩) hT ?_
    rotate_left
    · intro W hW
      go_simp
      try with_reducible rfl
    simp only [List.setIfInBounds_toArray, List.set_cons_zero, List.set_cons_succ]
    refine take_to (i := 21) (v := _) 86 rfl rfl (by kernel_rfl) (by kernel_rfl) (by kernel_rfl) (fun _ _ _ h => h) (Or.inr ⟨by rfl, rfl⟩) hT ?_
    simp only [List.setIfInBounds_toArray, List.set_cons_zero, List.set_cons_succ]
    refine take_to (i := 22) (v := _) 87 rfl rfl (by kernel_rfl) (by kernel_rfl) (by kernel_rfl) (fun _ _ _ h => h) (Or.inr ⟨by rfl, rfl⟩) hT ?_
    simp only [List.setIfInBounds_toArray, List.set_cons_zero, List.set_cons_succ]
    refine take_to (i := 23) (v := _) 88 rfl rfl (by kernel_rfl) (by kernel_rfl) (by kernel_rfl) (fun _ _ _ h => h) (Or.inr ⟨by rfl, rfl⟩) hT ?_
    simp only [List.setIfInBounds_toArray, List.set_cons_zero, List.set_cons_succ]
    refine take_to (i := 24) (v := _) 89 rfl rfl (by kernel_rfl) (by kernel_rfl) (by kernel_rfl) (fun _ _ _ h => h) (Or.inr ⟨by rfl, rfl⟩) hT ?_
    simp only [List.setIfInBounds_toArray, List.set_cons_zero, List.set_cons_succ]
    refine take_to (i := 25) (v := _) 90 rfl rfl (by kernel_rfl) (by kernel_rfl) (by kernel_rfl) (fun _ _ _ h => h) (Or.inr ⟨by rfl, rfl⟩) hT ?_
    simp only [List.setIfInBounds_toArray, List.set_cons_zero, List.set_cons_succ]
    refine take_to (i := 26) (v := _) 91 rfl rfl (by kernel_rfl) (by kernel_rfl) (by kernel_rfl) (fun _ _ _ h => h) (Or.inr ⟨by rfl, rfl⟩) hT ?_
    simp only [List.setIfInBounds_toArray, List.set_cons_zero, List.set_cons_succ]
    refine take_to (i := 27) (v := _) 92 rfl rfl (by kernel_rfl) (by kernel_rfl) (by kernel_rfl) (fun _ _ _ h => h) (Or.inr ⟨by rfl, rfl⟩) hT ?_
    simp only [List.setIfInBounds_toArray, List.set_cons_zero, List.set_cons_succ]
    refine take_to (i := 28) (v := _) 93 rfl rfl (by kernel_rfl) (by kernel_rfl) (by kernel_rfl) (fun _ _ _ h => h) (Or.inr ⟨by rfl, rfl⟩) hT ?_
    simp only [List.setIfInBounds_toArray, List.set_cons_zero, List.set_cons_succ]
    refine take_to (i := 29) (v := _) 94 rfl rfl (by kernel_rfl) (by kernel_rfl) (by kernel_rfl) (fun _ _ _ h => h) (Or.inr ⟨by rfl, rfl⟩) hT ?_
    simp only [List.setIfInBounds_toArray, List.set_cons_zero, List.set_cons_succ]
    refine take_to (i := 30) (v := _) 95 rfl rfl (by kernel_rfl) (by kernel_rfl) (by kernel_rfl) (fun _ _ _ h => h) (Or.inr ⟨by rfl, rfl⟩) hT ?_
    simp only [List.setIfInBounds_toArray, List.set_cons_zero, List.set_cons_succ]
    refine take_to (i := 31) (v := _) 96 rfl rfl (by kernel_rfl) (by kernel_rfl) (by kernel_rfl) (fun _ _ _ h => h) (Or.inr ⟨by rfl, rfl⟩) hT ?_
    simp only [List.setIfInBounds_toArray, List.set_cons_zero, List.set_cons_succ]
    refine take_to (i := 32) (v := _) 97 rfl rfl (by kernel_rfl) (by kernel_rfl) (by kernel_rfl) (fun _ _ _ h => h) (Or.inr ⟨by rfl, rfl⟩) hT ?_
    simp only [List.setIfInBounds_toArray, List.set_cons_zero, List.set_cons_succ]
    refine take_to (i := 33) (v := _) 98 rfl rfl (by kernel_rfl) (by kernel_rfl) (by kernel_rfl) (fun _ _ _ h => h) (Or.inr ⟨by rfl, rfl⟩) hT ?_
    simp only [List.setIfInBounds_toArray, List.set_cons_zero, List.set_cons_succ]
    refine take_to (i := 34) (v := _) 99 rfl rfl (by kernel_rfl) (by kernel_rfl) (by kernel_rfl) (fun _ _ _ h => h) (Or.inr ⟨by rfl, rfl⟩) hT ?_
    simp only [List.setIfInBounds_toArray, List.set_cons_zero, List.set_cons_succ]
    refine take_to (i := 35) (v := _) 100 rfl rfl (by kernel_rfl) (by kernel_rfl) (by kernel_rfl) (fun _ _ _ h => h) (Or.inr ⟨by rfl, rfl⟩) hT ?_
    simp only [List.setIfInBounds_toArray, List.set_cons_zero, List.set_cons_succ]
    refine take_to (i := 36) (v := _) 101 rfl rfl (by kernel_rfl) (by kernel_rfl) (by kernel_rfl) (fun _ _ _ h => h) (Or.inr ⟨by rfl, rfl⟩) hT ?_
    simp only [List.setIfInBounds_toArray, List.set_cons_zero, List.set_cons_succ]
    refine take_to (i := 37) (v := _) 102 rfl rfl (by kernel_rfl) (by kernel_rfl) (by kernel_rfl) (fun _ _ _ h => h) (Or.inr ⟨by rfl, rfl⟩) hT ?_
    simp only [List.setIfInBounds_toArray, List.set_cons_zero, List.set_cons_succ]
    refine take_to (i := 38) (v := _) 103 rfl rfl (by kernel_rfl) (by kernel_rfl) (by kernel_rfl) (fun _ _ _ h => h) (Or.inr ⟨by rfl, rfl⟩) hT ?_
    simp only [List.setIfInBounds_toArray, List.set_cons_zero, List.set_cons_succ]
    refine take_to (i := 39) (v := ?_) 104 rfl rfl (by kernel_rfl) (by kernel_rfl) (by kernel_rfl) (fun _ _ _ h => h) (Or.inl ⟨by rfl, ?_⟩) hT ?_
    rotate_left
    · intro W hW
      go_simp
      try with_reducible rfl
    simp only [List.setIfInBounds_toArray, List.set_cons_zero, List.set_cons_succ]
    refine take_to (i := 40) (v := ?_) 105 rfl rfl (by kernel_rfl) (by kernel_rfl) (by kernel_rfl) (fun _ _ _ h => h) (Or.inl ⟨by rfl, ?_⟩) hT ?_
    rotate_left
    · intro W hW
      go_simp
      try with_reducible rfl
    simp only [List.setIfInBounds_toArray, List.set_cons_zero, List.set_cons_succ]
    refine take_to (i := 41) (v := ?_) 8 rfl rfl (by kernel_rfl) (by kernel_rfl) (by kernel_rfl) (fun _ _ _ h => h) (Or.inl ⟨by rfl, ?_⟩) hT ?_
    rotate_left
    · intro W hW
      go_simp
      try with_reducible rfl
    simp only [List.setIfInBounds_toArray, List.set_cons_zero, List.set_cons_succ]
    refine wpAnyH_done (by kernel_rfl) ?_ _
    refine NoPanic.normal ?_
    go_wp2_with fail
    go_ret
    exact ⟨rfl, b1⟩
end Go.Proofs.Ytpajojkhpnklfaa
