/- What the library's merge of two sorted blocks of pairs does: a contract. -/
import Derived.Test.YtgpndbfefbdibaaSymTail
namespace Go.Proofs.Ytgpndbfefbdibaa
open Go.RowKit
set_option linter.unusedVariables false


set_option maxHeartbeats 4000000 in
set_option maxRecDepth 100000 in
theorem symM_gen (L : Nat) (ih : SymOK L) (g n cap B a m b : Nat) (P X Y Q : List (Int × Int)) (w : World) (hown : OwnG PE 29 w B (some ⟨g, 0, none⟩) n cap (P ++ X ++ Y ++ Q)) (hX : Nd X) (hY : Nd Y) (hP : Hid (P.length = a ∧ a + X.length = m ∧ m + Y.length = b)) (hx2 : 2 ≤ X.length) (hy2 : 2 ≤ Y.length) (hL : X.length + Y.length ≤ L + 1) (hsz : n ≤ 1000000) :
    Calls Try.prog 64 #[.slice (some ⟨g, 0, none⟩) n cap, .int .i64 a, .int .i64 m, .int .i64 b, .func (.func 37) #[] #[]] w fun e w' => e = .returned (.tuple #[]) ∧ ∃ M, OwnG PE 29 w' B (some ⟨g, 0, none⟩) n cap (P ++ M ++ Q) ∧ StEq M (X ++ Y) ∧ Nd M ∧ M.length = X.length + Y.length ∧ w.grownBy w' (some g) := by
  have IH : Hid (SymOK L) := ih
  clear ih
  obtain ⟨Z, hZ⟩ : ∃ Z, Z = P ++ X ++ Y ++ Q := ⟨_, rfl⟩
  rw [← hZ] at hown
  have hln : Hid (Z.length = n ∧ P.length + X.length + Y.length + Q.length = n) := by
    have h1 := hown.1
    have h3 : Z.length = P.length + X.length + Y.length + Q.length := by rw [hZ]; simp; omega
    show _ ∧ _
    omega
  have ham : a + 2 ≤ m := by have := hP.out; omega
  have hmb : m + 2 ≤ b := by have := hP.out; omega
  have hbn : b ≤ n := by have h1 := hP.out; have h2 := hln.out; omega
  have HND : Hid (Nd X ∧ Nd Y ∧ X.length + Y.length ≤ L + 1 ∧ 2 ≤ X.length ∧ 2 ≤ Y.length) := ⟨hX, hY, hL, hx2, hy2⟩
  have hZ' : Hid (Z = P ++ X ++ Y ++ Q) := hZ
  clear hX hY hL hx2 hy2 hZ
  obtain ⟨lx, hlx⟩ : ∃ z, z = m - a := ⟨_, rfl⟩
  obtain ⟨ly, hly⟩ : ∃ z, z = b - m := ⟨_, rfl⟩
  obtain ⟨ab, hab⟩ : ∃ z, z = a + b := ⟨_, rfl⟩
  obtain ⟨mid, hmid⟩ : ∃ z, z = (a + b) / 2 := ⟨_, rfl⟩
  obtain ⟨nn, hnn⟩ : ∃ z, z = mid + m := ⟨_, rfl⟩
  obtain ⟨pp, hpp⟩ : ∃ z, z = nn - 1 := ⟨_, rfl⟩
  have q1 : (m : Int) - (a : Int) = (lx : Int) := by omega
  have q2 : (b : Int) - (m : Int) = (ly : Int) := by omega
  have q3 : (a : Int) + (b : Int) = (ab : Int) := by omega
  have q4 : (ab : Int) / 2 = (mid : Int) := by omega
  have q5 : (mid : Int) + (m : Int) = (nn : Int) := by omega
  have q6 : (nn : Int) - 1 = (pp : Int) := by omega
  have b1 : ((lx : Int) == 1) = false := by simp; omega
  have b2 : ((ly : Int) == 1) = false := by simp; omega
  have b3 : lx ≤ n ∧ ly ≤ n ∧ ab ≤ 2 * n ∧ mid ≤ n ∧ nn ≤ 2 * n ∧ pp ≤ 2 * n := by omega
  have HM : Hid (mid = (a + b) / 2 ∧ nn = mid + m ∧ pp + 1 = nn) := by show _ ∧ _ ∧ _; omega
  have hmid1 : a < mid ∧ mid < b := by omega
  clear hmid hnn hab hlx hly hpp
  have hkX : Hid (∀ s t, a ≤ s → s ≤ t → t < m → kz Z s ≤ kz Z t) := fun s t h1 h2 h3 => by
    rw [hZ'.out, List.append_assoc (P ++ X)]
    have h4 := hP.out
    exact kz_seg P X (Y ++ Q) HND.out.1 s t (by omega) h2 (by omega)
  have hkY : Hid (∀ s t, m ≤ s → s ≤ t → t < b → kz Z s ≤ kz Z t) := fun s t h1 h2 h3 => by
    rw [hZ'.out]
    have h4 := hP.out
    exact kz_seg (P ++ X) Y Q HND.out.2.1 s t (by rw [List.length_append]; omega) h2 (by rw [List.length_append]; omega)
  by_cases hmm : mid < m
  · have p0 : (mid : Int) < (m : Int) := by omega
    obtain ⟨lo, hlo⟩ : ∃ z, z = nn - b := ⟨_, rfl⟩
    have q7 : (nn : Int) - (b : Int) = (lo : Int) := by have := HM.out; omega
    have HLH : Hid (lo = a ∧ mid = m ∧ m ≤ mid ∨ lo + b = mid + m ∧ mid = mid ∧ mid < m) := by have := HM.out; show _ ∨ _; omega
    have hlon : lo ≤ n := by omega
    clear hlo
    go_enter Try.func64, Try.ntmps64
    go_wp2_with fail
    rename_i K hK
    have CL : Hid (∀ (ac : Act) (V : World) (s : Nat), ac = { tmps := #[.slice (some ⟨g, 0, none⟩) n cap, .int .i64 a, .int .i64 m, .int .i64 b, .func (.func 37) #[] #[], sl ac 5, sl ac 6, sl ac 7, sl ac 8, sl ac 9, sl ac 10, sl ac 11, sl ac 12, sl ac 13, sl ac 14, sl ac 15, sl ac 16, sl ac 17, .int .i64 mid, .int .i64 nn, .int .i64 s, sl ac 21, sl ac 22, sl ac 23, sl ac 24, sl ac 25, sl ac 26, sl ac 27, sl ac 28, sl ac 29, sl ac 30, sl ac 31, sl ac 32, sl ac 33, sl ac 34, sl ac 35, sl ac 36, sl ac 37, sl ac 38, sl ac 39, sl ac 40, sl ac 41, sl ac 42, sl ac 43, sl ac 44, sl ac 45, sl ac 46, sl ac 47, sl ac 48, sl ac 49, sl ac 50, sl ac 51, sl ac 52, sl ac 53, sl ac 54, sl ac 55, sl ac 56, sl ac 57, sl ac 58, sl ac 59, sl ac 60, sl ac 61, sl ac 62, sl ac 63, sl ac 64, sl ac 65, sl ac 66, sl ac 67, sl ac 68, sl ac 69, sl ac 70, sl ac 71, sl ac 72, sl ac 73, sl ac 74, sl ac 75, sl ac 76, sl ac 77, sl ac 78, sl ac 79, sl ac 80, sl ac 81, sl ac 82, sl ac 83, sl ac 84, sl ac 85, sl ac 86, sl ac 87, sl ac 88, sl ac 89, sl ac 90, sl ac 91, sl ac 92, sl ac 93, sl ac 94, sl ac 95, sl ac 96, sl ac 97, sl ac 98, sl ac 99, sl ac 100, sl ac 101, sl ac 102, sl ac 103, sl ac 104, sl ac 105, sl ac 106, sl ac 107, sl ac 108, sl ac 109, sl ac 110, sl ac 111, sl ac 112, sl ac 113, sl ac 114, sl ac 115, sl ac 116, sl ac 117, sl ac 118, sl ac 119, sl ac 120, sl ac 121, sl ac 122, sl ac 123, sl ac 124, sl ac 125, sl ac 126, sl ac 127, sl ac 128, sl ac 129, sl ac 130, sl ac 131, sl ac 132, sl ac 133, sl ac 134, sl ac 135, sl ac 136, sl ac 137, sl ac 138, sl ac 139, sl ac 140, sl ac 141, sl ac 142, sl ac 143, sl ac 144, sl ac 145, sl ac 146, sl ac 147, sl ac 148, sl ac 149, sl ac 150, sl ac 151, sl ac 152, sl ac 153, sl ac 154, sl ac 155, sl ac 156, sl ac 157, sl ac 158, sl ac 159, sl ac 160, sl ac 161, sl ac 162, sl ac 163, sl ac 164, sl ac 165, sl ac 166, sl ac 167, sl ac 168, sl ac 169, sl ac 170, sl ac 171, sl ac 172, sl ac 173, sl ac 174, sl ac 175, sl ac 176, sl ac 177, sl ac 178, sl ac 179, sl ac 180, sl ac 181, sl ac 182, sl ac 183, sl ac 184, sl ac 185, sl ac 186, sl ac 187, sl ac 188, sl ac 189, sl ac 190, sl ac 191, sl ac 192, sl ac 193, sl ac 194, sl ac 195, sl ac 196, sl ac 197, sl ac 198, sl ac 199, sl ac 200, sl ac 201, sl ac 202, sl ac 203, sl ac 204, sl ac 205, sl ac 206, sl ac 207, sl ac 208, sl ac 209, sl ac 210, sl ac 211, sl ac 212, sl ac 213, sl ac 214, sl ac 215, sl ac 216, sl ac 217, sl ac 218, sl ac 219], defers := [] } → (lo ≤ s ∧ s ≤ mid) → (∀ t, lo ≤ t → t < s → kz Z t ≤ kz Z (pp - t)) → (∀ t, s ≤ t → t < mid → kz Z (pp - t) < kz Z t) → OwnG PE 29 V B (some ⟨g, 0, none⟩) n cap (Z) → w.grownBy V (some g) → K ac V) := by
      intro ac V s hact hs hlo hhi ho hgr
      generalize sl ac = u at hact
      subst hact
      refine hK _ _ ?_
      clear hK
      obtain ⟨e, he⟩ : ∃ z, z = nn - s := ⟨_, rfl⟩
      have r1 : (nn : Int) - (s : Int) = (e : Int) := by have := HM.out; omega
      have HSE : Hid (a ≤ s ∧ s ≤ m ∧ m ≤ e ∧ e ≤ b ∧ e + s = mid + m) := by have h1 := HM.out; have h2 := HLH.out; show _ ∧ _ ∧ _ ∧ _ ∧ _; omega
      have hsn : s ≤ n ∧ e ≤ n := by have := HSE.out; omega
      have HCUT : Hid ((∀ p ∈ X.take (s - a), ∀ q ∈ Y.drop (e - m), p.1 ≤ q.1) ∧ (∀ p ∈ Y.take (e - m), ∀ q ∈ X.drop (s - a), p.1 < q.1)) := by
        have h1 := HM.out
        rw [show pp = mid + m - 1 by omega, hZ'.out] at hlo hhi
        exact cut_math P X Y Q a m b mid s e lo mid hP.out HND.out.1 HND.out.2.1 (by have := HLH.out; omega) h1.1 hs.1 hs.2 HSE.out.2.2.2.2 ⟨ham, hmb⟩ hlo hhi
      have HLEN : Hid ((X.take (s - a)).length = s - a ∧ (X.drop (s - a)).length = m - s ∧ (Y.take (e - m)).length = e - m ∧ (Y.drop (e - m)).length = b - e) := by
        have h1 := HSE.out; have h2 := hP.out
        show _ ∧ _ ∧ _ ∧ _
        simp only [List.length_take, List.length_drop]
        omega
      have hoX : OwnG PE 29 V B (some ⟨g, 0, none⟩) n cap (P ++ X.take (s - a) ++ X.drop (s - a) ++ Y.take (e - m) ++ Y.drop (e - m) ++ Q) := by
        have h1 : Z = P ++ X.take (s - a) ++ X.drop (s - a) ++ Y.take (e - m) ++ Y.drop (e - m) ++ Q := by
          rw [hZ'.out]
          conv => lhs; rw [← List.take_append_drop (s - a) X, ← List.take_append_drop (e - m) Y]
          simp
        rw [h1] at ho; exact ho
      exact symTail L IH g n cap B a m b mid nn s e P X Y Q w V u hP HND ham hmb hbn hsz hmid1 r1 HSE hsn HCUT HLEN hoX hgr
    clear hK
    go_loopw [20, 21] (fun iv jv wr => ∃ s r : Nat, iv = .int .i64 s ∧ jv = .int .i64 r ∧ lo ≤ s ∧ s ≤ r ∧ r ≤ mid ∧ (∀ t, lo ≤ t → t < s → kz Z t ≤ kz Z (pp - t)) ∧ (∀ t, r ≤ t → t < mid → kz Z (pp - t) < kz Z t) ∧ OwnG PE 29 wr B (some ⟨g, 0, none⟩) n cap (Z) ∧ w.grownBy wr (some g)) (fun iv jv _ => (intOf jv).toNat - (intOf iv).toNat)
    case atStart => exact ⟨lo, mid, rfl, rfl, by omega, by have h1 := HLH.out; have h2 := HM.out; omega, by omega, fun t h1 h2 => by omega, fun t h1 h2 => by omega, hown, ⟨rfl, rfl, rfl, Nat.le_refl _, fun _ _ _ => rfl⟩⟩
    case round =>
      clear hown
      obtain ⟨s, r, rfl, rfl, h1, h2, h3, hlo, hhi, ho, hgr⟩ := hrel
      have HLO : Hid ((∀ t, lo ≤ t → t < s → kz Z t ≤ kz Z (pp - t)) ∧ (∀ t, r ≤ t → t < mid → kz Z (pp - t) < kz Z t)) := ⟨hlo, hhi⟩
      clear hlo hhi
      by_cases hlt : s < r
      · have p1 : (s : Int) < (r : Int) := by omega
        obtain ⟨sr, hsr⟩ : ∃ z, z = s + r := ⟨_, rfl⟩
        obtain ⟨c, hc⟩ : ∃ z, z = (s + r) / 2 := ⟨_, rfl⟩
        have r1 : (s : Int) + (r : Int) = (sr : Int) := by omega
        have r2 : (sr : Int) / 2 = (c : Int) := by omega
        have hc' : s ≤ c ∧ c < r := by omega
        obtain ⟨pc, hpc⟩ : ∃ z, z = pp - c := ⟨_, rfl⟩
        have HPC : Hid (pc = pp - c ∧ c + pc = pp ∧ a ≤ c ∧ c < m ∧ m ≤ pc ∧ pc < b) := by have h4 := HM.out; have h5 := HLH.out; show _ ∧ _ ∧ _ ∧ _ ∧ _ ∧ _; omega
        have r3 : (pp : Int) - (c : Int) = (pc : Int) := by have := HPC.out; omega
        have hcn : c < n := by have := HPC.out; omega
        have hpn : pc < n := by have := HPC.out; omega
        have p3 : (c : Int) < (n : Int) := by omega
        have p4 : (pc : Int) < (n : Int) := by omega
        have hw1 : IntKind.i64.wrap (pc : Int) = (pc : Int) := by rw [IntKind.wrap_i64]; omega
        have hsrn : sr ≤ 2 * n := by have := HPC.out; omega
        clear hsr hc hpc
        obtain ⟨⟨x0, x1⟩, eX⟩ : ∃ x, Z[c]? = some x := ⟨Z[c]'(by have := hln.out; omega), List.getElem?_eq_getElem _⟩
        obtain ⟨⟨y0, y1⟩, eY⟩ : ∃ x, Z[pc]? = some x := ⟨Z[pc]'(by have := hln.out; omega), List.getElem?_eq_getElem _⟩
        have HX : Hid (Z[c]? = some (x0, x1)) := eX
        have HY : Hid (Z[pc]? = some (y0, y1)) := eY
        clear eX eY
        have HC : Hid (∀ W, Below wr.heap.size wr W → W.cell? ⟨g, pc * 2, none⟩ = some (.int .u16 y0) ∧ W.cell? ⟨g, pc * 2 + 1, none⟩ = some (.int .u8 y1) ∧ W.cell? ⟨g, c * 2, none⟩ = some (.int .u16 x0) ∧ W.cell? ⟨g, c * 2 + 1, none⟩ = some (.int .u8 x1)) := fun W hb => by
          have h1 := (ho.below hb).row.pair HY.out
          have h2 := (ho.below hb).row.pair HX.out
          simp only [Nat.zero_add] at h1 h2
          exact ⟨h1.1, h1.2, h2.1, h2.2⟩
        go_wp2_with fail
        refine wp_region_noPanic ?_
        refine wp_region_held_drew (S := fun W => Below wr.heap.size wr W) (by kernel_rfl) (ext_drew wr) fun hS => ?_
        refine take_to (i := 0) (v := ?_) 158 rfl rfl (by kernel_rfl) (by kernel_rfl) (by kernel_rfl) (fun _ _ _ h => h) (Or.inl ⟨by rfl, ?_⟩) hS ?_
        rotate_left
        · intro W hW
          obtain ⟨s0, s1, s2, s3⟩ := HC.out W hW
          go_simp
          try with_reducible rfl
        simp only [List.setIfInBounds_toArray, List.set_cons_zero, List.set_cons_succ]
        refine take_to (i := 1) (v := ?_) 159 rfl rfl (by kernel_rfl) (by kernel_rfl) (by kernel_rfl) (fun _ _ _ h => h) (Or.inl ⟨by rfl, ?_⟩) hS ?_
        rotate_left
        · intro W hW
          obtain ⟨s0, s1, s2, s3⟩ := HC.out W hW
          go_simp
          try with_reducible rfl
        simp only [List.setIfInBounds_toArray, List.set_cons_zero, List.set_cons_succ]
        refine take_to (i := 2) (v := ?_) 160 rfl rfl (by kernel_rfl) (by kernel_rfl) (by kernel_rfl) (fun _ _ _ h => h) (Or.inl ⟨by rfl, ?_⟩) hS ?_
        rotate_left
        · intro W hW
          obtain ⟨s0, s1, s2, s3⟩ := HC.out W hW
          go_simp
          try with_reducible rfl
        simp only [List.setIfInBounds_toArray, List.set_cons_zero, List.set_cons_succ]
        refine take_to (i := 3) (v := ?_) 161 rfl rfl (by kernel_rfl) (by kernel_rfl) (by kernel_rfl) (fun _ _ _ h => h) (Or.inl ⟨by rfl, ?_⟩) hS ?_
        rotate_left
        · intro W hW
          obtain ⟨s0, s1, s2, s3⟩ := HC.out W hW
          go_simp
          try with_reducible rfl
        simp only [List.setIfInBounds_toArray, List.set_cons_zero, List.set_cons_succ]
        refine take_to (i := 4) (v := ?_) 162 rfl rfl (by kernel_rfl) (by kernel_rfl) (by kernel_rfl) (fun _ _ _ h => h) (Or.inl ⟨by rfl, ?_⟩) hS ?_
        rotate_left
        · intro W hW
          obtain ⟨s0, s1, s2, s3⟩ := HC.out W hW
          go_simp
          try with_reducible rfl
        simp only [List.setIfInBounds_toArray, List.set_cons_zero, List.set_cons_succ]
        refine take_to (i := 5) (v := ?_) 163 rfl rfl (by kernel_rfl) (by kernel_rfl) (by kernel_rfl) (fun _ _ _ h => h) (Or.inl ⟨by rfl, ?_⟩) hS ?_
        rotate_left
        · intro W hW
          obtain ⟨s0, s1, s2, s3⟩ := HC.out W hW
          go_simp
          try with_reducible rfl
        simp only [List.setIfInBounds_toArray, List.set_cons_zero, List.set_cons_succ]
        refine take_to (i := 6) (v := ?_) 164 rfl rfl (by kernel_rfl) (by kernel_rfl) (by kernel_rfl) (fun _ _ _ h => h) (Or.inl ⟨by rfl, ?_⟩) hS ?_
        rotate_left
        · intro W hW
          obtain ⟨s0, s1, s2, s3⟩ := HC.out W hW
          go_simp
          try with_reducible rfl
        simp only [List.setIfInBounds_toArray, List.set_cons_zero, List.set_cons_succ]
        refine take_to (i := 7) (v := ?_) 165 rfl rfl (by kernel_rfl) (by kernel_rfl) (by kernel_rfl) (fun _ _ _ h => h) (Or.inl ⟨by rfl, ?_⟩) hS ?_
        rotate_left
        · intro W hW
          obtain ⟨s0, s1, s2, s3⟩ := HC.out W hW
          go_simp
          try with_reducible rfl
        simp only [List.setIfInBounds_toArray, List.set_cons_zero, List.set_cons_succ]
        refine take_to (i := 8) (v := ?_) 166 rfl rfl (by kernel_rfl) (by kernel_rfl) (by kernel_rfl) (fun _ _ _ h => h) (Or.inl ⟨by rfl, ?_⟩) hS ?_
        rotate_left
        · intro W hW
          obtain ⟨s0, s1, s2, s3⟩ := HC.out W hW
          go_simp
          try with_reducible rfl
        simp only [List.setIfInBounds_toArray, List.set_cons_zero, List.set_cons_succ]
        refine take_to (i := 9) (v := ?_) 167 rfl rfl (by kernel_rfl) (by kernel_rfl) (by kernel_rfl) (fun _ _ _ h => h) (Or.inl ⟨by rfl, ?_⟩) hS ?_
        rotate_left
        · intro W hW
          obtain ⟨s0, s1, s2, s3⟩ := HC.out W hW
          go_simp
          try with_reducible rfl
        simp only [List.setIfInBounds_toArray, List.set_cons_zero, List.set_cons_succ]
        refine take_to (i := 10) (v := ?_) 168 rfl rfl (by kernel_rfl) (by kernel_rfl) (by kernel_rfl) (fun _ _ _ h => h) (Or.inl ⟨by rfl, ?_⟩) hS ?_
        rotate_left
        · intro W hW
          obtain ⟨s0, s1, s2, s3⟩ := HC.out W hW
          go_simp
          try with_reducible rfl
        simp only [List.setIfInBounds_toArray, List.set_cons_zero, List.set_cons_succ]
        refine wpAnyH_ready (rs := [11]) (by kernel_rfl) (by simp) ?_
        refine AllReadyH.cons rfl (fun K hK => ?_) AllReadyH.nil
        go_simp
        refine (makeF_any y0 y1 x0 x1 _).mono ?_
        rintro e w3 ⟨rfl, hb3⟩
        have hB3 : Below wr.heap.size wr w3 := ext_trans (ext_drew _) hb3
        refine hK.out _ _ hB3 fun _ => ?_
        clear hK K
        have hgr3 : w.grownBy w3 (some g) := grown_trans hgr (grown_of_below hB3 none) (fun x hx => by simp at hx)
        have ho3 := ho.below hB3
        by_cases hXx : y0 < x0
        · have hcm : cmpI y0 x0 = -1 := by simp [cmpI, hXx]
          rw [hcm]
          refine wpAnyH_ready (rs := [12]) (by kernel_rfl) (by simp) ?_
          refine AllReadyH.cons rfl (fun K hK => ?_) AllReadyH.nil
          go_simp
          refine hK.out _ _ hB3 fun _ => ?_
          clear hK K
          refine wpAnyH_ready (rs := [13]) (by kernel_rfl) (by simp) ?_
          refine AllReadyH.cons rfl (fun K hK => ?_) AllReadyH.nil
          go_simp
          refine hK.out _ _ hB3 fun _ => ?_
          clear hK K
          refine wpAnyH_done (by kernel_rfl) ?_ _
          refine NoPanic.normal ?_
          go_wp2_with fail
          go_roundw
          case rel =>
            refine ⟨s, c, rfl, rfl, by omega, by omega, by omega, HLO.out.1, fun t h4 h5 => ?_, ho3, hgr3⟩
            have h6 := HPC.out; have h7 := HLH.out; have h10 := HM.out
            have h8 := hkX.out c t (by omega) h4 (by omega)
            have h9 := hkY.out (pp - t) pc (by omega) (by omega) (by omega)
            rw [kz_of HX.out] at h8
            rw [kz_of HY.out] at h9
            omega
          case measure => simp [intOf]; omega
        · have hcm : decide (cmpI y0 x0 < 0) = false := by simp [cmpI, hXx]; split <;> omega
          refine wpAnyH_ready (rs := [12]) (by kernel_rfl) (by simp) ?_
          refine AllReadyH.cons rfl (fun K hK => ?_) AllReadyH.nil
          go_simp
          refine hK.out _ _ hB3 fun _ => ?_
          clear hK K
          refine wpAnyH_ready (rs := [13]) (by kernel_rfl) (by simp) ?_
          refine AllReadyH.cons rfl (fun K hK => ?_) AllReadyH.nil
          go_simp
          refine hK.out _ _ hB3 fun _ => ?_
          clear hK K
          refine wpAnyH_done (by kernel_rfl) ?_ _
          refine NoPanic.normal ?_
          go_wp2_with fail
          go_roundw
          case rel =>
            refine ⟨c + 1, r, by go_num, rfl, by omega, by omega, by omega, fun t h4 h5 => ?_, HLO.out.2, ho3, hgr3⟩
            have h6 := HPC.out; have h7 := HLH.out; have h10 := HM.out
            have h8 := hkX.out t c (by omega) (by omega) (by omega)
            have h9 := hkY.out pc (pp - t) (by omega) (by omega) (by omega)
            rw [kz_of HX.out] at h8
            rw [kz_of HY.out] at h9
            omega
          case measure => simp [intOf]; omega
      · have p1 : decide ((s : Int) < (r : Int)) = false := by simp; omega
        obtain rfl : s = r := by omega
        go_wp2_with fail
        exact CL.out _ _ s rfl ⟨h1, h3⟩ HLO.out.1 HLO.out.2 ho hgr
  · have p0 : decide ((mid : Int) < (m : Int)) = false := by simp; omega
    have HLH : Hid (a = a ∧ m = m ∧ m ≤ mid ∨ a + b = mid + m ∧ m = mid ∧ mid < m) := by show _ ∨ _; omega
    go_enter Try.func64, Try.ntmps64
    go_wp2_with fail
    rename_i K hK
    have CL : Hid (∀ (ac : Act) (V : World) (s : Nat), ac = { tmps := #[.slice (some ⟨g, 0, none⟩) n cap, .int .i64 a, .int .i64 m, .int .i64 b, .func (.func 37) #[] #[], sl ac 5, sl ac 6, sl ac 7, sl ac 8, sl ac 9, sl ac 10, sl ac 11, sl ac 12, sl ac 13, sl ac 14, sl ac 15, sl ac 16, sl ac 17, .int .i64 mid, .int .i64 nn, .int .i64 s, sl ac 21, sl ac 22, sl ac 23, sl ac 24, sl ac 25, sl ac 26, sl ac 27, sl ac 28, sl ac 29, sl ac 30, sl ac 31, sl ac 32, sl ac 33, sl ac 34, sl ac 35, sl ac 36, sl ac 37, sl ac 38, sl ac 39, sl ac 40, sl ac 41, sl ac 42, sl ac 43, sl ac 44, sl ac 45, sl ac 46, sl ac 47, sl ac 48, sl ac 49, sl ac 50, sl ac 51, sl ac 52, sl ac 53, sl ac 54, sl ac 55, sl ac 56, sl ac 57, sl ac 58, sl ac 59, sl ac 60, sl ac 61, sl ac 62, sl ac 63, sl ac 64, sl ac 65, sl ac 66, sl ac 67, sl ac 68, sl ac 69, sl ac 70, sl ac 71, sl ac 72, sl ac 73, sl ac 74, sl ac 75, sl ac 76, sl ac 77, sl ac 78, sl ac 79, sl ac 80, sl ac 81, sl ac 82, sl ac 83, sl ac 84, sl ac 85, sl ac 86, sl ac 87, sl ac 88, sl ac 89, sl ac 90, sl ac 91, sl ac 92, sl ac 93, sl ac 94, sl ac 95, sl ac 96, sl ac 97, sl ac 98, sl ac 99, sl ac 100, sl ac 101, sl ac 102, sl ac 103, sl ac 104, sl ac 105, sl ac 106, sl ac 107, sl ac 108, sl ac 109, sl ac 110, sl ac 111, sl ac 112, sl ac 113, sl ac 114, sl ac 115, sl ac 116, sl ac 117, sl ac 118, sl ac 119, sl ac 120, sl ac 121, sl ac 122, sl ac 123, sl ac 124, sl ac 125, sl ac 126, sl ac 127, sl ac 128, sl ac 129, sl ac 130, sl ac 131, sl ac 132, sl ac 133, sl ac 134, sl ac 135, sl ac 136, sl ac 137, sl ac 138, sl ac 139, sl ac 140, sl ac 141, sl ac 142, sl ac 143, sl ac 144, sl ac 145, sl ac 146, sl ac 147, sl ac 148, sl ac 149, sl ac 150, sl ac 151, sl ac 152, sl ac 153, sl ac 154, sl ac 155, sl ac 156, sl ac 157, sl ac 158, sl ac 159, sl ac 160, sl ac 161, sl ac 162, sl ac 163, sl ac 164, sl ac 165, sl ac 166, sl ac 167, sl ac 168, sl ac 169, sl ac 170, sl ac 171, sl ac 172, sl ac 173, sl ac 174, sl ac 175, sl ac 176, sl ac 177, sl ac 178, sl ac 179, sl ac 180, sl ac 181, sl ac 182, sl ac 183, sl ac 184, sl ac 185, sl ac 186, sl ac 187, sl ac 188, sl ac 189, sl ac 190, sl ac 191, sl ac 192, sl ac 193, sl ac 194, sl ac 195, sl ac 196, sl ac 197, sl ac 198, sl ac 199, sl ac 200, sl ac 201, sl ac 202, sl ac 203, sl ac 204, sl ac 205, sl ac 206, sl ac 207, sl ac 208, sl ac 209, sl ac 210, sl ac 211, sl ac 212, sl ac 213, sl ac 214, sl ac 215, sl ac 216, sl ac 217, sl ac 218, sl ac 219], defers := [] } → (a ≤ s ∧ s ≤ m) → (∀ t, a ≤ t → t < s → kz Z t ≤ kz Z (pp - t)) → (∀ t, s ≤ t → t < m → kz Z (pp - t) < kz Z t) → OwnG PE 29 V B (some ⟨g, 0, none⟩) n cap (Z) → w.grownBy V (some g) → K ac V) := by
      intro ac V s hact hs hlo hhi ho hgr
      generalize sl ac = u at hact
      subst hact
      refine hK _ _ ?_
      clear hK
      obtain ⟨e, he⟩ : ∃ z, z = nn - s := ⟨_, rfl⟩
      have r1 : (nn : Int) - (s : Int) = (e : Int) := by have := HM.out; omega
      have HSE : Hid (a ≤ s ∧ s ≤ m ∧ m ≤ e ∧ e ≤ b ∧ e + s = mid + m) := by have h1 := HM.out; have h2 := HLH.out; show _ ∧ _ ∧ _ ∧ _ ∧ _; omega
      have hsn : s ≤ n ∧ e ≤ n := by have := HSE.out; omega
      have HCUT : Hid ((∀ p ∈ X.take (s - a), ∀ q ∈ Y.drop (e - m), p.1 ≤ q.1) ∧ (∀ p ∈ Y.take (e - m), ∀ q ∈ X.drop (s - a), p.1 < q.1)) := by
        have h1 := HM.out
        rw [show pp = mid + m - 1 by omega, hZ'.out] at hlo hhi
        exact cut_math P X Y Q a m b mid s e a m hP.out HND.out.1 HND.out.2.1 (by have := HLH.out; omega) h1.1 hs.1 hs.2 HSE.out.2.2.2.2 ⟨ham, hmb⟩ hlo hhi
      have HLEN : Hid ((X.take (s - a)).length = s - a ∧ (X.drop (s - a)).length = m - s ∧ (Y.take (e - m)).length = e - m ∧ (Y.drop (e - m)).length = b - e) := by
        have h1 := HSE.out; have h2 := hP.out
        show _ ∧ _ ∧ _ ∧ _
        simp only [List.length_take, List.length_drop]
        omega
      have hoX : OwnG PE 29 V B (some ⟨g, 0, none⟩) n cap (P ++ X.take (s - a) ++ X.drop (s - a) ++ Y.take (e - m) ++ Y.drop (e - m) ++ Q) := by
        have h1 : Z = P ++ X.take (s - a) ++ X.drop (s - a) ++ Y.take (e - m) ++ Y.drop (e - m) ++ Q := by
          rw [hZ'.out]
          conv => lhs; rw [← List.take_append_drop (s - a) X, ← List.take_append_drop (e - m) Y]
          simp
        rw [h1] at ho; exact ho
      exact symTail L IH g n cap B a m b mid nn s e P X Y Q w V u hP HND ham hmb hbn hsz hmid1 r1 HSE hsn HCUT HLEN hoX hgr
    clear hK
    go_loopw [20, 21] (fun iv jv wr => ∃ s r : Nat, iv = .int .i64 s ∧ jv = .int .i64 r ∧ a ≤ s ∧ s ≤ r ∧ r ≤ m ∧ (∀ t, a ≤ t → t < s → kz Z t ≤ kz Z (pp - t)) ∧ (∀ t, r ≤ t → t < m → kz Z (pp - t) < kz Z t) ∧ OwnG PE 29 wr B (some ⟨g, 0, none⟩) n cap (Z) ∧ w.grownBy wr (some g)) (fun iv jv _ => (intOf jv).toNat - (intOf iv).toNat)
    case atStart => exact ⟨a, m, rfl, rfl, by omega, by have h1 := HLH.out; have h2 := HM.out; omega, by omega, fun t h1 h2 => by omega, fun t h1 h2 => by omega, hown, ⟨rfl, rfl, rfl, Nat.le_refl _, fun _ _ _ => rfl⟩⟩
    case round =>
      clear hown
      obtain ⟨s, r, rfl, rfl, h1, h2, h3, hlo, hhi, ho, hgr⟩ := hrel
      have HLO : Hid ((∀ t, a ≤ t → t < s → kz Z t ≤ kz Z (pp - t)) ∧ (∀ t, r ≤ t → t < m → kz Z (pp - t) < kz Z t)) := ⟨hlo, hhi⟩
      clear hlo hhi
      by_cases hlt : s < r
      · have p1 : (s : Int) < (r : Int) := by omega
        obtain ⟨sr, hsr⟩ : ∃ z, z = s + r := ⟨_, rfl⟩
        obtain ⟨c, hc⟩ : ∃ z, z = (s + r) / 2 := ⟨_, rfl⟩
        have r1 : (s : Int) + (r : Int) = (sr : Int) := by omega
        have r2 : (sr : Int) / 2 = (c : Int) := by omega
        have hc' : s ≤ c ∧ c < r := by omega
        obtain ⟨pc, hpc⟩ : ∃ z, z = pp - c := ⟨_, rfl⟩
        have HPC : Hid (pc = pp - c ∧ c + pc = pp ∧ a ≤ c ∧ c < m ∧ m ≤ pc ∧ pc < b) := by have h4 := HM.out; have h5 := HLH.out; show _ ∧ _ ∧ _ ∧ _ ∧ _ ∧ _; omega
        have r3 : (pp : Int) - (c : Int) = (pc : Int) := by have := HPC.out; omega
        have hcn : c < n := by have := HPC.out; omega
        have hpn : pc < n := by have := HPC.out; omega
        have p3 : (c : Int) < (n : Int) := by omega
        have p4 : (pc : Int) < (n : Int) := by omega
        have hw1 : IntKind.i64.wrap (pc : Int) = (pc : Int) := by rw [IntKind.wrap_i64]; omega
        have hsrn : sr ≤ 2 * n := by have := HPC.out; omega
        clear hsr hc hpc
        obtain ⟨⟨x0, x1⟩, eX⟩ : ∃ x, Z[c]? = some x := ⟨Z[c]'(by have := hln.out; omega), List.getElem?_eq_getElem _⟩
        obtain ⟨⟨y0, y1⟩, eY⟩ : ∃ x, Z[pc]? = some x := ⟨Z[pc]'(by have := hln.out; omega), List.getElem?_eq_getElem _⟩
        have HX : Hid (Z[c]? = some (x0, x1)) := eX
        have HY : Hid (Z[pc]? = some (y0, y1)) := eY
        clear eX eY
        have HC : Hid (∀ W, Below wr.heap.size wr W → W.cell? ⟨g, pc * 2, none⟩ = some (.int .u16 y0) ∧ W.cell? ⟨g, pc * 2 + 1, none⟩ = some (.int .u8 y1) ∧ W.cell? ⟨g, c * 2, none⟩ = some (.int .u16 x0) ∧ W.cell? ⟨g, c * 2 + 1, none⟩ = some (.int .u8 x1)) := fun W hb => by
          have h1 := (ho.below hb).row.pair HY.out
          have h2 := (ho.below hb).row.pair HX.out
          simp only [Nat.zero_add] at h1 h2
          exact ⟨h1.1, h1.2, h2.1, h2.2⟩
        go_wp2_with fail
        refine wp_region_noPanic ?_
        refine wp_region_held_drew (S := fun W => Below wr.heap.size wr W) (by kernel_rfl) (ext_drew wr) fun hS => ?_
        refine take_to (i := 0) (v := ?_) 158 rfl rfl (by kernel_rfl) (by kernel_rfl) (by kernel_rfl) (fun _ _ _ h => h) (Or.inl ⟨by rfl, ?_⟩) hS ?_
        rotate_left
        · intro W hW
          obtain ⟨s0, s1, s2, s3⟩ := HC.out W hW
          go_simp
          try with_reducible rfl
        simp only [List.setIfInBounds_toArray, List.set_cons_zero, List.set_cons_succ]
        refine take_to (i := 1) (v := ?_) 159 rfl rfl (by kernel_rfl) (by kernel_rfl) (by kernel_rfl) (fun _ _ _ h => h) (Or.inl ⟨by rfl, ?_⟩) hS ?_
        rotate_left
        · intro W hW
          obtain ⟨s0, s1, s2, s3⟩ := HC.out W hW
          go_simp
          try with_reducible rfl
        simp only [List.setIfInBounds_toArray, List.set_cons_zero, List.set_cons_succ]
        refine take_to (i := 2) (v := ?_) 160 rfl rfl (by kernel_rfl) (by kernel_rfl) (by kernel_rfl) (fun _ _ _ h => h) (Or.inl ⟨by rfl, ?_⟩) hS ?_
        rotate_left
        · intro W hW
          obtain ⟨s0, s1, s2, s3⟩ := HC.out W hW
          go_simp
          try with_reducible rfl
        simp only [List.setIfInBounds_toArray, List.set_cons_zero, List.set_cons_succ]
        refine take_to (i := 3) (v := ?_) 161 rfl rfl (by kernel_rfl) (by kernel_rfl) (by kernel_rfl) (fun _ _ _ h => h) (Or.inl ⟨by rfl, ?_⟩) hS ?_
        rotate_left
        · intro W hW
          obtain ⟨s0, s1, s2, s3⟩ := HC.out W hW
          go_simp
          try with_reducible rfl
        simp only [List.setIfInBounds_toArray, List.set_cons_zero, List.set_cons_succ]
        refine take_to (i := 4) (v := ?_) 162 rfl rfl (by kernel_rfl) (by kernel_rfl) (by kernel_rfl) (fun _ _ _ h => h) (Or.inl ⟨by rfl, ?_⟩) hS ?_
        rotate_left
        · intro W hW
          obtain ⟨s0, s1, s2, s3⟩ := HC.out W hW
          go_simp
          try with_reducible rfl
        simp only [List.setIfInBounds_toArray, List.set_cons_zero, List.set_cons_succ]
        refine take_to (i := 5) (v := ?_) 163 rfl rfl (by kernel_rfl) (by kernel_rfl) (by kernel_rfl) (fun _ _ _ h => h) (Or.inl ⟨by rfl, ?_⟩) hS ?_
        rotate_left
        · intro W hW
          obtain ⟨s0, s1, s2, s3⟩ := HC.out W hW
          go_simp
          try with_reducible rfl
        simp only [List.setIfInBounds_toArray, List.set_cons_zero, List.set_cons_succ]
        refine take_to (i := 6) (v := ?_) 164 rfl rfl (by kernel_rfl) (by kernel_rfl) (by kernel_rfl) (fun _ _ _ h => h) (Or.inl ⟨by rfl, ?_⟩) hS ?_
        rotate_left
        · intro W hW
          obtain ⟨s0, s1, s2, s3⟩ := HC.out W hW
          go_simp
          try with_reducible rfl
        simp only [List.setIfInBounds_toArray, List.set_cons_zero, List.set_cons_succ]
        refine take_to (i := 7) (v := ?_) 165 rfl rfl (by kernel_rfl) (by kernel_rfl) (by kernel_rfl) (fun _ _ _ h => h) (Or.inl ⟨by rfl, ?_⟩) hS ?_
        rotate_left
        · intro W hW
          obtain ⟨s0, s1, s2, s3⟩ := HC.out W hW
          go_simp
          try with_reducible rfl
        simp only [List.setIfInBounds_toArray, List.set_cons_zero, List.set_cons_succ]
        refine take_to (i := 8) (v := ?_) 166 rfl rfl (by kernel_rfl) (by kernel_rfl) (by kernel_rfl) (fun _ _ _ h => h) (Or.inl ⟨by rfl, ?_⟩) hS ?_
        rotate_left
        · intro W hW
          obtain ⟨s0, s1, s2, s3⟩ := HC.out W hW
          go_simp
          try with_reducible rfl
        simp only [List.setIfInBounds_toArray, List.set_cons_zero, List.set_cons_succ]
        refine take_to (i := 9) (v := ?_) 167 rfl rfl (by kernel_rfl) (by kernel_rfl) (by kernel_rfl) (fun _ _ _ h => h) (Or.inl ⟨by rfl, ?_⟩) hS ?_
        rotate_left
        · intro W hW
          obtain ⟨s0, s1, s2, s3⟩ := HC.out W hW
          go_simp
          try with_reducible rfl
        simp only [List.setIfInBounds_toArray, List.set_cons_zero, List.set_cons_succ]
        refine take_to (i := 10) (v := ?_) 168 rfl rfl (by kernel_rfl) (by kernel_rfl) (by kernel_rfl) (fun _ _ _ h => h) (Or.inl ⟨by rfl, ?_⟩) hS ?_
        rotate_left
        · intro W hW
          obtain ⟨s0, s1, s2, s3⟩ := HC.out W hW
          go_simp
          try with_reducible rfl
        simp only [List.setIfInBounds_toArray, List.set_cons_zero, List.set_cons_succ]
        refine wpAnyH_ready (rs := [11]) (by kernel_rfl) (by simp) ?_
        refine AllReadyH.cons rfl (fun K hK => ?_) AllReadyH.nil
        go_simp
        refine (makeF_any y0 y1 x0 x1 _).mono ?_
        rintro e w3 ⟨rfl, hb3⟩
        have hB3 : Below wr.heap.size wr w3 := ext_trans (ext_drew _) hb3
        refine hK.out _ _ hB3 fun _ => ?_
        clear hK K
        have hgr3 : w.grownBy w3 (some g) := grown_trans hgr (grown_of_below hB3 none) (fun x hx => by simp at hx)
        have ho3 := ho.below hB3
        by_cases hXx : y0 < x0
        · have hcm : cmpI y0 x0 = -1 := by simp [cmpI, hXx]
          rw [hcm]
          refine wpAnyH_ready (rs := [12]) (by kernel_rfl) (by simp) ?_
          refine AllReadyH.cons rfl (fun K hK => ?_) AllReadyH.nil
          go_simp
          refine hK.out _ _ hB3 fun _ => ?_
          clear hK K
          refine wpAnyH_ready (rs := [13]) (by kernel_rfl) (by simp) ?_
          refine AllReadyH.cons rfl (fun K hK => ?_) AllReadyH.nil
          go_simp
          refine hK.out _ _ hB3 fun _ => ?_
          clear hK K
          refine wpAnyH_done (by kernel_rfl) ?_ _
          refine NoPanic.normal ?_
          go_wp2_with fail
          go_roundw
          case rel =>
            refine ⟨s, c, rfl, rfl, by omega, by omega, by omega, HLO.out.1, fun t h4 h5 => ?_, ho3, hgr3⟩
            have h6 := HPC.out; have h7 := HLH.out; have h10 := HM.out
            have h8 := hkX.out c t (by omega) h4 (by omega)
            have h9 := hkY.out (pp - t) pc (by omega) (by omega) (by omega)
            rw [kz_of HX.out] at h8
            rw [kz_of HY.out] at h9
            omega
          case measure => simp [intOf]; omega
        · have hcm : decide (cmpI y0 x0 < 0) = false := by simp [cmpI, hXx]; split <;> omega
          refine wpAnyH_ready (rs := [12]) (by kernel_rfl) (by simp) ?_
          refine AllReadyH.cons rfl (fun K hK => ?_) AllReadyH.nil
          go_simp
          refine hK.out _ _ hB3 fun _ => ?_
          clear hK K
          refine wpAnyH_ready (rs := [13]) (by kernel_rfl) (by simp) ?_
          refine AllReadyH.cons rfl (fun K hK => ?_) AllReadyH.nil
          go_simp
          refine hK.out _ _ hB3 fun _ => ?_
          clear hK K
          refine wpAnyH_done (by kernel_rfl) ?_ _
          refine NoPanic.normal ?_
          go_wp2_with fail
          go_roundw
          case rel =>
            refine ⟨c + 1, r, by go_num, rfl, by omega, by omega, by omega, fun t h4 h5 => ?_, HLO.out.2, ho3, hgr3⟩
            have h6 := HPC.out; have h7 := HLH.out; have h10 := HM.out
            have h8 := hkX.out t c (by omega) (by omega) (by omega)
            have h9 := hkY.out pc (pp - t) (by omega) (by omega) (by omega)
            rw [kz_of HX.out] at h8
            rw [kz_of HY.out] at h9
            omega
          case measure => simp [intOf]; omega
      · have p1 : decide ((s : Int) < (r : Int)) = false := by simp; omega
        obtain rfl : s = r := by omega
        go_wp2_with fail
        exact CL.out _ _ s rfl ⟨h1, h3⟩ HLO.out.1 HLO.out.2 ho hgr

set_option maxHeartbeats 400000 in
theorem symM_any : ∀ L, SymOK L := by
  intro L
  induction L with
  | zero => intro g n cap B a m b P X Y Q w _ _ _ _ _ _ h1 _ h3; omega
  | succ L ih =>
    intro g n cap B a m b P X Y Q w hown hX hY hP1 hP2 hP3 hx0 hy0 hL hsz
    by_cases hx1 : X.length = 1
    · obtain ⟨⟨x0, x1⟩, rfl⟩ := List.length_eq_one_iff.1 hx1
      refine (symM_one g n cap B a m b x0 x1 P Y Q w hown hY (show _ ∧ _ ∧ _ from ⟨hP1, by simpa using hP2, hP3⟩) hsz).mono ?_
      rintro e w1 ⟨rfl, Y1, Y2, rfl, h1, h2, ho, hg⟩
      refine ⟨rfl, Y1 ++ (x0, x1) :: Y2, ho, ?_, ?_, by simp; omega, hg⟩
      · have h3 := (StEq.comm (xs := Y1) (ys := [(x0, x1)]) fun p hp q hq => by simp at hq; subst hq; have := h1 p hp; simp only; omega).append (StEq.refl Y2)
        simpa using h3
      · have h3 := List.pairwise_append.1 hY
        refine List.pairwise_append.2 ⟨h3.1, List.pairwise_cons.2 ⟨fun q hq => h2 q hq, h3.2.1⟩, fun p hp q hq => ?_⟩
        rcases List.mem_cons.1 hq with rfl | hq
        · have := h1 p hp; simp only; omega
        · exact h3.2.2 p hp q hq
    · by_cases hy1 : Y.length = 1
      · obtain ⟨⟨y0, y1⟩, rfl⟩ := List.length_eq_one_iff.1 hy1
        refine (symM_end g n cap B a m b y0 y1 P X Q w hown hX (show _ ∧ _ ∧ _ from ⟨hP1, hP2, by simpa using hP3⟩) (by omega) hsz).mono ?_
        rintro e w1 ⟨rfl, X1, X2, rfl, h1, h2, ho, hg⟩
        exact ⟨rfl, X1 ++ (y0, y1) :: X2, ho, steq_ins h2, nd_ins hX h1 h2, by simp; omega, hg⟩
      · exact symM_gen L ih g n cap B a m b P X Y Q w hown hX hY (show _ ∧ _ ∧ _ from ⟨hP1, hP2, hP3⟩) (by omega) (by omega) hL hsz
end Go.Proofs.Ytgpndbfefbdibaa
