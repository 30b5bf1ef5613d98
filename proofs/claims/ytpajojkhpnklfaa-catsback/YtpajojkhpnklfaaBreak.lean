/- How the library's sort of lists of categories breaks patterns: what the plain function says. -/
import Derived.Test.YtpajojkhpnklfaaChoose
namespace Go.Proofs.Ytpajojkhpnklfaa
open Go.RowKit Go.Sort

theorem bitsLen_bd (l : Nat) (h : 0 < l) : l < 2 ^ bitsLen l ∧ 2 ^ bitsLen l ≤ 2 * l := by
  unfold bitsLen
  rw [if_neg (by omega)]
  have h1 := Nat.log2_self_le (n := l) (by omega)
  have h2 := Nat.lt_log2_self (n := l)
  rw [Nat.pow_succ]
  omega

set_option maxRecDepth 100000 in
set_option maxHeartbeats 4000000 in
theorem breakPatterns_any (g cap B a b : Nat) (d : Array Int) (w : World) (hown : OwnA w B g cap d) (w0 : World) (hb0 : RowKit.Below B w0 w) (hB : B ≤ w.heap.size) (hab : a + 12 < b) (hb' : b ≤ d.size) (hsz : d.size ≤ 1000000) :
    Calls Try.prog 52 #[.slice (some ⟨g, 0, none⟩) d.size cap, .int .i64 a, .int .i64 b] w fun e w' => e = .returned (.tuple #[]) ∧ OwnA w' B g cap (breakPatterns d a b) ∧ (breakPatterns d a b).size = d.size ∧ RowKit.Below B w0 w' := by
  have hgw := hown.lt.2
  have hBg := hown.lt.1
  obtain ⟨n, hn⟩ : ∃ n, n = d.size := ⟨_, rfl⟩
  obtain ⟨D, hD⟩ : ∃ D, D = breakPatterns d a b := ⟨_, rfl⟩
  obtain ⟨l, hl⟩ : ∃ l, l = b - a := ⟨_, rfl⟩
  obtain ⟨q, hq⟩ : ∃ q, q = l / 4 := ⟨_, rfl⟩
  obtain ⟨M, hM⟩ : ∃ M, M = 1 <<< bitsLen l := ⟨_, rfl⟩
  obtain ⟨p0, hp0⟩ : ∃ p0, p0 = a + q * 2 - 1 := ⟨_, rfl⟩
  have hMb : l < M ∧ M ≤ 2 * l := by
    have := bitsLen_bd l (by omega)
    rw [hM, Nat.one_shiftLeft]; exact this
  rw [← hn, ← hD]
  have HD : Hid (D = (breakStep a l M (breakStep a l M (breakStep a l M (UInt64.ofNat l, d) p0) (p0 + 1)) (p0 + 2)).2) := by
    show _ = _
    rw [hD]
    unfold breakPatterns
    simp only [← hl, ← hq, ← hM, ← hp0]
    rw [if_pos (by omega)]
  have hbn : b ≤ n := by omega
  have hsz' : n ≤ 1000000 := by omega
  have e0 : (b : Int) - (a : Int) = (l : Int) := by omega
  have e1 : (l : Int) / 4 = (q : Int) := by omega
  have e1' : (l : Int).tdiv 4 = (q : Int) := by rw [Int.tdiv_eq_ediv_of_nonneg (by omega)]; exact e1
  have e3 : (a : Int) + (q : Int) * 2 - 1 = (p0 : Int) := by omega
  have h8 : (l : Int) ≥ 8 := by omega
  have hpow := pow2_any l (by omega)
  rw [← hM] at hpow
  have HN : Hid (d.size = n) := hn.symm
  have HP : Hid (p0 + 1 = a + q * 2 ∧ l = b - a ∧ q = l / 4) := ⟨by omega, hl, hq⟩
  clear hD hn hl hq hM hp0 hb' hsz
  obtain ⟨sb, hsb⟩ : ∃ sb, sb = w.heap.size := ⟨_, rfl⟩
  have hne : g ≠ sb := by omega
  have hBs : B ≤ sb := by omega
  obtain ⟨G, hG⟩ : ∃ G : Nat → UInt64 × Array Int → Array Int, (∀ st, G 0 st = G 1 (breakStep a l M st p0)) ∧ (∀ st, G 1 st = G 2 (breakStep a l M st (p0 + 1))) ∧ (∀ st, G 2 st = G 3 (breakStep a l M st (p0 + 2))) ∧ (∀ st, G 3 st = st.2) :=
    ⟨fun t st => if t = 0 then (breakStep a l M (breakStep a l M (breakStep a l M st p0) (p0 + 1)) (p0 + 2)).2 else if t = 1 then (breakStep a l M (breakStep a l M st (p0 + 1)) (p0 + 2)).2 else if t = 2 then (breakStep a l M st (p0 + 2)).2 else st.2, fun _ => rfl, fun _ => rfl, fun _ => rfl, fun _ => rfl⟩
  have HG : Hid ((∀ st, G 0 st = G 1 (breakStep a l M st p0)) ∧ (∀ st, G 1 st = G 2 (breakStep a l M st (p0 + 1))) ∧ (∀ st, G 2 st = G 3 (breakStep a l M st (p0 + 2))) ∧ (∀ st, G 3 st = st.2)) := hG
  have HD0 : Hid (G 0 (UInt64.ofNat l, d) = D) := by show _ = _; rw [hG.1, hG.2.1, hG.2.2.1, hG.2.2.2]; exact HD.out.symm
  clear hG HD
  obtain ⟨w1, hw1⟩ : ∃ w1, w1 = w.alloc (.cells #[Value.int .u64 (l : Int)] 69) := ⟨_, rfl⟩
  have s1 : OwnA w1 B g cap d ∧ RowKit.Below B w0 w1 ∧ w1.cell? ⟨sb, 0, none⟩ = some (.int .u64 (l : Int)) ∧ w1.frozen? ⟨sb, 0, none⟩ = false := by
    rw [hw1, hsb]
    refine ⟨OwnW.below hown (below_alloc _ _), hb0.alloc hB _, ?_, ?_⟩
    · simp [World.cell?_alloc_new]
    · simp only [World.frozen?]
      rw [heap_alloc_new]
      rfl
  have HS1 : Hid (OwnA w1 B g cap d ∧ RowKit.Below B w0 w1 ∧ w1.cell? ⟨sb, 0, none⟩ = some (.int .u64 (l : Int)) ∧ w1.frozen? ⟨sb, 0, none⟩ = false) := s1
  clear s1 hown hb0
  go_enter Try.func52, Try.ntmps52
  go_wp2_with fail
  rw [← hw1, ← hsb]
  clear hsb
  refine (hpow _).mono ?_
  rintro e w2 ⟨rfl, rfl⟩
  clear hpow hw1
  go_wp2_with fail
  go_loopw [9] (fun v wr => ∃ (t p : Nat) (st : UInt64 × Array Int), t ≤ 3 ∧ p = p0 + t ∧ v = .int .i64 p ∧ OwnA wr B g cap st.2 ∧ st.2.size = n ∧ RowKit.Below B w0 wr ∧ wr.cell? ⟨sb, 0, none⟩ = some (.int .u64 (st.1.toNat : Int)) ∧ wr.frozen? ⟨sb, 0, none⟩ = false ∧ G t st = D) (fun v _ => p0 + 3 - (intOf v).toNat)
  case atStart =>
    obtain ⟨h1, h2, h3, h4⟩ := HS1.out
    refine ⟨0, p0, (UInt64.ofNat l, d), by omega, by omega, rfl, h1, HN.out, h2, ?_, h4, HD0.out⟩
    rw [h3]
    simp
    omega
  case round =>
    clear HS1 HD0 HN
    obtain ⟨t, p, ⟨r, dk⟩, ht, hp, rfl, ho, hdk, hb, hc, hf, hD⟩ := hrel
    simp only at ho hdk hc hD
    have HK : Hid (dk.size = n) := hdk
    have HD : Hid (G t (r, dk) = D) := hD
    have HPT : Hid (p = p0 + t) := hp
    have e5 : (a : Int) + (q : Int) * 2 + 1 = (p0 : Int) + 2 := by omega
    have hpos := HP.out
    by_cases h3 : t < 3
    · have g1 : (p : Int) ≤ (p0 : Int) + 2 := by omega
      have hpn : p < n := by omega
      have hrl := r.toNat_lt
      obtain ⟨x, hx⟩ : ∃ x, x = xorNextN r.toNat := ⟨_, rfl⟩
      obtain ⟨M1, hM1⟩ : ∃ M1, M1 = M - 1 := ⟨_, rfl⟩
      obtain ⟨o0, ho0⟩ : ∃ o0, o0 = x &&& M1 := ⟨_, rfl⟩
      have ho1 : o0 ≤ M1 := by rw [ho0]; exact Nat.and_le_right
      obtain ⟨o1, ho1'⟩ : ∃ o1, o1 = if o0 ≥ l then o0 - l else o0 := ⟨_, rfl⟩
      have ho2 : o1 < l := by rw [ho1']; split <;> omega
      have hnx := next_any sb r.toNat (by omega) wr hc hf
      rw [← hx] at hnx
      have hxl : x < 18446744073709551616 := by rw [hx]; exact xorNextN_lt _ (by omega)
      have eM : (M : Int) - 1 = (M1 : Int) := by omega
      have eA : bits .and .u64 (x : Int) (M1 : Int) = (o0 : Int) := by rw [u64_and_nat x M1 hxl (by omega), ho0]
      have HST : Hid (breakStep a l M (r, dk) p = (xorNext r, swp dk p (a + o1))) := by
        show _ = _
        unfold breakStep
        simp only [xorNext_toNat, ← hx, ← hM1, ← ho0, ← ho1']
      have HX : Hid ((xorNext r).toNat = x) := by show _ = _; rw [xorNext_toNat, hx]
      obtain ⟨W, hW⟩ : ∃ W, W = (wr.setCell ⟨sb, 0, none⟩ (.int .u64 (x : Int))).drewN 3 := ⟨_, rfl⟩
      rw [← hW] at hnx
      have hoW : OwnA W B g cap dk := by rw [hW]; exact (ho.other hne _).drewN 3
      have hbW : RowKit.Below B w0 W := by rw [hW]; exact bel_drewN (hb.setCell (p := ⟨sb, 0, none⟩) hBs _) 3
      have hcW : W.cell? ⟨sb, 0, none⟩ = some (.int .u64 (x : Int)) := by rw [hW]; exact World.cell?_setCell_same _ _ _ hc
      have hfW : W.frozen? ⟨sb, 0, none⟩ = false := by rw [hW]; simpa using hf
      have lp : (p : Int) < (n : Int) := by omega
      obtain ⟨c, hcc⟩ : ∃ c, c = a + o1 := ⟨_, rfl⟩
      have hcn : c < n := by omega
      have lc : (c : Int) < (n : Int) := by omega
      have e7 : (a : Int) + (o1 : Int) = (c : Int) := by omega
      have k0 := hoW.cell p (by rw [HK.out]; exact hpn)
      have k1 := hoW.cell c (by rw [HK.out]; exact hcn)
      have k5 := hoW.mid p c (by rw [HK.out]; exact hcn) _ rfl
      have m0 := hoW.melt p
      have m1 := hoW.melt c
      have hsw := hoW.swap p c (by rw [HK.out]; exact hpn) (by rw [HK.out]; exact hcn)
      have hss := swp_size dk p c
      have hz : ∀ v, (W.setCell ⟨g, p, none⟩ v).cell? ⟨sb, 0, none⟩ = some (.int .u64 (x : Int)) := fun v => by rw [World.cell?_setCell_other _ _ _ _ (by simp)]; exact hcW
      have hz2 : ∀ v v', ((W.setCell ⟨g, p, none⟩ v).setCell ⟨g, c, none⟩ v').cell? ⟨sb, 0, none⟩ = some (.int .u64 (x : Int)) := fun v v' => by rw [World.cell?_setCell_other _ _ _ _ (by simp)]; exact hz v
      generalize dk[p]! = A at k0 hsw
      generalize dk[c]! = X at k1 k5 hsw
      have HCW : Hid (((W.setCell ⟨g, p, none⟩ (.int .u16 X)).setCell ⟨g, c, none⟩ (.int .u16 A)).cell? ⟨sb, 0, none⟩ = some (.int .u64 (x : Int))) := hz2 _ _
      have HR : Hid (G t (r, dk) = G (t + 1) (xorNext r, swp dk p c)) := by
        show _ = _
        rw [hcc, ← HST.out, hp]
        obtain rfl | rfl | rfl : t = 0 ∨ t = 1 ∨ t = 2 := by omega
        · exact HG.out.1 _
        · exact HG.out.2.1 _
        · exact HG.out.2.2.1 _
      have hxi : (x : Int) < 18446744073709551616 := by omega
      have ho0b : (o0 : Int) ≤ 2000000 := by omega
      have HO : Hid (o1 = if o0 ≥ l then o0 - l else o0) := ho1'
      clear hz hz2 hcc hW hx hM1 ho0 ho1' hp hpos hrl ho hb hc hf hcW
      by_cases hol : o0 ≥ l
      · have y1 : (o0 : Int) ≥ (l : Int) := by omega
        have y2 : (o0 : Int) - (l : Int) = (o1 : Int) := by have := HO.out; rw [if_pos hol] at this; omega
        go_wp2_with fail
        refine hnx.mono ?_
        rintro e w3 ⟨rfl, rfl⟩
        clear hnx
        go_wp2_with fail
        go_region
        all_goals go_wp2
        go_roundw
        case rel =>
          refine ⟨t + 1, p + 1, (xorNext r, swp dk p c), by omega, by have := HPT.out; omega, by go_num, hsw.drewN _, by rw [hss]; exact HK.out, bel_drewN ((hbW.setCell (p := ⟨g, p, none⟩) hBg _).setCell (p := ⟨g, c, none⟩) hBg _) _, ?_, ?_, by rw [← HR.out]; exact HD.out⟩
          · rw [HX.out]; exact HCW.out
          · simpa using hfW
        case measure => have := HPT.out; simp [intOf]; omega
      · have y1 : decide ((o0 : Int) ≥ (l : Int)) = false := by simp; omega
        have y3 : ¬ (o0 : Int) ≥ (l : Int) := by omega
        have y2 : o0 = o1 := by have := HO.out; rw [if_neg hol] at this; exact this.symm
        subst y2
        go_wp2_with fail
        refine hnx.mono ?_
        rintro e w3 ⟨rfl, rfl⟩
        clear hnx
        go_wp2_with fail
        go_region
        all_goals go_wp2
        go_roundw
        case rel =>
          refine ⟨t + 1, p + 1, (xorNext r, swp dk p c), by omega, by have := HPT.out; omega, by go_num, hsw.drewN _, by rw [hss]; exact HK.out, bel_drewN ((hbW.setCell (p := ⟨g, p, none⟩) hBg _).setCell (p := ⟨g, c, none⟩) hBg _) _, ?_, ?_, by rw [← HR.out]; exact HD.out⟩
          · rw [HX.out]; exact HCW.out
          · simpa using hfW
        case measure => have := HPT.out; simp [intOf]; omega
    · have g1 : decide ((p : Int) ≤ (p0 : Int) + 2) = false := by simp; omega
      have g2 : ¬ (p : Int) ≤ (p0 : Int) + 2 := by omega
      clear hpos hp
      go_wp2_with fail
      go_end0
      obtain rfl : t = 3 := by omega
      have h1 := HD.out
      rw [HG.out.2.2.2] at h1
      subst h1
      exact ⟨rfl, ho, HK.out, hb⟩
end Go.Proofs.Ytpajojkhpnklfaa
