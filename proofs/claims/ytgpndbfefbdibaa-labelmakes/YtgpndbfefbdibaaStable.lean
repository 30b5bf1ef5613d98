/- What the library's stable sort of pairs by their categories does: a contract, for any number of pairs. -/
import Derived.Test.YtgpndbfefbdibaaSymAny
import Derived.Test.YtgpndbfefbdibaaLabMake
namespace Go.Proofs.Ytgpndbfefbdibaa
open Go.RowKit
set_option linter.unusedVariables false

abbrev PL := List (Int × Int)
/-- A block and what it was: as long, alike, and it does not fall. -/
def BK (p : PL × PL) : Prop := p.1.length = p.2.length ∧ StEq p.1 p.2 ∧ Nd p.1
def fl1 (L : List (PL × PL)) : PL := L.flatMap (·.1)
def fl2 (L : List (PL × PL)) : PL := L.flatMap (·.2)
/-- D is X, in blocks of k that are sorted, and a last one that is no longer. -/
def Blk (k : Nat) (D X : PL) : Prop := ∃ (L : List (PL × PL)) (r : PL × PL), D = fl1 L ++ r.1 ∧ X = fl2 L ++ r.2 ∧ (∀ p ∈ L, BK p ∧ p.1.length = k) ∧ BK r ∧ r.1.length ≤ k
def Full (k : Nat) (D X : PL) : Prop := ∃ (L : List (PL × PL)), D = fl1 L ∧ X = fl2 L ∧ (∀ p ∈ L, BK p ∧ p.1.length = k)
theorem Full.nil (k : Nat) : Full k [] [] := ⟨[], rfl, rfl, fun p hp => by simp at hp⟩
theorem Full.snoc {k : Nat} {D X : PL} (h : Full k D X) {A A' : PL} (hb : BK (A', A)) (hk : A'.length = k) : Full k (D ++ A') (X ++ A) := by
  obtain ⟨L, rfl, rfl, hL⟩ := h
  refine ⟨L ++ [(A', A)], by simp [fl1], by simp [fl2], fun p hp => ?_⟩
  rcases List.mem_append.1 hp with hp | hp
  · exact hL p hp
  · simp at hp; subst hp; exact ⟨hb, hk⟩
theorem Full.last {k : Nat} {D X : PL} (h : Full k D X) {A A' : PL} (hb : BK (A', A)) (hk : A'.length ≤ k) : Blk k (D ++ A') (X ++ A) := by
  obtain ⟨L, rfl, rfl, hL⟩ := h
  exact ⟨L, (A', A), rfl, rfl, hL, hb, hk⟩
theorem BK.nil : BK ([], []) := ⟨rfl, StEq.refl _, Nd.nil⟩
theorem Blk.len {k : Nat} {D X : PL} (h : Blk k D X) : D.length = X.length := by
  obtain ⟨L, r, rfl, rfl, hL, hr, _⟩ := h
  have : (fl1 L).length = (fl2 L).length := by
    clear hr
    induction L with
    | nil => rfl
    | cons p L ih =>
      have h1 := (hL p (by simp)).1.1
      have h2 := ih fun q hq => hL q (by simp [hq])
      simp only [fl1, fl2, List.flatMap_cons, List.length_append] at h2 ⊢
      omega
  rw [List.length_append, List.length_append, hr.1, this]
/-- Two blocks stand ahead. -/
theorem Blk.two {k : Nat} {D X : PL} (h : Blk k D X) (hk : 0 < k) (hl : 2 * k ≤ D.length) : ∃ A B A' B' D' X' : PL, D = A' ++ B' ++ D' ∧ X = A ++ B ++ X' ∧ BK (A', A) ∧ BK (B', B) ∧ A'.length = k ∧ B'.length = k ∧ Blk k D' X' := by
  obtain ⟨L, r, rfl, rfl, hL, hr, hrk⟩ := h
  match L, hL, hl with
  | [], _, hl => simp [fl1] at hl; omega
  | [p], hL, hl =>
    have h1 := hL p (by simp)
    simp [fl1] at hl
    exact ⟨p.2, r.2, p.1, r.1, [], [], by simp [fl1], by simp [fl2], h1.1, hr, h1.2, by omega, [], ([], []), rfl, rfl, fun q hq => by simp at hq, BK.nil, by simp⟩
  | p :: q :: L, hL, hl =>
    have h1 := hL p (by simp)
    have h2 := hL q (by simp)
    exact ⟨p.2, q.2, p.1, q.1, fl1 L ++ r.1, fl2 L ++ r.2, by simp [fl1], by simp [fl2], h1.1, h2.1, h1.2, h2.2, L, r, rfl, rfl, fun x hx => hL x (by simp [hx]), hr, hrk⟩
/-- One block and something stand ahead, no more. -/
theorem Blk.rest {k : Nat} {D X : PL} (h : Blk k D X) (h1 : k < D.length) (h2 : D.length < 2 * k) : ∃ A B A' B' : PL, D = A' ++ B' ∧ X = A ++ B ∧ BK (A', A) ∧ BK (B', B) ∧ A'.length = k ∧ 0 < B'.length := by
  obtain ⟨L, r, rfl, rfl, hL, hr, hrk⟩ := h
  match L, hL, h1, h2 with
  | [], _, h1, _ => simp [fl1] at h1; omega
  | [p], hL, h1, h2 =>
    have h3 := hL p (by simp)
    simp [fl1] at h1
    exact ⟨p.2, r.2, p.1, r.1, by simp [fl1], by simp [fl2], h3.1, hr, h3.2, by omega⟩
  | p :: q :: L, hL, _, h2 =>
    have h3 := hL p (by simp)
    have h4 := hL q (by simp)
    simp [fl1] at h2; omega
theorem Blk.one {k : Nat} {D X : PL} (h : Blk k D X) (hk : 0 < k) (h1 : D.length ≤ k) : BK (D, X) := by
  obtain ⟨L, r, rfl, rfl, hL, hr, hrk⟩ := h
  match L, hL, h1 with
  | [], _, _ => simpa [fl1, fl2] using hr
  | [p], hL, h1 =>
    have h3 := hL p (by simp)
    simp [fl1] at h1
    have h4 : r.1 = [] := List.eq_nil_of_length_eq_zero (by omega)
    have h5 : r.2 = [] := List.eq_nil_of_length_eq_zero (by have := hr.1; omega)
    simpa [fl1, fl2, h4, h5] using h3.1
  | p :: q :: L, hL, h1 =>
    have h3 := hL p (by simp)
    have h4 := hL q (by simp)
    simp [fl1] at h1; omega

set_option maxHeartbeats 2000000 in
theorem stable_any (g n cap B : Nat) (xs : List (Int × Int)) (w : World) (hown : OwnG PE 29 w B (some ⟨g, 0, none⟩) n cap (xs)) (hsz : n ≤ 500000) :
    Calls Try.prog 54 #[.slice (some ⟨g, 0, none⟩) n cap, .int .i64 n, .func (.func 37) #[] #[]] w fun e w' => e = .returned (.tuple #[]) ∧ ∃ ys, OwnG PE 29 w' B (some ⟨g, 0, none⟩) n cap (ys) ∧ StEq ys xs ∧ Nd ys ∧ w.grownBy w' (some g) := by
  have hln : Hid (xs.length = n) := hown.1
  go_enter Try.func54, Try.ntmps54
  go_wp2_with fail
  go_loopw [7, 8] (fun av bv wr => ∃ (a b : Nat) (D T X : PL), av = .int .i64 a ∧ bv = .int .i64 b ∧ b = a + 20 ∧ a ≤ n ∧ xs = X ++ T ∧ D.length = a ∧ X.length = a ∧ Full 20 D X ∧ OwnG PE 29 wr B (some ⟨g, 0, none⟩) n cap (D ++ T) ∧ w.grownBy wr (some g)) (fun av _ _ => n - (intOf av).toNat)
  case atStart => exact ⟨0, 20, [], xs, [], rfl, rfl, rfl, by omega, rfl, rfl, rfl, Full.nil _, hown, ⟨rfl, rfl, rfl, Nat.le_refl _, fun _ _ _ => rfl⟩⟩
  case round =>
    clear hown
    obtain ⟨a, b, D, T, X, rfl, rfl, hab, han, hX, hD, hXl, hfull, ho, hgr⟩ := hrel
    have HF : Hid (xs = X ++ T ∧ D.length = a ∧ X.length = a ∧ Full 20 D X) := ⟨hX, hD, hXl, hfull⟩
    have HAB : Hid (b = a + 20) := hab
    clear hX hD hXl hfull hab
    by_cases hbn : b ≤ n
    · have p1 : (b : Int) ≤ (n : Int) := by omega
      go_wp2_with fail
      have hT : Hid (20 ≤ T.length) := by have h1 := HF.out; have h2 := hln.out; rw [h1.1, List.length_append] at h2; have := HAB.out; show _ ≤ _; omega
      refine (insP_any g n cap B a b D (T.take 20) (T.drop 20) _ (by rw [List.append_assoc, List.take_append_drop]; exact ho) HF.out.2.1 (by have := hT.out; have := HAB.out; show _ = _; rw [List.length_take]; omega) (by omega)).mono ?_
      rintro e w1 ⟨rfl, M, ho1, hst, hnd, hml, hg1⟩
      have hgr1 := grown_trans hgr hg1 (fun x hx => .inl hx)
      have HR : Hid (∃ D' T' X' : PL, xs = X' ++ T' ∧ D'.length = b ∧ X'.length = b ∧ Full 20 D' X' ∧ OwnG PE 29 w1 B (some ⟨g, 0, none⟩) n cap (D' ++ T')) := by
        have h1 := HF.out; have h2 := hT.out; have h0 := HAB.out
        have h3 : (T.take 20).length = 20 := by rw [List.length_take]; omega
        refine ⟨D ++ M, T.drop 20, X ++ T.take 20, ?_, by rw [List.length_append]; omega, by rw [List.length_append]; omega, h1.2.2.2.snoc ⟨by simpa using hml, hst, hnd⟩ (by omega), ho1⟩
        rw [List.append_assoc, List.take_append_drop]; exact h1.1
      clear ho1 hst hnd hml hg1 ho hgr
      go_wp2_with fail
      go_roundw
      case rel =>
        obtain ⟨D', T', X', h1, h2, h3, h4, h5⟩ := HR.out
        exact ⟨b, b + 20, D', T', X', rfl, by go_num, rfl, by omega, h1, h2, h3, h4, h5, hgr1⟩
      case measure => have := HAB.out; simp [intOf]; omega
    · have p1 : decide ((b : Int) ≤ (n : Int)) = false := by simp; omega
      go_wp2_with fail
      have hT : Hid (T.length + a = n) := by have h1 := HF.out; have h2 := hln.out; rw [h1.1, List.length_append] at h2; show _ = _; omega
      refine (insP_any g n cap B a n D T [] _ (by simpa using ho) HF.out.2.1 (by have := hT.out; show _ = _; omega) (by omega)).mono ?_
      rintro e w1 ⟨rfl, M, ho1, hst, hnd, hml, hg1⟩
      have hgr1 := grown_trans hgr hg1 (fun x hx => .inl hx)
      have HR : Hid (∃ D' : PL, Blk 20 D' xs ∧ OwnG PE 29 w1 B (some ⟨g, 0, none⟩) n cap (D')) := by
        have h1 := HF.out; have h2 := hT.out
        refine ⟨D ++ M, ?_, by simpa using ho1⟩
        rw [h1.1]
        exact h1.2.2.2.last ⟨hml, hst, hnd⟩ (by have := HAB.out; omega)
      clear ho1 hst hnd hml hg1 ho hgr HF hT p1 HAB hbn han
      go_wp2_with fail
      go_loopw [6] (fun kv wr => ∃ (k : Nat) (D : PL), kv = .int .i64 k ∧ 20 ≤ k ∧ (k ≤ 20 ∨ k < 2 * n) ∧ Blk k D xs ∧ OwnG PE 29 wr B (some ⟨g, 0, none⟩) n cap (D) ∧ w.grownBy wr (some g)) (fun kv _ => n - (intOf kv).toNat)
      case atStart => obtain ⟨D', h1, h2⟩ := HR.out; exact ⟨20, D', rfl, by omega, .inl (by omega), h1, h2, hgr1⟩
      case round =>
        clear HR hgr1
        obtain ⟨k, D, rfl, hk20, hk2, hblk, ho, hgr⟩ := hrel
        by_cases hkn : k < n
        · have p1 : (k : Int) < (n : Int) := by omega
          obtain ⟨k2, hk2'⟩ : ∃ z, z = 2 * k := ⟨_, rfl⟩
          have q1 : 2 * (k : Int) = (k2 : Int) := by omega
          have q1' : (k : Int) * 2 = (k2 : Int) := by omega
          have HB : Hid (Blk k D xs) := hblk
          have HK : Hid (k2 = 2 * k) := hk2'
          have hk2n : k2 ≤ 1000000 := by omega
          clear hblk hk2'
          go_wp2_with fail
          obtain ⟨wo, rfl⟩ : ∃ x, x = wr := ⟨_, rfl⟩
          go_loopw [7, 8] (fun av bv wi => ∃ (a b : Nat) (D1 D2 X1 X2 : PL), av = .int .i64 a ∧ bv = .int .i64 b ∧ b = a + k2 ∧ a ≤ n ∧ xs = X1 ++ X2 ∧ D1.length = a ∧ Full k2 D1 X1 ∧ Blk k D2 X2 ∧ D2.length + a = n ∧ OwnG PE 29 wi B (some ⟨g, 0, none⟩) n cap (D1 ++ D2) ∧ w.grownBy wi (some g)) (fun av _ _ => n - (intOf av).toNat)
          case atStart => exact ⟨0, k2, [], D, [], xs, rfl, rfl, by omega, by omega, rfl, rfl, Full.nil _, HB.out, by have := HB.out.len; have := hln.out; omega, ho, hgr⟩
          case round =>
            clear ho hgr
            obtain ⟨a, b, D1, D2, X1, X2, rfl, rfl, hab, han, hX, hD, hfull, hblk, hdn, ho, hgr⟩ := hrel
            have HF : Hid (xs = X1 ++ X2 ∧ D1.length = a ∧ Full k2 D1 X1 ∧ Blk k D2 X2 ∧ D2.length + a = n) := ⟨hX, hD, hfull, hblk, hdn⟩
            have HAB : Hid (b = a + k2) := hab
            have hbn0 : b ≤ 2000000 := by omega
            clear hX hD hfull hblk hdn hab
            by_cases hbn : b ≤ n
            · have p2 : (b : Int) ≤ (n : Int) := by omega
              obtain ⟨ak, hak⟩ : ∃ z, z = a + k := ⟨_, rfl⟩
              have q2 : (a : Int) + (k : Int) = (ak : Int) := by omega
              have HAK : Hid (ak = a + k) := hak
              have hakn : ak ≤ n := by have := HK.out; have := HAB.out; omega
              clear hak
              obtain ⟨A, Bk, A', B', D', X', h1, h2, h3, h4, h5, h6, h7⟩ := HF.out.2.2.2.1.two (by omega) (by have := HF.out.2.2.2.2; have := HK.out; have := HAB.out; omega)
              have HT : Hid (D2 = A' ++ B' ++ D' ∧ X2 = A ++ Bk ++ X' ∧ BK (A', A) ∧ BK (B', Bk) ∧ A'.length = k ∧ B'.length = k ∧ Blk k D' X') := ⟨h1, h2, h3, h4, h5, h6, h7⟩
              clear h1 h2 h3 h4 h5 h6 h7
              go_wp2_with fail
              refine (symM_any (A'.length + B'.length) g n cap B a ak b D1 A' B' D' _ (by have h1 := HT.out.1; rw [h1] at ho; simpa only [List.append_assoc] using ho) HT.out.2.2.1.2.2 HT.out.2.2.2.1.2.2 HF.out.2.1 (by have h1 := HT.out; have h2 := HAK.out; omega) (by have h1 := HT.out; have h2 := HAK.out; have h3 := HK.out; have h4 := HAB.out; omega) (by have h1 := HT.out; omega) (by have h1 := HT.out; omega) (Nat.le_refl _) (by omega)).mono ?_
              rintro e w1 ⟨rfl, M, ho1, hst, hnd, hml, hg1⟩
              have hgr1 := grown_trans hgr hg1 (fun x hx => .inl hx)
              have HR : Hid (∃ D1 D2 X1 X2 : PL, xs = X1 ++ X2 ∧ D1.length = b ∧ Full k2 D1 X1 ∧ Blk k D2 X2 ∧ D2.length + b = n ∧ OwnG PE 29 w1 B (some ⟨g, 0, none⟩) n cap (D1 ++ D2)) := by
                have h1 := HT.out; have h2 := HF.out; have h3 := HK.out; have h0 := HAB.out
                have h4 : D2.length = A'.length + B'.length + D'.length := by rw [h1.1]; simp only [List.length_append]
                refine ⟨D1 ++ M, D', X1 ++ (A ++ Bk), X', ?_, by rw [List.length_append]; omega, h2.2.2.1.snoc ⟨?_, ?_, hnd⟩ (by omega), h1.2.2.2.2.2.2, by omega, by simpa only [List.append_assoc] using ho1⟩
                · rw [h2.1, h1.2.1]; simp only [List.append_assoc]
                · have h5 := h1.2.2.1.1; have h6 := h1.2.2.2.1.1
                  simp only [List.length_append] at h5 h6 ⊢; omega
                · exact hst.trans (h1.2.2.1.2.1.append h1.2.2.2.1.2.1)
              clear ho1 hst hnd hml hg1 ho hgr HT
              go_wp2_with fail
              go_roundw
              case rel =>
                obtain ⟨D1, D2, X1, X2, h1, h2, h3, h4, h5, h6⟩ := HR.out
                exact ⟨b, b + k2, D1, D2, X1, X2, rfl, by go_num, rfl, by omega, h1, h2, h3, h4, h5, h6, hgr1⟩
              case measure => have := HAB.out; have := HK.out; simp [intOf]; omega
            · have p2 : decide ((b : Int) ≤ (n : Int)) = false := by simp; omega
              obtain ⟨ak, hak⟩ : ∃ z, z = a + k := ⟨_, rfl⟩
              have q2 : (a : Int) + (k : Int) = (ak : Int) := by omega
              have HAK : Hid (ak = a + k) := hak
              have hakn : ak ≤ 2000000 := by omega
              clear hak
              by_cases hmn : ak < n
              · have p3 : (ak : Int) < (n : Int) := by omega
                obtain ⟨A, Bk, A', B', h1, h2, h3, h4, h5, h6⟩ := HF.out.2.2.2.1.rest (by have := HF.out.2.2.2.2; have := HAK.out; omega) (by have := HF.out.2.2.2.2; have := HK.out; have := HAB.out; omega)
                have HT : Hid (D2 = A' ++ B' ∧ X2 = A ++ Bk ∧ BK (A', A) ∧ BK (B', Bk) ∧ A'.length = k ∧ 0 < B'.length ∧ D2.length = A'.length + B'.length) := ⟨h1, h2, h3, h4, h5, h6, by rw [h1, List.length_append]⟩
                clear h1 h2 h3 h4 h5 h6
                go_wp2_with fail
                refine (symM_any (A'.length + B'.length) g n cap B a ak n D1 A' B' [] _ (by have h1 := HT.out.1; rw [h1] at ho; simpa only [List.append_assoc, List.append_nil] using ho) HT.out.2.2.1.2.2 HT.out.2.2.2.1.2.2 HF.out.2.1 (by have h1 := HT.out; have h2 := HAK.out; omega) (by have h1 := HT.out; have h2 := HAK.out; have h3 := HF.out.2.2.2.2; omega) (by have h1 := HT.out; omega) (by have h1 := HT.out; omega) (Nat.le_refl _) (by omega)).mono ?_
                rintro e w1 ⟨rfl, M, ho1, hst, hnd, hml, hg1⟩
                have hgr1 := grown_trans hgr hg1 (fun x hx => .inl hx)
                have HR : Hid (∃ D : PL, Blk k2 D xs ∧ OwnG PE 29 w1 B (some ⟨g, 0, none⟩) n cap (D)) := by
                  have h1 := HT.out; have h2 := HF.out; have h3 := HK.out; have h0 := HAB.out
                  refine ⟨D1 ++ M, ?_, by simpa only [List.append_assoc, List.append_nil] using ho1⟩
                  rw [h2.1, h1.2.1]
                  refine h2.2.2.1.last ⟨?_, ?_, hnd⟩ (by omega)
                  · have h5 := h1.2.2.1.1; have h6 := h1.2.2.2.1.1
                    simp only [List.length_append] at h5 h6 ⊢; omega
                  · exact hst.trans (h1.2.2.1.2.1.append h1.2.2.2.1.2.1)
                clear ho1 hst hnd hml hg1 ho hgr HT
                go_wp2_with fail
                go_roundw
                case rel =>
                  obtain ⟨D, h1, h2⟩ := HR.out
                  exact ⟨k2, D, rfl, by have := HK.out; omega, .inr (by have := HK.out; omega), h1, h2, hgr1⟩
                case measure => have := HK.out; simp [intOf]; omega
              · have p3 : decide ((ak : Int) < (n : Int)) = false := by simp; omega
                have HR : Hid (∃ D : PL, Blk k2 D xs ∧ OwnG PE 29 wr B (some ⟨g, 0, none⟩) n cap (D)) := by
                  have h2 := HF.out; have h3 := HK.out; have h4 := HAK.out
                  refine ⟨D1 ++ D2, ?_, ho⟩
                  rw [h2.1]
                  exact h2.2.2.1.last (h2.2.2.2.1.one (by omega) (by omega)) (by omega)
                clear ho
                go_wp2_with fail
                go_roundw
                case rel =>
                  obtain ⟨D, h1, h2⟩ := HR.out
                  exact ⟨k2, D, rfl, by have := HK.out; omega, .inr (by have := HK.out; omega), h1, h2, hgr⟩
                case measure => have := HK.out; simp [intOf]; omega
        · have p1 : decide ((k : Int) < (n : Int)) = false := by simp; omega
          have HR : Hid (StEq D xs ∧ Nd D) := by
            have h1 := ho.1
            exact (hblk.one (by omega) (by omega)).2
          clear hblk
          go_wp2_with fail
          go_end0
          exact ⟨rfl, D, ho, HR.out.1, HR.out.2, hgr⟩
theorem sort_any : SortOK 500000 := by
  intro B so n cap xs w hown hn
  rcases hown.cases with ⟨rfl, rfl, rfl, rfl⟩ | ⟨g, cur, rfl, _⟩
  · exact sort_small B none 0 0 [] w hown (by omega)
  · go_enter Try.func36, Try.ntmps36
    go_wp2_with fail
    refine (stable_any g n cap B xs w hown hn).mono ?_
    rintro e w1 ⟨rfl, h⟩
    have H : Hid (_) := h
    clear h
    go_wp2_with fail
    go_end0
    exact ⟨rfl, H.out⟩
end Go.Proofs.Ytgpndbfefbdibaa
