/- What scode.Take answers: a contract, for every slice of bytes. -/
import Derived.Test.YtkmpmljohjelhaaScAr
namespace Go.Proofs.Ytkmpmljohjelhaa
open Go.RowKit
set_option maxRecDepth 100000

/-- The run at the label: i sets are read. -/
def GAt (w : World) (a : Option Addr) (len cap : Nat) (bs : List Int) (a' : Act) (wr : World) : Prop :=
  ∃ (i n : Nat) (x : Sv), a' = { tmps := #[.slice a len cap, slt a' 1, .pointer (some ⟨w.heap.size, 0, none⟩), .int .i64 n, .int .i64 0, .pointer (some ⟨w.heap.size + 1, 0, none⟩), .int .i64 i, slt a' 7, slt a' 8, slt a' 9, slt a' 10, slt a' 11, slt a' 12, slt a' 13, slt a' 14, slt a' 15, slt a' 16, slt a' 17, slt a' 18, slt a' 19, slt a' 20, slt a' 21, slt a' 22, slt a' 23, slt a' 24, slt a' 25, slt a' 26, slt a' 27, slt a' 28, slt a' 29, slt a' 30, slt a' 31, slt a' 32, slt a' 33, slt a' 34, slt a' 35, slt a' 36, slt a' 37, slt a' 38, slt a' 39, slt a' 40, slt a' 41, slt a' 42, slt a' 43, slt a' 44], defers := [] } ∧ n ≤ len ∧ ArAt w wr x ∧ StAt bs i n x

set_option maxHeartbeats 4000000 in
theorem stakeO_any : STakeO 44 := fun a len cap bs w hr hbd => by
  have hcap := hr.cap_le
  have hl : Hid (bs.length = len) := hr.len
  have hB : Hid (Byt bs) := hr.byt
  have hinit := ArAt.init w
  go_enter Try.func44, Try.ntmps44
  go_wp2_with fail
  refine wp_scope_once 0 (GAt w a len cap bs) (fun a' _ => 3 - (intOf (a'.tmps.getD 6 undef)).toNat) rfl ?_ ?_
  · rintro a' wr ⟨i, n, x, hact, hn, har, hst⟩
    generalize slt a' = s at hact
    subst hact
    have hrr := hr.below har.bel
    have hn' : (n : Int) ≤ (len : Int) := by omega
    rcases hst with ⟨rfl, hn0, hx⟩ | ⟨rfl, h1, hk, hx⟩ | ⟨rfl, h1, h2, hk, hx, hy⟩ | ⟨rfl, h1, h2, h3, hk, hx, hy, hz⟩
    · obtain rfl := hx
      subst hn0
      have ht := takeSet_any a len cap bs wr hrr
      obtain ⟨E, hEe⟩ : ∃ E, E = tsE bs := ⟨_, rfl⟩
      rw [← hEe] at ht
      by_cases hE0 : E = 0
      · subst hE0
        have HE : Hid (tsE bs = 0) := hEe.symm
        obtain ⟨m, hm, hml, _, hm0⟩ := ts_reach bs hB.out 0 (by have := hl.out; omega) (by simpa using HE.out)
        rw [List.drop_zero] at hm
        rw [Nat.zero_add] at hml
        rw [hl.out] at hml
        rw [hm] at ht
        have HNN : Hid (tsN bs = (m : Int)) := hm
        obtain ⟨nn, hnn⟩ : ∃ nn : Nat, nn = m := ⟨_, rfl⟩
        have HQ : Hid (nn = (m : Int).toNat) := by show _ = _; omega
        have hnl : nn ≤ len := by omega
        subst hnn
        clear hm hEe hml
        go_wp2_with fail
        refine ht.mono ?_
        rintro e w2 ⟨so, k, co, rfl, o2, b2⟩
        have har2 := har.below b2
        clear ht
        have fA := har2.fA 0
        have cA := har2.c0
        go_wp2_with fail
        go_step3
        refine ⟨rfl, ⟨1, nn, { Sv.none with a1 := so, n1 := k, c1 := co, xs := tsY bs }, rfl, hnl, har2.put0 o2 har.sz, ?_⟩, by simp [intOf]⟩
        exact .inr (.inl ⟨rfl, HE.out, by rw [k1, HNN.out]; exact HQ.out, rfl⟩)
      · have e1 : (E != 0) = true := by simpa using hE0
        have e2 : (E == 0) = false := by simpa using hE0
        have TT : Hid (svE bs = E ∧ svN bs = 0 ∧ svX bs = [] ∧ svY bs = [] ∧ svZ bs = []) := by
          show _ ∧ _
          have := sv_bad (sv_one (bs := bs) (by rw [← hEe]; exact hE0)) (by rw [← hEe]; exact hE0)
          rwa [← hEe] at this
        generalize tsN bs = N at ht
        clear hEe hE0
        go_wp2_with fail
        refine ht.mono ?_
        rintro e w2 ⟨so, k, co, rfl, o2, b2⟩
        have har2 := har.below b2
        clear ht
        have g0 := har2.g0
        have g1 := har2.g1
        have g2 := har2.g2
        have f0 := har2.fG 0
        have f1 := har2.fG 1
        have f2 := har2.fG 2
        go_wp2_with fail
        simp only [Exit.jump]
        obtain ⟨e1, b1⟩ := har2.fail
        refine bodyPost_ret (ret_sv3 rfl _ _ w.heap.size Sv.none rfl e1) rfl ?_
        exact ⟨Sv.none, by rw [TT.out.1, TT.out.2.1]; rfl, Sv.none_own _ _, ⟨TT.out.2.2.1.symm, TT.out.2.2.2.1.symm, TT.out.2.2.2.2.symm⟩, b1⟩
    · have HK : Hid (n = k1 bs) := hk
      have ht := takeSet_any _ _ _ _ wr (hrr.from n hn)
      have HST : Hid (tsE bs = 0 ∧ x.xs = tsY bs) := ⟨h1, hx⟩
      obtain ⟨E, hEe⟩ : ∃ E, E = tsE (bs.drop n) := ⟨_, rfl⟩
      rw [← hEe] at ht
      by_cases hE0 : E = 0
      · subst hE0
        have HE : Hid (tsE (bs.drop n) = 0) := hEe.symm
        obtain ⟨m, hm, hml, _, hm0⟩ := ts_reach bs hB.out n (by have := hl.out; omega) HE.out
        rw [hl.out] at hml
        rw [hm] at ht
        have HNN : Hid (tsN (bs.drop n) = (m : Int)) := hm
        obtain ⟨nn, hnn⟩ : ∃ nn : Nat, nn = n + m := ⟨_, rfl⟩
        have hcn : ¬ cap = n := by omega
        rw [if_neg hcn] at ht
        have hni : (n : Int) + (m : Int) = (nn : Int) := by omega
        have HQ : Hid (nn = n + (m : Int).toNat) := by show _ = _; omega
        have hnl : nn ≤ len := by omega
        clear hm hEe hml hnn hk h1 hx
        go_wp2_with fail
        refine ht.mono ?_
        rintro e w2 ⟨so, k, co, rfl, o2, b2⟩
        have har2 := har.below b2
        clear ht
        have fA := har2.fA 1
        have cA := har2.c1
        go_wp2_with fail
        go_step3
        refine ⟨rfl, ⟨2, nn, { x with a2 := so, n2 := k, c2 := co, ys := tsY (bs.drop n) }, rfl, hnl, har2.put1 o2 har.sz, ?_⟩, by simp [intOf]⟩
        exact .inr (.inr (.inl ⟨rfl, HST.out.1, by rw [← HK.out]; exact HE.out, by rw [k2, ← HK.out, HNN.out]; exact HQ.out, HST.out.2, by rw [← HK.out]⟩))
      · have e1 : (E != 0) = true := by simpa using hE0
        have e2 : (E == 0) = false := by simpa using hE0
        have TT : Hid (svE bs = E ∧ svN bs = 0 ∧ svX bs = [] ∧ svY bs = [] ∧ svZ bs = []) := by
          show _ ∧ _
          have := sv_bad (sv_two (bs := bs) h1 (by rw [← hk, ← hEe]; exact hE0)) (by rw [← hk, ← hEe]; exact hE0)
          rwa [← hk, ← hEe] at this
        generalize tsN (bs.drop n) = N at ht
        clear hEe hE0 hk h1 hx
        by_cases hcn : cap = n
        · rw [if_pos hcn, show cap - n = 0 by omega] at ht
          go_wp2_with fail
          refine ht.mono ?_
          rintro e w2 ⟨so, k, co, rfl, o2, b2⟩
          have har2 := har.below b2
          clear ht
          have g0 := har2.g0
          have g1 := har2.g1
          have g2 := har2.g2
          have f0 := har2.fG 0
          have f1 := har2.fG 1
          have f2 := har2.fG 2
          go_wp2_with fail
          simp only [Exit.jump]
          obtain ⟨e1, b1⟩ := har2.fail
          refine bodyPost_ret (ret_sv3 rfl _ _ w.heap.size Sv.none rfl e1) rfl ?_
          exact ⟨Sv.none, by rw [TT.out.1, TT.out.2.1]; rfl, Sv.none_own _ _, ⟨TT.out.2.2.1.symm, TT.out.2.2.2.1.symm, TT.out.2.2.2.2.symm⟩, b1⟩
        · rw [if_neg hcn] at ht
          go_wp2_with fail
          refine ht.mono ?_
          rintro e w2 ⟨so, k, co, rfl, o2, b2⟩
          have har2 := har.below b2
          clear ht
          have g0 := har2.g0
          have g1 := har2.g1
          have g2 := har2.g2
          have f0 := har2.fG 0
          have f1 := har2.fG 1
          have f2 := har2.fG 2
          go_wp2_with fail
          simp only [Exit.jump]
          obtain ⟨e1, b1⟩ := har2.fail
          refine bodyPost_ret (ret_sv3 rfl _ _ w.heap.size Sv.none rfl e1) rfl ?_
          exact ⟨Sv.none, by rw [TT.out.1, TT.out.2.1]; rfl, Sv.none_own _ _, ⟨TT.out.2.2.1.symm, TT.out.2.2.2.1.symm, TT.out.2.2.2.2.symm⟩, b1⟩
    · have HK : Hid (n = k2 bs) := hk
      have ht := takeSet_any _ _ _ _ wr (hrr.from n hn)
      have HST : Hid (tsE bs = 0 ∧ tsE (bs.drop (k1 bs)) = 0 ∧ x.xs = tsY bs ∧ x.ys = tsY (bs.drop (k1 bs))) := ⟨h1, h2, hx, hy⟩
      obtain ⟨E, hEe⟩ : ∃ E, E = tsE (bs.drop n) := ⟨_, rfl⟩
      rw [← hEe] at ht
      by_cases hE0 : E = 0
      · subst hE0
        have HE : Hid (tsE (bs.drop n) = 0) := hEe.symm
        obtain ⟨m, hm, hml, _, hm0⟩ := ts_reach bs hB.out n (by have := hl.out; omega) HE.out
        rw [hl.out] at hml
        rw [hm] at ht
        have HNN : Hid (tsN (bs.drop n) = (m : Int)) := hm
        obtain ⟨nn, hnn⟩ : ∃ nn : Nat, nn = n + m := ⟨_, rfl⟩
        have hcn : ¬ cap = n := by omega
        rw [if_neg hcn] at ht
        have hni : (n : Int) + (m : Int) = (nn : Int) := by omega
        have HQ : Hid (nn = n + (m : Int).toNat) := by show _ = _; omega
        have hnl : nn ≤ len := by omega
        clear hm hEe hml hnn hk h1 h2 hx hy
        go_wp2_with fail
        refine ht.mono ?_
        rintro e w2 ⟨so, k, co, rfl, o2, b2⟩
        have har2 := har.below b2
        clear ht
        have fA := har2.fA 2
        have cA := har2.c2
        go_wp2_with fail
        go_step3
        refine ⟨rfl, ⟨3, nn, { x with a3 := so, n3 := k, c3 := co, zs := tsY (bs.drop n) }, rfl, hnl, har2.put2 o2 har.sz, ?_⟩, by simp [intOf]⟩
        exact .inr (.inr (.inr ⟨rfl, HST.out.1, HST.out.2.1, by rw [← HK.out]; exact HE.out, by rw [k3, ← HK.out, HNN.out]; exact HQ.out, HST.out.2.2.1, HST.out.2.2.2, by rw [← HK.out]⟩))
      · have e1 : (E != 0) = true := by simpa using hE0
        have e2 : (E == 0) = false := by simpa using hE0
        have TT : Hid (svE bs = E ∧ svN bs = 0 ∧ svX bs = [] ∧ svY bs = [] ∧ svZ bs = []) := by
          show _ ∧ _
          have := sv_bad (sv_three (bs := bs) h1 h2 (by rw [← hk, ← hEe]; exact hE0)) (by rw [← hk, ← hEe]; exact hE0)
          rwa [← hk, ← hEe] at this
        generalize tsN (bs.drop n) = N at ht
        clear hEe hE0 hk h1 h2 hx hy
        by_cases hcn : cap = n
        · rw [if_pos hcn, show cap - n = 0 by omega] at ht
          go_wp2_with fail
          refine ht.mono ?_
          rintro e w2 ⟨so, k, co, rfl, o2, b2⟩
          have har2 := har.below b2
          clear ht
          have g0 := har2.g0
          have g1 := har2.g1
          have g2 := har2.g2
          have f0 := har2.fG 0
          have f1 := har2.fG 1
          have f2 := har2.fG 2
          go_wp2_with fail
          simp only [Exit.jump]
          obtain ⟨e1, b1⟩ := har2.fail
          refine bodyPost_ret (ret_sv3 rfl _ _ w.heap.size Sv.none rfl e1) rfl ?_
          exact ⟨Sv.none, by rw [TT.out.1, TT.out.2.1]; rfl, Sv.none_own _ _, ⟨TT.out.2.2.1.symm, TT.out.2.2.2.1.symm, TT.out.2.2.2.2.symm⟩, b1⟩
        · rw [if_neg hcn] at ht
          go_wp2_with fail
          refine ht.mono ?_
          rintro e w2 ⟨so, k, co, rfl, o2, b2⟩
          have har2 := har.below b2
          clear ht
          have g0 := har2.g0
          have g1 := har2.g1
          have g2 := har2.g2
          have f0 := har2.fG 0
          have f1 := har2.fG 1
          have f2 := har2.fG 2
          go_wp2_with fail
          simp only [Exit.jump]
          obtain ⟨e1, b1⟩ := har2.fail
          refine bodyPost_ret (ret_sv3 rfl _ _ w.heap.size Sv.none rfl e1) rfl ?_
          exact ⟨Sv.none, by rw [TT.out.1, TT.out.2.1]; rfl, Sv.none_own _ _, ⟨TT.out.2.2.1.symm, TT.out.2.2.2.1.symm, TT.out.2.2.2.2.symm⟩, b1⟩
    · have c0 := har.c0
      have c1 := har.c1
      have c2 := har.c2
      have g0 := har.g0
      have g1 := har.g1
      have g2 := har.g2
      have f0 := har.fG 0
      have f1 := har.fG 1
      have f2 := har.fG 2
      obtain ⟨p1, p2, p3⟩ := har.into
      have hmay := maySets_any x _ p2
      cases hq : mayV x.xs x.ys x.zs
      · have TT : Hid (svE bs = 2 ∧ svN bs = 0 ∧ svX bs = [] ∧ svY bs = [] ∧ svZ bs = []) := by
          show _ ∧ _
          rw [hx, hy, hz] at hq
          exact sv_bad (sv_not h1 h2 h3 hq) (by decide)
        rw [hq] at hmay
        clear hq h1 h2 h3 hk hx hy hz
        go_wp2_with fail
        refine hmay.mono ?_
        rintro e w2 ⟨rfl, b2⟩
        have p4 := (b2.block _ (lt_of_cell (sv_cell_of_heap p1 0 _ rfl))).trans p1
        have p5 := ext_trans p3 b2
        have p6 := p2.below b2
        have q0 := sv_cell_of_heap p4 0 _ rfl
        have q1 := sv_cell_of_heap p4 1 _ rfl
        have q2 := sv_cell_of_heap p4 2 _ rfl
        have r0 := frozen_of_row w2 _ 0 _ 28 p4
        have r1 := frozen_of_row w2 _ 1 _ 28 p4
        have r2 := frozen_of_row w2 _ 2 _ 28 p4
        go_wp2_with fail
        simp only [Exit.jump]
        refine bodyPost_ret (ret_sv3 rfl _ _ w.heap.size Sv.none rfl (put3_heap p4 Sv.none)) rfl ?_
        exact ⟨Sv.none, by rw [TT.out.1, TT.out.2.1]; rfl, Sv.none_own _ _, ⟨TT.out.2.2.1.symm, TT.out.2.2.2.1.symm, TT.out.2.2.2.2.symm⟩, put3_below p5 (Nat.le_refl _) Sv.none⟩
      · have TT : Hid (svE bs = 0 ∧ svN bs = (n : Int) ∧ svX bs = x.xs ∧ svY bs = x.ys ∧ svZ bs = x.zs) := by
          show _ ∧ _
          rw [hx, hy, hz, hk]
          exact sv_good h1 h2 h3 (by rw [← hx, ← hy, ← hz]; exact hq)
        rw [hq] at hmay
        clear hq h1 h2 h3 hk hx hy hz
        go_wp2_with fail
        refine hmay.mono ?_
        rintro e w2 ⟨rfl, b2⟩
        have p4 := (b2.block _ (lt_of_cell (sv_cell_of_heap p1 0 _ rfl))).trans p1
        have p5 := ext_trans p3 b2
        have p6 := p2.below b2
        have q0 := sv_cell_of_heap p4 0 _ rfl
        have q1 := sv_cell_of_heap p4 1 _ rfl
        have q2 := sv_cell_of_heap p4 2 _ rfl
        have r0 := frozen_of_row w2 _ 0 _ 28 p4
        have r1 := frozen_of_row w2 _ 1 _ 28 p4
        have r2 := frozen_of_row w2 _ 2 _ 28 p4
        go_wp2_with fail
        simp only [Exit.jump]
        refine bodyPost_ret (ret_sv3 rfl _ _ w.heap.size x rfl (put3_heap p4 x)) rfl ?_
        refine ⟨x, by rw [TT.out.1, TT.out.2.1]; rfl, (((((⟨har.o1, har.o2, har.o3⟩ : x.Own wr (w.heap.size + 2)).grown (put3_grown wr w.heap.size x) (by omega)).below b2).grown (put3_grown w2 w.heap.size x) (by omega)).mono (by omega)), ⟨TT.out.2.2.1.symm, TT.out.2.2.2.1.symm, TT.out.2.2.2.2.symm⟩, put3_below p5 (Nat.le_refl _) x⟩
  · intro hpass
    go_wp2_with fail
    go_step3
    rename_i hK
    refine hK _ _ ?_
    exact hpass.out _ _ ⟨0, 0, Sv.none, rfl, Nat.zero_le _, hinit, .inl ⟨rfl, rfl, rfl⟩⟩
theorem stake_any : STake 44 := stakeO_any.plain
end Go.Proofs.Ytkmpmljohjelhaa
