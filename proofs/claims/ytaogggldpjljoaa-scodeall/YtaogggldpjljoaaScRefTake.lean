/- What the document's TakeSets answers: a contract, for every slice of bytes. -/
import Derived.Test.YtaogggldpjljoaaScAr
namespace Go.Proofs.Ytaogggldpjljoaa
open Go.RowKit

set_option maxHeartbeats 4000000 in
theorem refTakeS_any : STake 9 := fun a len cap bs w hr hbd => by
  have hcap := hr.cap_le
  have hl : Hid (bs.length = len) := hr.len
  have hB : Hid (Byt bs) := hr.byt
  have hinit := ArAt.init w
  go_enter Try.func9, Try.ntmps9
  go_wp2_with fail
  go_loopw [6, 7] (fun at_ iv wr => ∃ (i n : Nat) (x : Sv), iv = .int .i64 i ∧ at_ = .int .i64 n ∧ n ≤ len ∧ ArAt w wr x ∧ StAt bs i n x) (fun _ iv _ => 3 - (intOf iv).toNat)
  case atStart => exact ⟨0, 0, Sv.none, rfl, rfl, Nat.zero_le _, hinit, .inl ⟨rfl, rfl, rfl⟩⟩
  case round =>
    obtain ⟨i, n, x, rfl, rfl, hn, har, hst⟩ := hrel
    have hrr := hr.below har.bel
    have hn' : (n : Int) ≤ (len : Int) := by omega
    rcases hst with ⟨rfl, hn0, hx⟩ | ⟨rfl, h1, hk, hx⟩ | ⟨rfl, h1, h2, hk, hx, hy⟩ | ⟨rfl, h1, h2, h3, hk, hx, hy, hz⟩
    · obtain rfl := hx
      subst hn0
      have ht := refTakeSet_any a len cap bs wr hrr
      obtain ⟨E, hEe⟩ : ∃ E, E = tsE bs := ⟨_, rfl⟩
      rw [← hEe] at ht
      by_cases hE0 : E = 0
      · subst hE0
        have HE : Hid (tsE bs = 0) := hEe.symm
        obtain ⟨m, hm, hml, _, hm0⟩ := ts_reach bs hB.out 0 (by have := hl.out; omega) (by simpa using HE.out)
        rw [List.drop_zero] at hm
        rw [Nat.zero_add] at hml
        rw [hl.out] at hml
        rw [hm] at ht
        have HNN : Hid (tsN bs = (m : Int)) := hm
        obtain ⟨nn, hnn⟩ : ∃ nn : Nat, nn = m := ⟨_, rfl⟩
        have HQ : Hid (nn = (m : Int).toNat) := by show _ = _; omega
        have hnl : nn ≤ len := by omega
        subst hnn
        clear hm hEe hml
        go_wp2_with fail
        refine ht.mono ?_
        rintro e w2 ⟨so, k, co, rfl, o2, b2⟩
        have har2 := har.below b2
        clear ht
        have fA := har2.fA 0
        have cA := har2.c0
        go_wp2_with fail
        go_roundw
        case rel =>
          refine ⟨1, nn, { Sv.none with a1 := so, n1 := k, c1 := co, xs := tsY bs }, rfl, rfl, hnl, har2.put0 o2 har.sz, ?_⟩
          exact .inr (.inl ⟨rfl, HE.out, by rw [k1, HNN.out]; exact HQ.out, rfl⟩)
        case measure => simp [intOf]
      · have e1 : (E != 0) = true := by simpa using hE0
        have e2 : (E == 0) = false := by simpa using hE0
        have TT : Hid (svE bs = E ∧ svN bs = 0 ∧ svX bs = [] ∧ svY bs = [] ∧ svZ bs = []) := by
          show _ ∧ _
          have := sv_bad (sv_one (bs := bs) (by rw [← hEe]; exact hE0)) (by rw [← hEe]; exact hE0)
          rwa [← hEe] at this
        generalize tsN bs = N at ht
        clear hEe hE0
        go_wp2_with fail
        refine ht.mono ?_
        rintro e w2 ⟨so, k, co, rfl, o2, b2⟩
        have har2 := har.below b2
        clear ht
        have g0 := har2.g0
        have g1 := har2.g1
        have g2 := har2.g2
        have f0 := har2.fG 0
        have f1 := har2.fG 1
        have f2 := har2.fG 2
        go_wp2_with fail
        obtain ⟨e1, b1⟩ := har2.fail
        refine bodyPost_ret (ret_sv3 rfl _ _ w.heap.size Sv.none rfl e1) rfl ?_
        exact ⟨Sv.none, by rw [TT.out.1, TT.out.2.1]; rfl, Sv.none_in _, ⟨TT.out.2.2.1.symm, TT.out.2.2.2.1.symm, TT.out.2.2.2.2.symm⟩, b1⟩
    · have HK : Hid (n = k1 bs) := hk
      have ht := refTakeSet_any _ _ _ _ wr (hrr.from n hn)
      have HST : Hid (tsE bs = 0 ∧ x.xs = tsY bs) := ⟨h1, hx⟩
      obtain ⟨E, hEe⟩ : ∃ E, E = tsE (bs.drop n) := ⟨_, rfl⟩
      rw [← hEe] at ht
      by_cases hE0 : E = 0
      · subst hE0
        have HE : Hid (tsE (bs.drop n) = 0) := hEe.symm
        obtain ⟨m, hm, hml, _, hm0⟩ := ts_reach bs hB.out n (by have := hl.out; omega) HE.out
        rw [hl.out] at hml
        rw [hm] at ht
        have HNN : Hid (tsN (bs.drop n) = (m : Int)) := hm
        obtain ⟨nn, hnn⟩ : ∃ nn : Nat, nn = n + m := ⟨_, rfl⟩
        have hcn : ¬ cap = n := by omega
        rw [if_neg hcn] at ht
        have hni : (n : Int) + (m : Int) = (nn : Int) := by omega
        have HQ : Hid (nn = n + (m : Int).toNat) := by show _ = _; omega
        have hnl : nn ≤ len := by omega
        clear hm hEe hml hnn hk h1 hx
        go_wp2_with fail
        refine ht.mono ?_
        rintro e w2 ⟨so, k, co, rfl, o2, b2⟩
        have har2 := har.below b2
        clear ht
        have fA := har2.fA 1
        have cA := har2.c1
        go_wp2_with fail
        go_roundw
        case rel =>
          refine ⟨2, nn, { x with a2 := so, n2 := k, c2 := co, ys := tsY (bs.drop n) }, rfl, rfl, hnl, har2.put1 o2 har.sz, ?_⟩
          exact .inr (.inr (.inl ⟨rfl, HST.out.1, by rw [← HK.out]; exact HE.out, by rw [k2, ← HK.out, HNN.out]; exact HQ.out, HST.out.2, by rw [← HK.out]⟩))
        case measure => simp [intOf]
      · have e1 : (E != 0) = true := by simpa using hE0
        have e2 : (E == 0) = false := by simpa using hE0
        have TT : Hid (svE bs = E ∧ svN bs = 0 ∧ svX bs = [] ∧ svY bs = [] ∧ svZ bs = []) := by
          show _ ∧ _
          have := sv_bad (sv_two (bs := bs) h1 (by rw [← hk, ← hEe]; exact hE0)) (by rw [← hk, ← hEe]; exact hE0)
          rwa [← hk, ← hEe] at this
        generalize tsN (bs.drop n) = N at ht
        clear hEe hE0 hk h1 hx
        by_cases hcn : cap = n
        · rw [if_pos hcn, show cap - n = 0 by omega] at ht
          go_wp2_with fail
          refine ht.mono ?_
          rintro e w2 ⟨so, k, co, rfl, o2, b2⟩
          have har2 := har.below b2
          clear ht
          have g0 := har2.g0
          have g1 := har2.g1
          have g2 := har2.g2
          have f0 := har2.fG 0
          have f1 := har2.fG 1
          have f2 := har2.fG 2
          go_wp2_with fail
          obtain ⟨e1, b1⟩ := har2.fail
          refine bodyPost_ret (ret_sv3 rfl _ _ w.heap.size Sv.none rfl e1) rfl ?_
          exact ⟨Sv.none, by rw [TT.out.1, TT.out.2.1]; rfl, Sv.none_in _, ⟨TT.out.2.2.1.symm, TT.out.2.2.2.1.symm, TT.out.2.2.2.2.symm⟩, b1⟩
        · rw [if_neg hcn] at ht
          go_wp2_with fail
          refine ht.mono ?_
          rintro e w2 ⟨so, k, co, rfl, o2, b2⟩
          have har2 := har.below b2
          clear ht
          have g0 := har2.g0
          have g1 := har2.g1
          have g2 := har2.g2
          have f0 := har2.fG 0
          have f1 := har2.fG 1
          have f2 := har2.fG 2
          go_wp2_with fail
          obtain ⟨e1, b1⟩ := har2.fail
          refine bodyPost_ret (ret_sv3 rfl _ _ w.heap.size Sv.none rfl e1) rfl ?_
          exact ⟨Sv.none, by rw [TT.out.1, TT.out.2.1]; rfl, Sv.none_in _, ⟨TT.out.2.2.1.symm, TT.out.2.2.2.1.symm, TT.out.2.2.2.2.symm⟩, b1⟩
    · have HK : Hid (n = k2 bs) := hk
      have ht := refTakeSet_any _ _ _ _ wr (hrr.from n hn)
      have HST : Hid (tsE bs = 0 ∧ tsE (bs.drop (k1 bs)) = 0 ∧ x.xs = tsY bs ∧ x.ys = tsY (bs.drop (k1 bs))) := ⟨h1, h2, hx, hy⟩
      obtain ⟨E, hEe⟩ : ∃ E, E = tsE (bs.drop n) := ⟨_, rfl⟩
      rw [← hEe] at ht
      by_cases hE0 : E = 0
      · subst hE0
        have HE : Hid (tsE (bs.drop n) = 0) := hEe.symm
        obtain ⟨m, hm, hml, _, hm0⟩ := ts_reach bs hB.out n (by have := hl.out; omega) HE.out
        rw [hl.out] at hml
        rw [hm] at ht
        have HNN : Hid (tsN (bs.drop n) = (m : Int)) := hm
        obtain ⟨nn, hnn⟩ : ∃ nn : Nat, nn = n + m := ⟨_, rfl⟩
        have hcn : ¬ cap = n := by omega
        rw [if_neg hcn] at ht
        have hni : (n : Int) + (m : Int) = (nn : Int) := by omega
        have HQ : Hid (nn = n + (m : Int).toNat) := by show _ = _; omega
        have hnl : nn ≤ len := by omega
        clear hm hEe hml hnn hk h1 h2 hx hy
        go_wp2_with fail
        refine ht.mono ?_
        rintro e w2 ⟨so, k, co, rfl, o2, b2⟩
        have har2 := har.below b2
        clear ht
        have fA := har2.fA 2
        have cA := har2.c2
        go_wp2_with fail
        go_roundw
        case rel =>
          refine ⟨3, nn, { x with a3 := so, n3 := k, c3 := co, zs := tsY (bs.drop n) }, rfl, rfl, hnl, har2.put2 o2 har.sz, ?_⟩
          exact .inr (.inr (.inr ⟨rfl, HST.out.1, HST.out.2.1, by rw [← HK.out]; exact HE.out, by rw [k3, ← HK.out, HNN.out]; exact HQ.out, HST.out.2.2.1, HST.out.2.2.2, by rw [← HK.out]⟩))
        case measure => simp [intOf]
      · have e1 : (E != 0) = true := by simpa using hE0
        have e2 : (E == 0) = false := by simpa using hE0
        have TT : Hid (svE bs = E ∧ svN bs = 0 ∧ svX bs = [] ∧ svY bs = [] ∧ svZ bs = []) := by
          show _ ∧ _
          have := sv_bad (sv_three (bs := bs) h1 h2 (by rw [← hk, ← hEe]; exact hE0)) (by rw [← hk, ← hEe]; exact hE0)
          rwa [← hk, ← hEe] at this
        generalize tsN (bs.drop n) = N at ht
        clear hEe hE0 hk h1 h2 hx hy
        by_cases hcn : cap = n
        · rw [if_pos hcn, show cap - n = 0 by omega] at ht
          go_wp2_with fail
          refine ht.mono ?_
          rintro e w2 ⟨so, k, co, rfl, o2, b2⟩
          have har2 := har.below b2
          clear ht
          have g0 := har2.g0
          have g1 := har2.g1
          have g2 := har2.g2
          have f0 := har2.fG 0
          have f1 := har2.fG 1
          have f2 := har2.fG 2
          go_wp2_with fail
          obtain ⟨e1, b1⟩ := har2.fail
          refine bodyPost_ret (ret_sv3 rfl _ _ w.heap.size Sv.none rfl e1) rfl ?_
          exact ⟨Sv.none, by rw [TT.out.1, TT.out.2.1]; rfl, Sv.none_in _, ⟨TT.out.2.2.1.symm, TT.out.2.2.2.1.symm, TT.out.2.2.2.2.symm⟩, b1⟩
        · rw [if_neg hcn] at ht
          go_wp2_with fail
          refine ht.mono ?_
          rintro e w2 ⟨so, k, co, rfl, o2, b2⟩
          have har2 := har.below b2
          clear ht
          have g0 := har2.g0
          have g1 := har2.g1
          have g2 := har2.g2
          have f0 := har2.fG 0
          have f1 := har2.fG 1
          have f2 := har2.fG 2
          go_wp2_with fail
          obtain ⟨e1, b1⟩ := har2.fail
          refine bodyPost_ret (ret_sv3 rfl _ _ w.heap.size Sv.none rfl e1) rfl ?_
          exact ⟨Sv.none, by rw [TT.out.1, TT.out.2.1]; rfl, Sv.none_in _, ⟨TT.out.2.2.1.symm, TT.out.2.2.2.1.symm, TT.out.2.2.2.2.symm⟩, b1⟩
    · have c0 := har.c0
      have c1 := har.c1
      have c2 := har.c2
      have hb1 := below_alloc wr (.cells #[.slice x.a1 x.n1 x.c1, .slice x.a2 x.n2 x.c2, .slice x.a3 x.n3 x.c3] 24)
      have har1 := har.below hb1
      have p1 : (wr.alloc (.cells #[.slice x.a1 x.n1 x.c1, .slice x.a2 x.n2 x.c2, .slice x.a3 x.n3 x.c3] 24)).heap[wr.heap.size]? = some (.cells #[.slice x.a1 x.n1 x.c1, .slice x.a2 x.n2 x.c2, .slice x.a3 x.n3 x.c3] 24 (0, 0)) := heap_new_at _ _ _ rfl
      have hmay := refMaySets_any x _ har1.in_
      cases hq : mayB x.xs x.ys x.zs
      · have TT : Hid (svE bs = 2 ∧ svN bs = 0 ∧ svX bs = [] ∧ svY bs = [] ∧ svZ bs = []) := by
          show _ ∧ _
          rw [hx, hy, hz] at hq
          exact sv_bad (sv_not h1 h2 h3 hq) (by decide)
        rw [hq] at hmay
        clear hq h1 h2 h3 hk hx hy hz
        go_wp2_with fail
        refine hmay.mono ?_
        rintro e w2 ⟨rfl, b2⟩
        have har2 := har1.below b2
        have p4 := (b2.block _ (lt_of_cell (cell_of_heap p1 0 _ rfl))).trans p1
        have q0 := cell_of_heap p4 0 _ rfl
        have q1 := cell_of_heap p4 1 _ rfl
        have q2 := cell_of_heap p4 2 _ rfl
        have g0 := har2.g0
        have g1 := har2.g1
        have g2 := har2.g2
        have f0 := har2.fG 0
        have f1 := har2.fG 1
        have f2 := har2.fG 2
        go_wp2_with fail
        obtain ⟨e1, b1⟩ := har2.fail
        refine bodyPost_ret (ret_sv3 rfl _ _ w.heap.size Sv.none rfl e1) rfl ?_
        exact ⟨Sv.none, by rw [TT.out.1, TT.out.2.1]; rfl, Sv.none_in _, ⟨TT.out.2.2.1.symm, TT.out.2.2.2.1.symm, TT.out.2.2.2.2.symm⟩, b1⟩
      · have TT : Hid (svE bs = 0 ∧ svN bs = (n : Int) ∧ svX bs = x.xs ∧ svY bs = x.ys ∧ svZ bs = x.zs) := by
          show _ ∧ _
          rw [hx, hy, hz, hk]
          exact sv_good h1 h2 h3 (by rw [← hx, ← hy, ← hz]; exact hq)
        rw [hq] at hmay
        clear hq h1 h2 h3 hk hx hy hz
        go_wp2_with fail
        refine hmay.mono ?_
        rintro e w2 ⟨rfl, b2⟩
        have har2 := har1.below b2
        have p4 := (b2.block _ (lt_of_cell (cell_of_heap p1 0 _ rfl))).trans p1
        have q0 := cell_of_heap p4 0 _ rfl
        have q1 := cell_of_heap p4 1 _ rfl
        have q2 := cell_of_heap p4 2 _ rfl
        have g0 := har2.g0
        have g1 := har2.g1
        have g2 := har2.g2
        have f0 := har2.fG 0
        have f1 := har2.fG 1
        have f2 := har2.fG 2
        go_wp2_with fail
        obtain ⟨e1, i1, b1⟩ := har2.into
        refine bodyPost_ret (ret_sv3 rfl _ _ w.heap.size x rfl e1) rfl ?_
        exact ⟨x, by rw [TT.out.1, TT.out.2.1]; rfl, i1, ⟨TT.out.2.2.1.symm, TT.out.2.2.2.1.symm, TT.out.2.2.2.2.symm⟩, b1⟩
end Go.Proofs.Ytaogggldpjljoaa
