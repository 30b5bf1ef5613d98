/- What obj2.may answers: a contract, for every object. -/
import Derived.Test.YtkmpmljohjelhaaN2Read
namespace Go.Proofs.Ytkmpmljohjelhaa
open Go.RowKit
set_option maxRecDepth 100000
set_option linter.unusedVariables false

theorem mayQ_no {A B C : List Int} (h : mayV A B C = false) : mayQ A B C = false := by rw [mayQ, h]; rfl
theorem mayQ_yes {A B C : List Int} (h : mayV A B C = true) : mayQ A B C = decide (C = []) := by rw [mayQ, h]; rfl
set_option maxHeartbeats 2000000 in
theorem maySets2_any (x : Sv) (w : World) (hx : x.In w) :
    Calls Try.prog 26 #[.agg #[.slice x.a1 x.n1 x.c1, .slice x.a2 x.n2 x.c2, .slice x.a3 x.n3 x.c3]] w fun e w' => e = .returned (.bool (mayQ x.xs x.ys x.zs)) ∧ Below w.heap.size w w' := by
  have HC : Hid _ := one_sv w x
  have hb0 := Below.refl (w.alloc (Obj.cells #[.slice x.a1 x.n1 x.c1, .slice x.a2 x.n2 x.c2, .slice x.a3 x.n3 x.c3] 28)).heap.size (w.alloc (Obj.cells #[.slice x.a1 x.n1 x.c1, .slice x.a2 x.n2 x.c2, .slice x.a3 x.n3 x.c3] 28))
  obtain ⟨_, _, _, bw0⟩ := HC.out _ hb0
  have hp := sput_all x _ (hx.below bw0)
  have HX : Hid (∀ W, Below w.heap.size w W → x.In W) := fun W b => hx.below b
  have hsE : mayV x.xs x.ys x.zs = true → svE (putQ x.xs x.ys x.zs) = 0 ∧ svX (putQ x.xs x.ys x.zs) = x.xs ∧ svY (putQ x.xs x.ys x.zs) = x.ys ∧ svZ (putQ x.xs x.ys x.zs) = x.zs := fun h => by
    have hq := mayB_parts h
    have e : putQ x.xs x.ys x.zs = encV x.xs x.ys x.zs := by unfold putQ; rw [if_pos (by simp [hq.1, hq.2.1, hq.2.2])]
    have := sv_enc x.xs x.ys x.zs [] hx.r1.wrd hx.r2.wrd hx.r3.wrd h
    rw [List.append_nil] at this
    rw [e]
    exact ⟨this.1, this.2.2.1, this.2.2.2.1, this.2.2.2.2⟩
  have hsN := putQ_no (A := x.xs) (B := x.ys) (C := x.zs) hx.r1.wrd hx.r2.wrd hx.r3.wrd
  have l3 : x.zs = [] ↔ x.n3 = 0 := by rw [← hx.r3.len, List.length_eq_zero_iff]
  clear bw0
  generalize putQ x.xs x.ys x.zs = bs at hp hsE hsN
  cases hm : mayV x.xs x.ys x.zs
  · rw [mayQ_no hm]
    replace hsN := hsN hm
    clear hsE hm l3
    go_enter Try.func26, Try.ntmps26
    go_wp2_with fail
    refine hp.mono ?_
    rintro e w1 ⟨a, n, c, rfl, hr, hn, b1⟩
    have ht := stake_any a n c bs w1 hr (by omega)
    generalize svE bs = E at ht hsN
    generalize svN bs = N at ht
    have hE : (E == 0) = false := by simpa using hsN
    go_wp2_with fail
    refine ht.mono ?_
    rintro e w2 ⟨y, rfl, hy, -, b2⟩
    have HCY : Hid _ := one_sv w2 y
    have b2' := ext_trans b1 b2
    replace b2 := ext_trans b2' (below_alloc w2 (Obj.cells #[.slice y.a1 y.n1 y.c1, .slice y.a2 y.n2 y.c2, .slice y.a3 y.n3 y.c3] 28))
    have hb2 := Below.refl (w2.alloc (Obj.cells #[.slice y.a1 y.n1 y.c1, .slice y.a2 y.n2 y.c2, .slice y.a3 y.n3 y.c3] 28)).heap.size (w2.alloc (Obj.cells #[.slice y.a1 y.n1 y.c1, .slice y.a2 y.n2 y.c2, .slice y.a3 y.n3 y.c3] 28))
    obtain ⟨t0, t1, t2, b3⟩ := HCY.out _ hb2
    obtain ⟨s0, s1, s2, b4⟩ := HC.out _ b2
    have q1 := equalW_any y.a1 y.n1 y.c1 y.xs x.a1 x.n1 x.c1 x.xs _ (hy.below b3).r1 (HX.out _ b4).r1
    generalize decide (y.xs = x.xs) = D1 at q1
    have HY : Hid (∀ W, Below w2.heap.size w2 W → y.In W) := fun W b => hy.below b
    go_wp2_with fail
    refine q1.mono ?_
    rintro e w3 ⟨rfl, c1⟩
    clear s0 s1 s2 t0 t1 t2
    cases D1
    · obtain ⟨s0, s1, s2, b5⟩ := HC.out _ (ext_trans b2 c1)
      go_wp2_with fail
      go_ret
      exact ⟨rfl, b5⟩
    obtain ⟨s0, s1, s2, b5⟩ := HC.out _ (ext_trans b2 c1)
    obtain ⟨t0, t1, t2, b6⟩ := HCY.out _ (ext_trans hb2 c1)
    have q2 := equalW_any y.a2 y.n2 y.c2 y.ys x.a2 x.n2 x.c2 x.ys _ (HY.out _ b6).r2 (HX.out _ b5).r2
    generalize decide (y.ys = x.ys) = D2 at q2
    go_wp2_with fail
    refine q2.mono ?_
    rintro e w4 ⟨rfl, c2⟩
    replace c2 := ext_trans c1 c2
    clear s0 s1 s2 t0 t1 t2
    cases D2
    · obtain ⟨s0, s1, s2, b5⟩ := HC.out _ (ext_trans b2 c2)
      go_wp2_with fail
      go_ret
      exact ⟨rfl, b5⟩
    obtain ⟨s0, s1, s2, b5⟩ := HC.out _ (ext_trans b2 c2)
    obtain ⟨t0, t1, t2, b6⟩ := HCY.out _ (ext_trans hb2 c2)
    have q3 := equalW_any y.a3 y.n3 y.c3 y.zs x.a3 x.n3 x.c3 x.zs _ (HY.out _ b6).r3 (HX.out _ b5).r3
    generalize decide (y.zs = x.zs) = D3 at q3
    go_wp2_with fail
    refine q3.mono ?_
    rintro e w5 ⟨rfl, c3⟩
    replace c3 := ext_trans c2 c3
    clear s0 s1 s2 t0 t1 t2
    obtain ⟨s0, s1, s2, b5⟩ := HC.out _ (ext_trans b2 c3)
    go_wp2_with fail
    go_ret
    exact ⟨rfl, b5⟩
  · rw [mayQ_yes hm]
    obtain ⟨e0, e1, e2, e3⟩ := hsE hm
    clear hsE hsN hm
    have HE : Hid (svX bs = x.xs ∧ svY bs = x.ys ∧ svZ bs = x.zs) := ⟨e1, e2, e3⟩
    clear e1 e2 e3
    have HL : Hid (x.zs = [] ↔ x.n3 = 0) := l3
    clear l3
    go_enter Try.func26, Try.ntmps26
    go_wp2_with fail
    refine hp.mono ?_
    rintro e w1 ⟨a, n, c, rfl, hr, hn, b1⟩
    have ht := stake_any a n c bs w1 hr (by omega)
    rw [e0] at ht
    generalize svN bs = N at ht
    clear e0
    go_wp2_with fail
    refine ht.mono ?_
    rintro e w2 ⟨y, rfl, hy, hys, b2⟩
    have HYS : Hid (y.xs = x.xs ∧ y.ys = x.ys ∧ y.zs = x.zs) := ⟨hys.1.trans HE.out.1, hys.2.1.trans HE.out.2.1, hys.2.2.trans HE.out.2.2⟩
    clear hys
    have HCY : Hid _ := one_sv w2 y
    have b2' := ext_trans b1 b2
    replace b2 := ext_trans b2' (below_alloc w2 (Obj.cells #[.slice y.a1 y.n1 y.c1, .slice y.a2 y.n2 y.c2, .slice y.a3 y.n3 y.c3] 28))
    have hb2 := Below.refl (w2.alloc (Obj.cells #[.slice y.a1 y.n1 y.c1, .slice y.a2 y.n2 y.c2, .slice y.a3 y.n3 y.c3] 28)).heap.size (w2.alloc (Obj.cells #[.slice y.a1 y.n1 y.c1, .slice y.a2 y.n2 y.c2, .slice y.a3 y.n3 y.c3] 28))
    obtain ⟨t0, t1, t2, b3⟩ := HCY.out _ hb2
    obtain ⟨s0, s1, s2, b4⟩ := HC.out _ b2
    have q1 := equalW_any y.a1 y.n1 y.c1 y.xs x.a1 x.n1 x.c1 x.xs _ (hy.below b3).r1 (HX.out _ b4).r1
    rw [decide_eq_true HYS.out.1] at q1
    have HY : Hid (∀ W, Below w2.heap.size w2 W → y.In W) := fun W b => hy.below b
    go_wp2_with fail
    refine q1.mono ?_
    rintro e w3 ⟨rfl, c1⟩
    clear s0 s1 s2 t0 t1 t2
    obtain ⟨s0, s1, s2, b5⟩ := HC.out _ (ext_trans b2 c1)
    obtain ⟨t0, t1, t2, b6⟩ := HCY.out _ (ext_trans hb2 c1)
    have q2 := equalW_any y.a2 y.n2 y.c2 y.ys x.a2 x.n2 x.c2 x.ys _ (HY.out _ b6).r2 (HX.out _ b5).r2
    rw [decide_eq_true HYS.out.2.1] at q2
    go_wp2_with fail
    refine q2.mono ?_
    rintro e w4 ⟨rfl, c2⟩
    replace c2 := ext_trans c1 c2
    clear s0 s1 s2 t0 t1 t2
    obtain ⟨s0, s1, s2, b5⟩ := HC.out _ (ext_trans b2 c2)
    obtain ⟨t0, t1, t2, b6⟩ := HCY.out _ (ext_trans hb2 c2)
    have q3 := equalW_any y.a3 y.n3 y.c3 y.zs x.a3 x.n3 x.c3 x.zs _ (HY.out _ b6).r3 (HX.out _ b5).r3
    rw [decide_eq_true HYS.out.2.2] at q3
    go_wp2_with fail
    refine q3.mono ?_
    rintro e w5 ⟨rfl, c3⟩
    replace c3 := ext_trans c2 c3
    clear s0 s1 s2 t0 t1 t2
    obtain ⟨s0, s1, s2, b5⟩ := HC.out _ (ext_trans b2 c3)
    by_cases h0 : x.n3 = 0
    · have HD : Hid (decide (x.zs = []) = true) := decide_eq_true (HL.out.2 h0)
      rw [h0] at s2
      go_wp2_with fail
      go_ret
      exact ⟨by rw [HD.out]; rfl, b5⟩
    · have HD : Hid (decide (x.zs = []) = false) := decide_eq_false (fun h => h0 (HL.out.1 h))
      have h0' : ((x.n3 : Int) == 0) = false := by simp; omega
      go_wp2_with fail
      go_ret
      exact ⟨by rw [HD.out]; first | rfl | skip, b5⟩

theorem mayBox2_any (x : Ob) (w : World) :
    Calls Try.prog 48 #[.agg #[.int .u64 x.i, .int .i64 x.k, .int .u8 x.d, .slice x.a3 x.n3 x.m3, .slice x.a4 x.n4 x.m4, .slice x.a5 x.n5 x.m5, .slice x.a6 x.n6 x.m6, .int .i64 x.q, .int .i64 x.u, .int .i64 x.n, .slice x.a10 x.n10 x.m10, .slice x.a11 x.n11 x.m11, .slice x.a12 x.n12 x.m12]] w fun e w' => e = .returned (.bool (decide (0 ≤ x.u ∧ x.u ≤ x.q ∧ x.q ≤ 400 ∧ 1 ≤ x.n ∧ x.n ≤ 64))) ∧ Below w.heap.size w w' := by
  obtain ⟨i, k, d, a3, n3, m3, a4, n4, m4, a5, n5, m5, a6, n6, m6, q, u, n, a10, n10, m10, a11, n11, m11, a12, n12, m12, ps, va, vb, vc, xs, cs, ls⟩ := x
  dsimp only
  by_cases h1 : 0 ≤ u
  · by_cases h2 : u ≤ q
    · by_cases h3 : q ≤ 400
      · by_cases h4 : 1 ≤ n
        · by_cases h5 : n ≤ 64
          · rw [decide_eq_true ⟨h1, h2, h3, h4, h5⟩]
            go_enter Try.func48, Try.ntmps48
            go_wp2_with fail
            go_ret
            exact ⟨rfl, below_alloc _ _⟩
          · rw [decide_eq_false (fun h => h5 h.2.2.2.2)]
            go_enter Try.func48, Try.ntmps48
            go_wp2_with fail
            go_ret
            exact ⟨rfl, below_alloc _ _⟩
        · rw [decide_eq_false (fun h => h4 h.2.2.2.1)]
          go_enter Try.func48, Try.ntmps48
          go_wp2_with fail
          go_ret
          exact ⟨rfl, below_alloc _ _⟩
      · rw [decide_eq_false (fun h => h3 h.2.2.1)]
        go_enter Try.func48, Try.ntmps48
        go_wp2_with fail
        go_ret
        exact ⟨rfl, below_alloc _ _⟩
    · rw [decide_eq_false (fun h => h2 h.2.1)]
      go_enter Try.func48, Try.ntmps48
      go_wp2_with fail
      go_ret
      exact ⟨rfl, below_alloc _ _⟩
  · rw [decide_eq_false (fun h => h1 h.1)]
    go_enter Try.func48, Try.ntmps48
    go_wp2_with fail
    go_ret
    exact ⟨rfl, below_alloc _ _⟩

set_option maxHeartbeats 1000000 in
theorem mayOwn2_any (x : Ob) (w : World) (hx : x.In w) : Calls Try.prog 27 #[.agg #[.int .u64 x.i, .int .i64 x.k, .int .u8 x.d, .slice x.a3 x.n3 x.m3, .slice x.a4 x.n4 x.m4, .slice x.a5 x.n5 x.m5, .slice x.a6 x.n6 x.m6, .int .i64 x.q, .int .i64 x.u, .int .i64 x.n, .slice x.a10 x.n10 x.m10, .slice x.a11 x.n11 x.m11, .slice x.a12 x.n12 x.m12]] w fun e w' => e = .returned (.bool (mayW x.od)) ∧ Below w.heap.size w w' := by
  have h10 := hx.r10.len
  have hb := obj_below x w
  have hx' := hx.below hb
  have c10 := hx.r10.cap_le
  obtain ⟨i, k, d, a3, n3, m3, a4, n4, m4, a5, n5, m5, a6, n6, m6, q, u, n, a10, n10, m10, a11, n11, m11, a12, n12, m12, ps, va, vb, vc, xs, cs, ls⟩ := x
  have hO := obj_at ⟨i, k, d, a3, n3, m3, a4, n4, m4, a5, n5, m5, a6, n6, m6, q, u, n, a10, n10, m10, a11, n11, m11, a12, n12, m12, ps, va, vb, vc, xs, cs, ls⟩ w
  have HD : Hid (w.alloc (.cells #[.int .u64 i, .int .i64 k, .int .u8 d, .slice a3 n3 m3, .slice a4 n4 m4, .slice a5 n5 m5, .slice a6 n6 m6, .int .i64 q, .int .i64 u, .int .i64 n, .slice a10 n10 m10, .slice a11 n11 m11, .slice a12 n12 m12] 32) = obj ⟨i, k, d, a3, n3, m3, a4, n4, m4, a5, n5, m5, a6, n6, m6, q, u, n, a10, n10, m10, a11, n11, m11, a12, n12, m12, ps, va, vb, vc, xs, cs, ls⟩ w) := obj_def ⟨i, k, d, a3, n3, m3, a4, n4, m4, a5, n5, m5, a6, n6, m6, q, u, n, a10, n10, m10, a11, n11, m11, a12, n12, m12, ps, va, vb, vc, xs, cs, ls⟩ w
  dsimp only at h10 c10 ⊢
  generalize hWW : obj ⟨i, k, d, a3, n3, m3, a4, n4, m4, a5, n5, m5, a6, n6, m6, q, u, n, a10, n10, m10, a11, n11, m11, a12, n12, m12, ps, va, vb, vc, xs, cs, ls⟩ w = W at hb hx' hO HD
  clear hWW
  by_cases h1 : k = 1
  · subst h1
    rw [show mayW (Ob.od ⟨i, 1, d, a3, n3, m3, a4, n4, m4, a5, n5, m5, a6, n6, m6, q, u, n, a10, n10, m10, a11, n11, m11, a12, n12, m12, ps, va, vb, vc, xs, cs, ls⟩) = decide (0 ≤ u ∧ u ≤ q ∧ q ≤ 400 ∧ 1 ≤ n ∧ n ≤ 64) from rfl]
    have hq := mayBox2_any ⟨i, 1, d, a3, n3, m3, a4, n4, m4, a5, n5, m5, a6, n6, m6, q, u, n, a10, n10, m10, a11, n11, m11, a12, n12, m12, ps, va, vb, vc, xs, cs, ls⟩ W
    dsimp only at hq
    generalize decide (0 ≤ u ∧ u ≤ q ∧ q ≤ 400 ∧ 1 ≤ n ∧ n ≤ 64) = qq at hq ⊢
    go_enter Try.func27, Try.ntmps27
    go_wp2_with fail
    rw [HD.out]
    refine hq.mono ?_
    rintro e w1 ⟨rfl, b1⟩
    go_wp2_with fail
    go_ret
    exact ⟨rfl, ext_trans hb b1⟩
  by_cases h2 : k = 2
  · subst h2
    rw [show mayW (Ob.od ⟨i, 2, d, a3, n3, m3, a4, n4, m4, a5, n5, m5, a6, n6, m6, q, u, n, a10, n10, m10, a11, n11, m11, a12, n12, m12, ps, va, vb, vc, xs, cs, ls⟩) = decide (xs.length ≤ 64) from rfl, h10]
    by_cases h : n10 ≤ 64
    · have h' : (n10 : Int) ≤ 64 := by omega
      rw [decide_eq_true h]
      go_enter Try.func27, Try.ntmps27
      go_wp2_with fail
      go_ret
      exact ⟨rfl, below_alloc _ _⟩
    · have h' : ¬ (n10 : Int) ≤ 64 := by omega
      rw [decide_eq_false h]
      go_enter Try.func27, Try.ntmps27
      go_wp2_with fail
      go_ret
      exact ⟨rfl, below_alloc _ _⟩
  by_cases h3 : k = 3
  · subst h3
    rw [show mayW (Ob.od ⟨i, 3, d, a3, n3, m3, a4, n4, m4, a5, n5, m5, a6, n6, m6, q, u, n, a10, n10, m10, a11, n11, m11, a12, n12, m12, ps, va, vb, vc, xs, cs, ls⟩) = mayS cs from rfl]
    have hq := may_any a11 n11 m11 cs W hx'.r11
    go_enter Try.func27, Try.ntmps27
    go_wp2_with fail
    rw [HD.out]
    refine hq.mono ?_
    rintro e w1 ⟨rfl, b1⟩
    go_wp2_with fail
    go_ret
    exact ⟨rfl, ext_trans hb b1⟩
  rw [show mayW (Ob.od ⟨i, k, d, a3, n3, m3, a4, n4, m4, a5, n5, m5, a6, n6, m6, q, u, n, a10, n10, m10, a11, n11, m11, a12, n12, m12, ps, va, vb, vc, xs, cs, ls⟩) = mayT (txt ls) by simp [mayW, Ob.od, h1, h2, h3]]
  have hq := may_anyR a12 n12 m12 ls W hx'.r12
  have e1 : (k == 1) = false := by simpa using h1
  have e2 : (k == 2) = false := by simpa using h2
  have e3 : (k == 3) = false := by simpa using h3
  go_enter Try.func27, Try.ntmps27
  go_wp2_with fail
  rw [HD.out]
  refine hq.mono ?_
  rintro e w1 ⟨rfl, rfl⟩
  go_wp2_with fail
  go_ret
  exact ⟨rfl, hb⟩

set_option maxHeartbeats 1000000 in
theorem obMay2_any (x : Ob) (w : World) (hx : x.In w) : Calls Try.prog 14 #[.agg #[.int .u64 x.i, .int .i64 x.k, .int .u8 x.d, .slice x.a3 x.n3 x.m3, .slice x.a4 x.n4 x.m4, .slice x.a5 x.n5 x.m5, .slice x.a6 x.n6 x.m6, .int .i64 x.q, .int .i64 x.u, .int .i64 x.n, .slice x.a10 x.n10 x.m10, .slice x.a11 x.n11 x.m11, .slice x.a12 x.n12 x.m12]] w fun e w' => e = .returned (.bool (mayD2 x.od)) ∧ Below w.heap.size w w' := by
  have hb := obj_below x w
  have hO := obj_at x w
  have HD : Hid (w.alloc (.cells #[.int .u64 x.i, .int .i64 x.k, .int .u8 x.d, .slice x.a3 x.n3 x.m3, .slice x.a4 x.n4 x.m4, .slice x.a5 x.n5 x.m5, .slice x.a6 x.n6 x.m6, .int .i64 x.q, .int .i64 x.u, .int .i64 x.n, .slice x.a10 x.n10 x.m10, .slice x.a11 x.n11 x.m11, .slice x.a12 x.n12 x.m12] 32) = obj x w) := obj_def x w
  have hx' := hx.below hb
  generalize obj x w = W at hb hx' hO HD
  have hN := nmMay_any x.i hx.bi W
  have hK := isKind2_any x.k W
  have hL := maySets2_any ⟨x.a4, x.n4, x.m4, x.va, x.a5, x.n5, x.m5, x.vb, x.a6, x.n6, x.m6, x.vc⟩ W ⟨hx'.r4, hx'.r5, hx'.r6⟩
  dsimp only at hL
  rw [show mayD2 x.od = (isN x.i && isK x.k && mayQ x.va x.vb x.vc && mayW x.od) from rfl]
  obtain ⟨c0, c1, c2, c3, c4, c5, c6, c7, c8, c9, c10, c11, c12⟩ := hO.cells
  have hl := hO.lt
  cases hn : isN x.i
  · rw [hn] at hN
    clear hn
    go_enter Try.func14, Try.ntmps14
    go_wp2_with fail
    rw [HD.out]
    refine hN.mono ?_
    rintro e w1 ⟨rfl, rfl⟩
    go_wp2_with fail
    go_ret
    exact ⟨rfl, hb⟩
  rw [hn] at hN
  clear hn
  cases hk : isK x.k
  · rw [hk] at hK
    clear hk
    go_enter Try.func14, Try.ntmps14
    go_wp2_with fail
    rw [HD.out]
    refine hN.mono ?_
    rintro e w1 ⟨rfl, rfl⟩
    go_wp2_with fail
    refine hK.mono ?_
    rintro e w1 ⟨rfl, rfl⟩
    go_wp2_with fail
    go_ret
    exact ⟨rfl, hb⟩
  rw [hk] at hK
  clear hk
  cases hp : mayQ x.va x.vb x.vc
  · rw [hp] at hL
    clear hp
    go_enter Try.func14, Try.ntmps14
    go_wp2_with fail
    rw [HD.out]
    refine hN.mono ?_
    rintro e w1 ⟨rfl, rfl⟩
    go_wp2_with fail
    refine hK.mono ?_
    rintro e w1 ⟨rfl, rfl⟩
    go_wp2_with fail
    refine hL.mono ?_
    rintro e w2 ⟨rfl, b2⟩
    go_wp2_with fail
    go_ret
    exact ⟨rfl, ext_trans hb b2⟩
  rw [hp] at hL
  clear hp
  have hW := fun w2 (b2 : Below W.heap.size W w2) => mayOwn2_any x w2 (hx'.below b2)
  generalize mayW x.od = q at hW ⊢
  go_enter Try.func14, Try.ntmps14
  go_wp2_with fail
  rw [HD.out]
  refine hN.mono ?_
  rintro e w1 ⟨rfl, rfl⟩
  go_wp2_with fail
  refine hK.mono ?_
  rintro e w1 ⟨rfl, rfl⟩
  go_wp2_with fail
  refine hL.mono ?_
  rintro e w2 ⟨rfl, b2⟩
  replace hW := hW w2 b2
  have hO2 := hO.below b2
  clear c0 c1 c2 c3 c4 c5 c6 c7 c8 c9 c10 c11 c12 hl
  obtain ⟨c0, c1, c2, c3, c4, c5, c6, c7, c8, c9, c10, c11, c12⟩ := hO2.cells
  go_wp2_with fail
  refine hW.mono ?_
  rintro e w3 ⟨rfl, b3⟩
  replace b3 := ext_trans hb (ext_trans b2 b3)
  cases q
  · go_wp2_with fail
    go_ret
    exact ⟨rfl, b3⟩
  · go_wp2_with fail
    go_ret
    exact ⟨rfl, b3⟩
end Go.Proofs.Ytkmpmljohjelhaa
