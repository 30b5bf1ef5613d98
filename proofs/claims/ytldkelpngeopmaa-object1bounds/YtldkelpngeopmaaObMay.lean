/- What obj1.may answers: a contract, for every object. -/
import Derived.Test.YtldkelpngeopmaaObRead
import Derived.Test.YtldkelpngeopmaaLcTake
import Derived.Test.YtldkelpngeopmaaLcPut
namespace Go.Proofs.Ytldkelpngeopmaa
open Go.RowKit
set_option maxRecDepth 100000
set_option linter.unusedVariables false

theorem mayP_no {d : Int} {ps : List (Int × Int)} (h : mayB d ps = false) : mayP d ps = false := by rw [mayP, h]; rfl
theorem mayP_yes {d : Int} {ps : List (Int × Int)} (h : mayB d ps = true) : mayP d ps = noStar ps := by rw [mayP, h]; rfl
set_option maxHeartbeats 1000000 in
theorem mayLabel_any (d : Int) (hd : 0 ≤ d) (b : Option Addr) (n c : Nat) (ps : List (Int × Int)) (w : World) (hs : RowG PE w b n c ps) :
    Calls Try.prog 27 #[.agg #[.int .u8 d, .slice b n c]] w fun e w' => e = .returned (.bool (mayP d ps)) ∧ Below w.heap.size w w' := by
  obtain ⟨W, hW⟩ : ∃ W, W = w.alloc (.cells #[.int .u8 d, .slice b n c] 25) := ⟨_, rfl⟩
  have hbW : Below w.heap.size w W := by rw [hW]; exact below_alloc _ _
  have k0 : W.cell? ⟨w.heap.size, 0, none⟩ = some (.int .u8 d) := by rw [hW]; simp
  have k1 : W.cell? ⟨w.heap.size, 1, none⟩ = some (.slice b n c) := by rw [hW]; simp
  have HW : Hid (W = w.alloc (.cells #[.int .u8 d, .slice b n c] 25)) := hW
  have hsz : w.heap.size < W.heap.size := by rw [hW]; simp
  clear hW
  have hs' := hs.below hbW
  cases hm : mayB d ps
  · rw [mayP_no hm]
    have hq := lput_no d hd b n c ps W hs' hm
    clear hm
    go_enter Try.func27, Try.ntmps27
    go_wp2_with fail
    rw [← HW.out]
    refine hq.mono ?_
    rintro e w1 ⟨rfl, b1⟩
    have ht := ltake_any none 0 0 [] w1 (Row.nil _) (by omega)
    rw [show tlE [] = 3 by decide +kernel, show tlD [] = 0 by decide +kernel, show tlN [] = 0 by decide +kernel] at ht
    go_wp2_with fail
    refine ht.mono ?_
    rintro e w2 ⟨so, k, co, rfl, -, b2⟩
    replace b2 := ext_trans hbW (ext_trans b1 b2)
    go_wp2_with fail
    go_ret
    exact ⟨rfl, ext_trans b2 (below_alloc _ _)⟩
  · rw [mayP_yes hm]
    have hq := lput_any none 0 0 [] d b n c ps W (Row.nil _) hs' hm (by omega)
    have HT : Hid (tlE (encL d ps) = 0 ∧ tlN (encL d ps) = 2 + 3 * (ps.length : Int) ∧ tlD (encL d ps) = d ∧ tlP (encL d ps) = ps) := by
      have := tl_enc d ps [] hs.ok hm
      rw [List.append_nil] at this
      exact this
    have hn16 : n ≤ 16 := by have := (mayB_iff.1 hm).2.1; have := hs.len; omega
    clear hm
    have hcs := fun W r => containsStar_any b n c ps W r
    generalize noStar ps = q at hcs ⊢
    go_enter Try.func27, Try.ntmps27
    go_wp2_with fail
    rw [← HW.out]
    refine hq.mono ?_
    rintro e w1 ⟨g1, c1, rfl, o1, b1⟩
    rw [List.nil_append, Nat.zero_add] at o1
    have ht := ltake_any _ _ _ _ w1 o1.row (by omega)
    rw [HT.out.1, HT.out.2.1, HT.out.2.2.1, HT.out.2.2.2] at ht
    go_wp2_with fail
    refine ht.mono ?_
    rintro e w2 ⟨so, k, co, rfl, o2, b2⟩
    obtain ⟨W2, hW2⟩ : ∃ W2, W2 = w2.alloc (.cells #[.int .u8 d, .slice so k co] 25) := ⟨_, rfl⟩
    have HW2 : Hid (W2 = w2.alloc (.cells #[.int .u8 d, .slice so k co] 25)) := hW2
    have bz : Below w2.heap.size w2 W2 := by rw [hW2]; exact below_alloc _ _
    have j0 : W2.cell? ⟨w2.heap.size, 0, none⟩ = some (.int .u8 d) := by rw [hW2]; simp
    have j1 : W2.cell? ⟨w2.heap.size, 1, none⟩ = some (.slice so k co) := by rw [hW2]; simp
    have bW2 : Below W.heap.size W W2 := ext_trans b1 (ext_trans b2 bz)
    have i0 : W2.cell? ⟨w.heap.size, 0, none⟩ = some (.int .u8 d) := by rw [bW2.cell hsz]; exact k0
    have i1 : W2.cell? ⟨w.heap.size, 1, none⟩ = some (.slice b n c) := by rw [bW2.cell hsz]; exact k1
    have he := equal_any so k co ps b n c ps W2 (o2.row.below bz) (hs'.below bW2)
    rw [decide_eq_true rfl] at he
    have hsz2 : w2.heap.size < W2.heap.size := by rw [hW2]; simp
    rw [hW2] at i0 i1 j0 j1
    clear hW2
    go_wp2_with fail
    rw [← HW2.out]
    refine he.mono ?_
    rintro e w3 ⟨rfl, b3⟩
    have hlt : w.heap.size < W2.heap.size := by have := bW2.size; omega
    have i1' : w3.cell? ⟨w.heap.size, 1, none⟩ = some (.slice b n c) := by rw [b3.cell hlt]; exact HW2.out ▸ i1
    have hc := hcs w3 ((hs'.below bW2).below b3)
    have b3' := ext_trans hbW (ext_trans bW2 b3)
    go_wp2_with fail
    refine hc.mono ?_
    rintro e w4 ⟨rfl, b4⟩
    replace b4 := ext_trans b3' b4
    cases q
    · go_wp2_with fail
      go_ret
      exact ⟨rfl, b4⟩
    · go_wp2_with fail
      go_ret
      exact ⟨rfl, b4⟩

theorem mayBox_any (x : Ob) (w : World) :
    Calls Try.prog 53 #[.agg #[.int .u64 x.i, .int .i64 x.k, .int .u8 x.d, .slice x.a3 x.n3 x.m3, .slice x.a4 x.n4 x.m4, .slice x.a5 x.n5 x.m5, .slice x.a6 x.n6 x.m6, .int .i64 x.q, .int .i64 x.u, .int .i64 x.n, .slice x.a10 x.n10 x.m10, .slice x.a11 x.n11 x.m11, .slice x.a12 x.n12 x.m12]] w fun e w' => e = .returned (.bool (decide (0 ≤ x.u ∧ x.u ≤ x.q ∧ x.q ≤ 400 ∧ 1 ≤ x.n ∧ x.n ≤ 64))) ∧ Below w.heap.size w w' := by
  obtain ⟨i, k, d, a3, n3, m3, a4, n4, m4, a5, n5, m5, a6, n6, m6, q, u, n, a10, n10, m10, a11, n11, m11, a12, n12, m12, ps, xs, cs, ls⟩ := x
  dsimp only
  by_cases h1 : 0 ≤ u
  · by_cases h2 : u ≤ q
    · by_cases h3 : q ≤ 400
      · by_cases h4 : 1 ≤ n
        · by_cases h5 : n ≤ 64
          · rw [decide_eq_true ⟨h1, h2, h3, h4, h5⟩]
            go_enter Try.func53, Try.ntmps53
            go_wp2_with fail
            go_ret
            exact ⟨rfl, below_alloc _ _⟩
          · rw [decide_eq_false (fun h => h5 h.2.2.2.2)]
            go_enter Try.func53, Try.ntmps53
            go_wp2_with fail
            go_ret
            exact ⟨rfl, below_alloc _ _⟩
        · rw [decide_eq_false (fun h => h4 h.2.2.2.1)]
          go_enter Try.func53, Try.ntmps53
          go_wp2_with fail
          go_ret
          exact ⟨rfl, below_alloc _ _⟩
      · rw [decide_eq_false (fun h => h3 h.2.2.1)]
        go_enter Try.func53, Try.ntmps53
        go_wp2_with fail
        go_ret
        exact ⟨rfl, below_alloc _ _⟩
    · rw [decide_eq_false (fun h => h2 h.2.1)]
      go_enter Try.func53, Try.ntmps53
      go_wp2_with fail
      go_ret
      exact ⟨rfl, below_alloc _ _⟩
  · rw [decide_eq_false (fun h => h1 h.1)]
    go_enter Try.func53, Try.ntmps53
    go_wp2_with fail
    go_ret
    exact ⟨rfl, below_alloc _ _⟩

set_option maxHeartbeats 1000000 in
theorem mayOwn_any (x : Ob) (w : World) (hx : x.In w) : Calls Try.prog 28 #[.agg #[.int .u64 x.i, .int .i64 x.k, .int .u8 x.d, .slice x.a3 x.n3 x.m3, .slice x.a4 x.n4 x.m4, .slice x.a5 x.n5 x.m5, .slice x.a6 x.n6 x.m6, .int .i64 x.q, .int .i64 x.u, .int .i64 x.n, .slice x.a10 x.n10 x.m10, .slice x.a11 x.n11 x.m11, .slice x.a12 x.n12 x.m12]] w fun e w' => e = .returned (.bool (mayW x.od)) ∧ Below w.heap.size w w' := by
  have h10 := hx.r10.len
  have hb := obj_below x w
  have hx' := hx.below hb
  have c10 := hx.r10.cap_le
  obtain ⟨i, k, d, a3, n3, m3, a4, n4, m4, a5, n5, m5, a6, n6, m6, q, u, n, a10, n10, m10, a11, n11, m11, a12, n12, m12, ps, xs, cs, ls⟩ := x
  have hO := obj_at ⟨i, k, d, a3, n3, m3, a4, n4, m4, a5, n5, m5, a6, n6, m6, q, u, n, a10, n10, m10, a11, n11, m11, a12, n12, m12, ps, xs, cs, ls⟩ w
  have HD : Hid (w.alloc (.cells #[.int .u64 i, .int .i64 k, .int .u8 d, .slice a3 n3 m3, .slice a4 n4 m4, .slice a5 n5 m5, .slice a6 n6 m6, .int .i64 q, .int .i64 u, .int .i64 n, .slice a10 n10 m10, .slice a11 n11 m11, .slice a12 n12 m12] 32) = obj ⟨i, k, d, a3, n3, m3, a4, n4, m4, a5, n5, m5, a6, n6, m6, q, u, n, a10, n10, m10, a11, n11, m11, a12, n12, m12, ps, xs, cs, ls⟩ w) := obj_def ⟨i, k, d, a3, n3, m3, a4, n4, m4, a5, n5, m5, a6, n6, m6, q, u, n, a10, n10, m10, a11, n11, m11, a12, n12, m12, ps, xs, cs, ls⟩ w
  dsimp only at h10 c10 ⊢
  generalize hWW : obj ⟨i, k, d, a3, n3, m3, a4, n4, m4, a5, n5, m5, a6, n6, m6, q, u, n, a10, n10, m10, a11, n11, m11, a12, n12, m12, ps, xs, cs, ls⟩ w = W at hb hx' hO HD
  clear hWW
  by_cases h1 : k = 1
  · subst h1
    rw [show mayW (Ob.od ⟨i, 1, d, a3, n3, m3, a4, n4, m4, a5, n5, m5, a6, n6, m6, q, u, n, a10, n10, m10, a11, n11, m11, a12, n12, m12, ps, xs, cs, ls⟩) = decide (0 ≤ u ∧ u ≤ q ∧ q ≤ 400 ∧ 1 ≤ n ∧ n ≤ 64) from rfl]
    have hq := mayBox_any ⟨i, 1, d, a3, n3, m3, a4, n4, m4, a5, n5, m5, a6, n6, m6, q, u, n, a10, n10, m10, a11, n11, m11, a12, n12, m12, ps, xs, cs, ls⟩ W
    dsimp only at hq
    generalize decide (0 ≤ u ∧ u ≤ q ∧ q ≤ 400 ∧ 1 ≤ n ∧ n ≤ 64) = qq at hq ⊢
    go_enter Try.func28, Try.ntmps28
    go_wp2_with fail
    rw [HD.out]
    refine hq.mono ?_
    rintro e w1 ⟨rfl, b1⟩
    go_wp2_with fail
    go_ret
    exact ⟨rfl, ext_trans hb b1⟩
  by_cases h2 : k = 2
  · subst h2
    rw [show mayW (Ob.od ⟨i, 2, d, a3, n3, m3, a4, n4, m4, a5, n5, m5, a6, n6, m6, q, u, n, a10, n10, m10, a11, n11, m11, a12, n12, m12, ps, xs, cs, ls⟩) = decide (xs.length ≤ 64) from rfl, h10]
    by_cases h : n10 ≤ 64
    · have h' : (n10 : Int) ≤ 64 := by omega
      rw [decide_eq_true h]
      go_enter Try.func28, Try.ntmps28
      go_wp2_with fail
      go_ret
      exact ⟨rfl, below_alloc _ _⟩
    · have h' : ¬ (n10 : Int) ≤ 64 := by omega
      rw [decide_eq_false h]
      go_enter Try.func28, Try.ntmps28
      go_wp2_with fail
      go_ret
      exact ⟨rfl, below_alloc _ _⟩
  by_cases h3 : k = 3
  · subst h3
    rw [show mayW (Ob.od ⟨i, 3, d, a3, n3, m3, a4, n4, m4, a5, n5, m5, a6, n6, m6, q, u, n, a10, n10, m10, a11, n11, m11, a12, n12, m12, ps, xs, cs, ls⟩) = mayS cs from rfl]
    have hq := may_any a11 n11 m11 cs W hx'.r11
    go_enter Try.func28, Try.ntmps28
    go_wp2_with fail
    rw [HD.out]
    refine hq.mono ?_
    rintro e w1 ⟨rfl, b1⟩
    go_wp2_with fail
    go_ret
    exact ⟨rfl, ext_trans hb b1⟩
  rw [show mayW (Ob.od ⟨i, k, d, a3, n3, m3, a4, n4, m4, a5, n5, m5, a6, n6, m6, q, u, n, a10, n10, m10, a11, n11, m11, a12, n12, m12, ps, xs, cs, ls⟩) = mayT (txt ls) by simp [mayW, Ob.od, h1, h2, h3]]
  have hq := may_anyR a12 n12 m12 ls W hx'.r12
  have e1 : (k == 1) = false := by simpa using h1
  have e2 : (k == 2) = false := by simpa using h2
  have e3 : (k == 3) = false := by simpa using h3
  go_enter Try.func28, Try.ntmps28
  go_wp2_with fail
  rw [HD.out]
  refine hq.mono ?_
  rintro e w1 ⟨rfl, rfl⟩
  go_wp2_with fail
  go_ret
  exact ⟨rfl, hb⟩

set_option maxHeartbeats 1000000 in
theorem obMay_any (x : Ob) (w : World) (hx : x.In w) : Calls Try.prog 14 #[.agg #[.int .u64 x.i, .int .i64 x.k, .int .u8 x.d, .slice x.a3 x.n3 x.m3, .slice x.a4 x.n4 x.m4, .slice x.a5 x.n5 x.m5, .slice x.a6 x.n6 x.m6, .int .i64 x.q, .int .i64 x.u, .int .i64 x.n, .slice x.a10 x.n10 x.m10, .slice x.a11 x.n11 x.m11, .slice x.a12 x.n12 x.m12]] w fun e w' => e = .returned (.bool (mayD x.od)) ∧ Below w.heap.size w w' := by
  have hb := obj_below x w
  have hO := obj_at x w
  have HD : Hid (w.alloc (.cells #[.int .u64 x.i, .int .i64 x.k, .int .u8 x.d, .slice x.a3 x.n3 x.m3, .slice x.a4 x.n4 x.m4, .slice x.a5 x.n5 x.m5, .slice x.a6 x.n6 x.m6, .int .i64 x.q, .int .i64 x.u, .int .i64 x.n, .slice x.a10 x.n10 x.m10, .slice x.a11 x.n11 x.m11, .slice x.a12 x.n12 x.m12] 32) = obj x w) := obj_def x w
  have hx' := hx.below hb
  generalize obj x w = W at hb hx' hO HD
  have hN := nmMay_any x.i hx.bi W
  have hK := isKind_any x.k W
  have hL := mayLabel_any x.d hx.bd.1 x.a3 x.n3 x.m3 x.ps W hx'.r3
  rw [show mayD x.od = (isN x.i && isK x.k && mayP x.d x.ps && mayW x.od) from rfl]
  obtain ⟨c0, c1, c2, c3, c4, c5, c6, c7, c8, c9, c10, c11, c12⟩ := hO.cells
  have hl := hO.lt
  cases hn : isN x.i
  · rw [hn] at hN
    clear hn
    go_enter Try.func14, Try.ntmps14
    go_wp2_with fail
    rw [HD.out]
    refine hN.mono ?_
    rintro e w1 ⟨rfl, rfl⟩
    go_wp2_with fail
    go_ret
    exact ⟨rfl, hb⟩
  rw [hn] at hN
  clear hn
  cases hk : isK x.k
  · rw [hk] at hK
    clear hk
    go_enter Try.func14, Try.ntmps14
    go_wp2_with fail
    rw [HD.out]
    refine hN.mono ?_
    rintro e w1 ⟨rfl, rfl⟩
    go_wp2_with fail
    refine hK.mono ?_
    rintro e w1 ⟨rfl, rfl⟩
    go_wp2_with fail
    go_ret
    exact ⟨rfl, hb⟩
  rw [hk] at hK
  clear hk
  cases hp : mayP x.d x.ps
  · rw [hp] at hL
    clear hp
    go_enter Try.func14, Try.ntmps14
    go_wp2_with fail
    rw [HD.out]
    refine hN.mono ?_
    rintro e w1 ⟨rfl, rfl⟩
    go_wp2_with fail
    refine hK.mono ?_
    rintro e w1 ⟨rfl, rfl⟩
    go_wp2_with fail
    refine hL.mono ?_
    rintro e w2 ⟨rfl, b2⟩
    go_wp2_with fail
    go_ret
    exact ⟨rfl, ext_trans hb b2⟩
  rw [hp] at hL
  clear hp
  have hW := fun w2 (b2 : Below W.heap.size W w2) => mayOwn_any x w2 (hx'.below b2)
  generalize mayW x.od = q at hW ⊢
  go_enter Try.func14, Try.ntmps14
  go_wp2_with fail
  rw [HD.out]
  refine hN.mono ?_
  rintro e w1 ⟨rfl, rfl⟩
  go_wp2_with fail
  refine hK.mono ?_
  rintro e w1 ⟨rfl, rfl⟩
  go_wp2_with fail
  refine hL.mono ?_
  rintro e w2 ⟨rfl, b2⟩
  replace hW := hW w2 b2
  have hO2 := hO.below b2
  clear c0 c1 c2 c3 c4 c5 c6 c7 c8 c9 c10 c11 c12 hl
  obtain ⟨c0, c1, c2, c3, c4, c5, c6, c7, c8, c9, c10, c11, c12⟩ := hO2.cells
  go_wp2_with fail
  refine hW.mono ?_
  rintro e w3 ⟨rfl, b3⟩
  replace b3 := ext_trans hb (ext_trans b2 b3)
  cases q
  · go_wp2_with fail
    go_ret
    exact ⟨rfl, b3⟩
  · go_wp2_with fail
    go_ret
    exact ⟨rfl, b3⟩
end Go.Proofs.Ytldkelpngeopmaa
