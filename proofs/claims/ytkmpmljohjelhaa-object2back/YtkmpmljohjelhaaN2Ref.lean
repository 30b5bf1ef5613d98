/- What the document's own answers of objects: PutRing, plain, May2, tail, Put2: contracts, for every object. -/
import Derived.Test.YtkmpmljohjelhaaObj
import Derived.Test.YtkmpmljohjelhaaScPut
import Derived.Test.YtkmpmljohjelhaaN2Math
import Derived.Test.YtkmpmljohjelhaaJRing
import Derived.Test.YtkmpmljohjelhaaJSet
import Derived.Test.YtkmpmljohjelhaaJName
import Derived.Test.YtkmpmljohjelhaaJNum
import Derived.Test.YtkmpmljohjelhaaRegion
namespace Go.Proofs.Ytkmpmljohjelhaa
open Go.RowKit
set_option maxRecDepth 100000
set_option linter.unusedVariables false

set_option maxHeartbeats 1000000 in
theorem refPutRingN_any (b : Option Addr) (m d : Nat) (ys : List Int) (a : Option Addr) (n c : Nat) (ps : List Le) (w : World) (hs : Row w b m d ys) (hr : RowR w a n c ps) (hm : mayT (txt ps) = true) (hb : m ≤ 1000000) :
    Calls Try.prog 36 #[.slice b m d, .slice a n c] w fun e w' => ∃ g k c', e = .returned (.slice (some ⟨g, 0, none⟩) k c') ∧ Own 5 w' w.heap.size g k c' (ys ++ ringB (txt ps)) ∧ Below w.heap.size w w' := by
  have hl : Hid (ps.length = n) := hr.len
  have hcap := hr.cap_le
  have hmi := (mayT_iff _).1 hm
  have h16 := hr.le16.1 hmi.2
  have hn4 : n ≤ 4 := by have := hmi.1; rw [txt_len] at this; have := hl.out; omega
  clear hmi
  have hu : IntKind.u8.wrap (n : Int) = (n : Int) := by rw [IntKind.wrap_u8]; omega
  have hpb : Hid (putB n 1 = [(n : Int)]) := by
    show _ = _
    simp only [putB, Int.pow_zero, Int.ediv_one]
    rw [Int.emod_eq_of_lt (by omega) (by omega)]
  go_enter Try.func36, Try.ntmps36
  go_wp2_with (first | (at_builtin; refine wp_append_bytes _ rfl (.tmp 6) (.tmp 7) 29 rfl 5 Try.underlying29 info5 w.heap.size w.heap.size 0 0 [] rfl (own_lit w 5 [] 0 rfl (by omega) Byt.nil) b m d ys rfl (hs.below (below_alloc _ _)) (by omega) (by simp) w (below_alloc _ _) ?_; intro g1 c1 w1 o1 b1; rw [Nat.zero_add, List.nil_append] at o1) | (at_builtin; refine wp_append_bytes _ rfl (.tmp 8) (.tmp 12) 29 rfl 5 Try.underlying29 info5 w.heap.size g1 m c1 ys rfl (o1.below (below_alloc _ _)) (some ⟨w1.heap.size, 0, none⟩) 1 1 [(n : Int)] rfl (row_lit w1 5 [_] 1 rfl (by omega) (Byt.one (by omega))) (by omega) (by have := b1.size; simp; omega) w (b1.alloc b1.size _) ?_; intro g2 c2 w2 o2 b2) | fail)
  go_loopw [0, 5] (fun o iv wr => ∃ j g c' L : Nat, j ≤ n ∧ iv = .int .i64 j ∧ o = .slice (some ⟨g, 0, none⟩) L c' ∧ L ≤ m + 1 + 18 * j ∧ Own 5 wr w.heap.size g L c' (ys ++ (putB n 1 ++ letsB ((txt ps).take j))) ∧ Below w.heap.size w wr) (fun _ i _ => n - (intOf i).toNat)
  case atStart => exact ⟨0, g2, c2, m + 1, by omega, rfl, rfl, by omega, by rw [hpb.out]; simpa [letsB] using o2, b2⟩
  case round =>
    obtain ⟨j, g, cc, L, hj, rfl, rfl, hL, ho, hbel⟩ := hrel
    by_cases h : j < n
    · have h1 : (j : Int) < (n : Int) := by omega
      obtain ⟨gb, off, rfl, hr'⟩ := (hr.below hbel).at (by omega)
      obtain ⟨p, hp1⟩ := hr.get j h
      obtain ⟨k1, r1⟩ := hr'.cell hp1
      have HP : Hid (ps[j]? = some p) := hp1
      have hpn := h16 p (List.mem_of_getElem? hp1)
      have hpl := r1.len
      clear hr' hp1
      go_wp2_with fail
      refine (refPutBytes_any _ L cc _ p.a p.n p.c p.xs _ ho.row r1 (by omega) (by omega)).mono ?_
      rintro e w3 ⟨g3, c3, rfl, o3, b3⟩
      go_wp2_with fail
      go_roundw
      case rel =>
        refine ⟨j + 1, g3, c3, L + 2 + p.n, by omega, by go_num, rfl, by omega, ?_, ext_trans hbel b3⟩
        have e1 : (txt ps).take (j + 1) = (txt ps).take j ++ [p.xs] := by
          rw [List.take_add_one]; congr 1
          have := HP.out
          simp [txt, this]
        rw [e1, letsB_snoc, ← List.append_assoc, ← List.append_assoc]
        have o4 := o3.mono hbel.size
        rw [List.append_assoc _ (putB _ 2), ← List.append_assoc ys] at o4
        unfold letB
        rw [hpl]
        exact o4
      case measure => simp [intOf]; omega
    · have h1 : ¬ (j : Int) < (n : Int) := by omega
      obtain rfl : j = n := by omega
      rw [List.take_of_length_le (by rw [txt_len, hl.out]; exact Nat.le_refl _)] at ho
      go_wp2_with fail
      go_ret
      refine ⟨g, L, cc, rfl, ?_, hbel⟩
      unfold ringB
      rw [txt_len, hl.out]
      exact ho

theorem refPutN2_is (a : Option Addr) (len cap : Nat) (v : Int) (xs : List Int) (w : World) (hr : Row w a len cap xs) (hbd : len ≤ 1000000) :
    Calls Try.prog 20 #[.slice a len cap, .int .u64 v, .int .i64 2] w fun e w' => ∃ g cap', e = .returned (.slice (some ⟨g, 0, none⟩) (len + 2) cap') ∧ Own 5 w' w.heap.size g (len + 2) cap' (xs ++ putB v 2) ∧ Below w.heap.size w w' :=
  refPut_in a len cap v 2 (by omega) xs w hr (by omega)
theorem refPutN8_is (a : Option Addr) (len cap : Nat) (v : Int) (xs : List Int) (w : World) (hr : Row w a len cap xs) (hbd : len ≤ 1000000) :
    Calls Try.prog 20 #[.slice a len cap, .int .u64 v, .int .i64 8] w fun e w' => ∃ g cap', e = .returned (.slice (some ⟨g, 0, none⟩) (len + 8) cap') ∧ Own 5 w' w.heap.size g (len + 8) cap' (xs ++ putB v 8) ∧ Below w.heap.size w w' :=
  refPut_in a len cap v 8 (by omega) xs w hr (by omega)

theorem plainBoxN (q u n : Int) : decide (0 ≤ u ∧ u ≤ q ∧ q ≤ 400 ∧ 1 ≤ n ∧ n ≤ 64) = (decide (0 ≤ q) && decide (q ≤ 400) && decide (0 ≤ u) && decide (u ≤ q) && decide (1 ≤ n) && decide (n ≤ 64)) := by
  by_cases h : 0 ≤ u ∧ u ≤ q ∧ q ≤ 400 ∧ 1 ≤ n ∧ n ≤ 64
  · obtain ⟨h1, h2, h3, h4, h5⟩ := h
    simp [h1, h2, h3, h4, h5]; omega
  · rw [decide_eq_false h]
    symm
    apply Bool.eq_false_iff.2
    intro hc
    simp only [Bool.and_eq_true, decide_eq_true_eq] at hc
    exact h ⟨hc.1.1.1.2, hc.1.1.2, hc.1.1.1.1.2, hc.1.2, hc.2⟩

set_option maxHeartbeats 2000000 in
theorem plainN_any (x : Ob) (w : World) (hx : x.In w) : Calls Try.prog 21 #[.agg #[.int .u64 x.i, .int .i64 x.k, .int .u8 x.d, .slice x.a3 x.n3 x.m3, .slice x.a4 x.n4 x.m4, .slice x.a5 x.n5 x.m5, .slice x.a6 x.n6 x.m6, .int .i64 x.q, .int .i64 x.u, .int .i64 x.n, .slice x.a10 x.n10 x.m10, .slice x.a11 x.n11 x.m11, .slice x.a12 x.n12 x.m12]] w fun e w' => e = .returned (.bool (isN x.i && isK x.k && mayW x.od)) ∧ Below w.heap.size w w' := by
  have h10 := hx.r10.len
  have hb := obj_below x w
  have hx' := hx.below hb
  have c10 := hx.r10.cap_le
  obtain ⟨i, k, d, a3, n3, m3, a4, n4, m4, a5, n5, m5, a6, n6, m6, q, u, n, a10, n10, m10, a11, n11, m11, a12, n12, m12, ps, va, vb, vc, xs, cs, ls⟩ := x
  have hO := obj_at ⟨i, k, d, a3, n3, m3, a4, n4, m4, a5, n5, m5, a6, n6, m6, q, u, n, a10, n10, m10, a11, n11, m11, a12, n12, m12, ps, va, vb, vc, xs, cs, ls⟩ w
  have HD : Hid (w.alloc (.cells #[.int .u64 i, .int .i64 k, .int .u8 d, .slice a3 n3 m3, .slice a4 n4 m4, .slice a5 n5 m5, .slice a6 n6 m6, .int .i64 q, .int .i64 u, .int .i64 n, .slice a10 n10 m10, .slice a11 n11 m11, .slice a12 n12 m12] 32) = obj ⟨i, k, d, a3, n3, m3, a4, n4, m4, a5, n5, m5, a6, n6, m6, q, u, n, a10, n10, m10, a11, n11, m11, a12, n12, m12, ps, va, vb, vc, xs, cs, ls⟩ w) := obj_def ⟨i, k, d, a3, n3, m3, a4, n4, m4, a5, n5, m5, a6, n6, m6, q, u, n, a10, n10, m10, a11, n11, m11, a12, n12, m12, ps, va, vb, vc, xs, cs, ls⟩ w
  dsimp only at h10 c10 ⊢
  generalize hWW : obj ⟨i, k, d, a3, n3, m3, a4, n4, m4, a5, n5, m5, a6, n6, m6, q, u, n, a10, n10, m10, a11, n11, m11, a12, n12, m12, ps, va, vb, vc, xs, cs, ls⟩ w = W at hb hx' hO HD
  clear hWW
  have hN := nmRefMay_any i hx.bi W
  cases hn : isN i
  · rw [hn] at hN
    clear hn
    go_enter Try.func21, Try.ntmps21
    go_wp2_with fail
    rw [HD.out]
    refine hN.mono ?_
    rintro e w1 ⟨rfl, b1⟩
    go_wp2_with fail
    go_ret
    exact ⟨rfl, ext_trans hb b1⟩
  rw [hn] at hN
  clear hn
  have hC := fun (W1 : World) (b1 : Below W.heap.size W W1) => (hO.below b1).cells
  dsimp only at hC
  by_cases h1 : k = 1
  · subst h1
    rw [show (true && isK 1 && mayW (Ob.od ⟨i, 1, d, a3, n3, m3, a4, n4, m4, a5, n5, m5, a6, n6, m6, q, u, n, a10, n10, m10, a11, n11, m11, a12, n12, m12, ps, va, vb, vc, xs, cs, ls⟩)) = decide (0 ≤ u ∧ u ≤ q ∧ q ≤ 400 ∧ 1 ≤ n ∧ n ≤ 64) from rfl, plainBoxN]
    by_cases g1 : 0 ≤ q
    · by_cases g2 : q ≤ 400
      · by_cases g3 : 0 ≤ u
        · by_cases g4 : u ≤ q
          · by_cases g5 : 1 ≤ n
            · by_cases g6 : n ≤ 64
              · rw [show (decide (n ≤ 64)) = true from decide_eq_true g6, show (decide (1 ≤ n)) = true from decide_eq_true g5, show (decide (u ≤ q)) = true from decide_eq_true g4, show (decide (0 ≤ u)) = true from decide_eq_true g3, show (decide (q ≤ 400)) = true from decide_eq_true g2, show (decide (0 ≤ q)) = true from decide_eq_true g1]
                go_enter Try.func21, Try.ntmps21
                go_wp2_with fail
                rw [HD.out]
                refine hN.mono ?_
                rintro e w1 ⟨rfl, b1⟩
                obtain ⟨c0, c1, c2, c3, c4, c5, c6, c7, c8, c9, c10, c11, c12⟩ := hC _ b1
                go_wp2_with fail
                go_ret
                exact ⟨rfl, ext_trans hb b1⟩
              · rw [show (decide (n ≤ 64)) = false from decide_eq_false g6, Bool.and_false]
                go_enter Try.func21, Try.ntmps21
                go_wp2_with fail
                rw [HD.out]
                refine hN.mono ?_
                rintro e w1 ⟨rfl, b1⟩
                obtain ⟨c0, c1, c2, c3, c4, c5, c6, c7, c8, c9, c10, c11, c12⟩ := hC _ b1
                go_wp2_with fail
                go_ret
                exact ⟨congrArg (fun b => Ending.returned (Value.bool b)) (decide_eq_false (by omega)), ext_trans hb b1⟩
            · rw [show (decide (1 ≤ n)) = false from decide_eq_false g5]
              simp only [Bool.and_false, Bool.false_and]
              go_enter Try.func21, Try.ntmps21
              go_wp2_with fail
              rw [HD.out]
              refine hN.mono ?_
              rintro e w1 ⟨rfl, b1⟩
              obtain ⟨c0, c1, c2, c3, c4, c5, c6, c7, c8, c9, c10, c11, c12⟩ := hC _ b1
              go_wp2_with fail
              go_ret
              exact ⟨rfl, ext_trans hb b1⟩
          · rw [show (decide (u ≤ q)) = false from decide_eq_false g4]
            simp only [Bool.and_false, Bool.false_and]
            go_enter Try.func21, Try.ntmps21
            go_wp2_with fail
            rw [HD.out]
            refine hN.mono ?_
            rintro e w1 ⟨rfl, b1⟩
            obtain ⟨c0, c1, c2, c3, c4, c5, c6, c7, c8, c9, c10, c11, c12⟩ := hC _ b1
            go_wp2_with fail
            go_ret
            exact ⟨rfl, ext_trans hb b1⟩
        · rw [show (decide (0 ≤ u)) = false from decide_eq_false g3]
          simp only [Bool.and_false, Bool.false_and]
          go_enter Try.func21, Try.ntmps21
          go_wp2_with fail
          rw [HD.out]
          refine hN.mono ?_
          rintro e w1 ⟨rfl, b1⟩
          obtain ⟨c0, c1, c2, c3, c4, c5, c6, c7, c8, c9, c10, c11, c12⟩ := hC _ b1
          go_wp2_with fail
          go_ret
          exact ⟨rfl, ext_trans hb b1⟩
      · rw [show (decide (q ≤ 400)) = false from decide_eq_false g2]
        simp only [Bool.and_false, Bool.false_and]
        go_enter Try.func21, Try.ntmps21
        go_wp2_with fail
        rw [HD.out]
        refine hN.mono ?_
        rintro e w1 ⟨rfl, b1⟩
        obtain ⟨c0, c1, c2, c3, c4, c5, c6, c7, c8, c9, c10, c11, c12⟩ := hC _ b1
        go_wp2_with fail
        go_ret
        exact ⟨rfl, ext_trans hb b1⟩
    · rw [show (decide (0 ≤ q)) = false from decide_eq_false g1]
      simp only [Bool.false_and]
      go_enter Try.func21, Try.ntmps21
      go_wp2_with fail
      rw [HD.out]
      refine hN.mono ?_
      rintro e w1 ⟨rfl, b1⟩
      obtain ⟨c0, c1, c2, c3, c4, c5, c6, c7, c8, c9, c10, c11, c12⟩ := hC _ b1
      go_wp2_with fail
      go_ret
      exact ⟨rfl, ext_trans hb b1⟩
  by_cases h2 : k = 2
  · subst h2
    rw [show (true && isK 2 && mayW (Ob.od ⟨i, 2, d, a3, n3, m3, a4, n4, m4, a5, n5, m5, a6, n6, m6, q, u, n, a10, n10, m10, a11, n11, m11, a12, n12, m12, ps, va, vb, vc, xs, cs, ls⟩)) = decide (xs.length ≤ 64) from rfl, h10]
    by_cases h : n10 ≤ 64
    · have h' : (n10 : Int) ≤ 64 := by omega
      rw [decide_eq_true h]
      go_enter Try.func21, Try.ntmps21
      go_wp2_with fail
      rw [HD.out]
      refine hN.mono ?_
      rintro e w1 ⟨rfl, b1⟩
      obtain ⟨c0, c1, c2, c3, c4, c5, c6, c7, c8, c9, c10, c11, c12⟩ := hC _ b1
      go_wp2_with fail
      go_ret
      exact ⟨rfl, ext_trans hb b1⟩
    · have h' : ¬ (n10 : Int) ≤ 64 := by omega
      rw [decide_eq_false h]
      go_enter Try.func21, Try.ntmps21
      go_wp2_with fail
      rw [HD.out]
      refine hN.mono ?_
      rintro e w1 ⟨rfl, b1⟩
      obtain ⟨c0, c1, c2, c3, c4, c5, c6, c7, c8, c9, c10, c11, c12⟩ := hC _ b1
      go_wp2_with fail
      go_ret
      exact ⟨congrArg (fun b => Ending.returned (Value.bool b)) (decide_eq_false (by omega)), ext_trans hb b1⟩
  by_cases h3 : k = 3
  · subst h3
    rw [show (true && isK 3 && mayW (Ob.od ⟨i, 3, d, a3, n3, m3, a4, n4, m4, a5, n5, m5, a6, n6, m6, q, u, n, a10, n10, m10, a11, n11, m11, a12, n12, m12, ps, va, vb, vc, xs, cs, ls⟩)) = mayS cs from rfl]
    have hq := fun (W1 : World) (b1 : Below W.heap.size W W1) => refMay_any a11 n11 m11 cs W1 (hx'.below b1).r11
    go_enter Try.func21, Try.ntmps21
    go_wp2_with fail
    rw [HD.out]
    refine hN.mono ?_
    rintro e w1 ⟨rfl, b1⟩
    obtain ⟨c0, c1, c2, c3, c4, c5, c6, c7, c8, c9, c10, c11, c12⟩ := hC _ b1
    have hq1 := hq _ b1
    go_wp2_with fail
    refine hq1.mono ?_
    rintro e w2 ⟨rfl, b2⟩
    go_wp2_with fail
    go_ret
    exact ⟨rfl, ext_trans hb (ext_trans b1 b2)⟩
  by_cases h4 : k = 4
  · subst h4
    rw [show (true && isK 4 && mayW (Ob.od ⟨i, 4, d, a3, n3, m3, a4, n4, m4, a5, n5, m5, a6, n6, m6, q, u, n, a10, n10, m10, a11, n11, m11, a12, n12, m12, ps, va, vb, vc, xs, cs, ls⟩)) = mayT (txt ls) from rfl]
    have hq := fun (W1 : World) (b1 : Below W.heap.size W W1) => mayRing_any a12 n12 m12 ls W1 (hx'.below b1).r12
    go_enter Try.func21, Try.ntmps21
    go_wp2_with fail
    rw [HD.out]
    refine hN.mono ?_
    rintro e w1 ⟨rfl, b1⟩
    obtain ⟨c0, c1, c2, c3, c4, c5, c6, c7, c8, c9, c10, c11, c12⟩ := hC _ b1
    have hq1 := hq _ b1
    go_wp2_with fail
    refine hq1.mono ?_
    rintro e w2 ⟨rfl, rfl⟩
    go_wp2_with fail
    go_ret
    exact ⟨rfl, ext_trans hb b1⟩
  have hk : isK k = false := by simp [isK]; omega
  rw [hk]
  have e1 : (k == 1) = false := by simpa using h1
  have e2 : (k == 2) = false := by simpa using h2
  have e3 : (k == 3) = false := by simpa using h3
  have e4 : (k == 4) = false := by simpa using h4
  clear hk
  go_enter Try.func21, Try.ntmps21
  go_wp2_with fail
  rw [HD.out]
  refine hN.mono ?_
  rintro e w1 ⟨rfl, b1⟩
  obtain ⟨c0, c1, c2, c3, c4, c5, c6, c7, c8, c9, c10, c11, c12⟩ := hC _ b1
  go_wp2_with fail
  go_ret
  exact ⟨rfl, ext_trans hb b1⟩

theorem mayD2_split (x : Ob) : mayD2 x.od = ((isN x.i && isK x.k && mayW x.od) && mayV x.va x.vb x.vc && decide (x.vc = [])) := by
  show (isN x.i && isK x.k && (mayV x.va x.vb x.vc && decide (x.vc = [])) && mayW x.od) = _
  cases isN x.i <;> cases isK x.k <;> cases mayV x.va x.vb x.vc <;> cases decide (x.vc = []) <;> cases mayW x.od <;> rfl
set_option maxHeartbeats 1000000 in
theorem may2N_any (x : Ob) (w : World) (hx : x.In w) : Calls Try.prog 11 #[.agg #[.int .u64 x.i, .int .i64 x.k, .int .u8 x.d, .slice x.a3 x.n3 x.m3, .slice x.a4 x.n4 x.m4, .slice x.a5 x.n5 x.m5, .slice x.a6 x.n6 x.m6, .int .i64 x.q, .int .i64 x.u, .int .i64 x.n, .slice x.a10 x.n10 x.m10, .slice x.a11 x.n11 x.m11, .slice x.a12 x.n12 x.m12]] w fun e w' => e = .returned (.bool (mayD2 x.od)) ∧ Below w.heap.size w w' := by
  rw [mayD2_split]
  have hb := obj_below x w
  have hO := obj_at x w
  have HD : Hid (w.alloc (.cells #[.int .u64 x.i, .int .i64 x.k, .int .u8 x.d, .slice x.a3 x.n3 x.m3, .slice x.a4 x.n4 x.m4, .slice x.a5 x.n5 x.m5, .slice x.a6 x.n6 x.m6, .int .i64 x.q, .int .i64 x.u, .int .i64 x.n, .slice x.a10 x.n10 x.m10, .slice x.a11 x.n11 x.m11, .slice x.a12 x.n12 x.m12] 32) = obj x w) := obj_def x w
  have hx' := hx.below hb
  generalize obj x w = W at hb hx' hO HD
  have hP := plainN_any x W hx'
  have hC := fun (W1 : World) (b1 : Below W.heap.size W W1) => (hO.below b1).cells
  have hL := fun (W1 : World) (b1 : Below W.heap.size W W1) => refMaySets_any ⟨x.a4, x.n4, x.m4, x.va, x.a5, x.n5, x.m5, x.vb, x.a6, x.n6, x.m6, x.vc⟩ W1 ⟨(hx'.below b1).r4, (hx'.below b1).r5, (hx'.below b1).r6⟩
  dsimp only at hL
  have hz : x.vc = [] ↔ x.n6 = 0 := by rw [← hx.r6.len, List.length_eq_zero_iff]
  generalize (isN x.i && isK x.k && mayW x.od) = p at hP ⊢
  generalize mayV x.va x.vb x.vc = l at hL ⊢
  obtain ⟨s, hs⟩ : ∃ s, s = decide (x.vc = []) := ⟨_, rfl⟩
  have hz' : s = true ↔ x.n6 = 0 := by rw [hs, decide_eq_true_iff]; exact hz
  rw [← hs]
  clear hs hz
  cases p
  · go_enter Try.func11, Try.ntmps11
    go_wp2_with fail
    rw [HD.out]
    refine hP.mono ?_
    rintro e w1 ⟨rfl, b1⟩
    go_wp2_with fail
    go_ret
    exact ⟨rfl, ext_trans hb b1⟩
  cases l
  · go_enter Try.func11, Try.ntmps11
    go_wp2_with fail
    rw [HD.out]
    refine hP.mono ?_
    rintro e w1 ⟨rfl, b1⟩
    obtain ⟨c0, c1, c2, c3, c4, c5, c6, c7, c8, c9, c10, c11, c12⟩ := hC _ b1
    have hL1 := hL _ b1
    go_wp2_with fail
    refine hL1.mono ?_
    rintro e w2 ⟨rfl, b2⟩
    go_wp2_with fail
    go_ret
    exact ⟨rfl, ext_trans hb (ext_trans b1 b2)⟩
  have HZ : Hid (s = true ↔ x.n6 = 0) := hz'
  clear hz'
  go_enter Try.func11, Try.ntmps11
  go_wp2_with fail
  rw [HD.out]
  refine hP.mono ?_
  rintro e w1 ⟨rfl, b1⟩
  obtain ⟨c0, c1, c2, c3, c4, c5, c6, c7, c8, c9, c10, c11, c12⟩ := hC _ b1
  have hL1 := hL _ b1
  go_wp2_with fail
  refine hL1.mono ?_
  rintro e w2 ⟨rfl, b2⟩
  replace b2 := ext_trans b1 b2
  clear c0 c1 c2 c3 c4 c5 c6 c7 c8 c9 c10 c11 c12 hL1
  obtain ⟨c0, c1, c2, c3, c4, c5, c6, c7, c8, c9, c10, c11, c12⟩ := hC _ b2
  have b3 := ext_trans hb b2
  cases s
  · have h0 : ¬ x.n6 = 0 := fun h => absurd (HZ.out.2 h) (by simp)
    have h0' : ((x.n6 : Int) == 0) = false := by simp; omega
    have H0 : Hid (((x.n6 : Int) == 0) = false) := h0'
    clear h0 h0'
    go_wp2_with fail
    go_ret
    exact ⟨congrArg (fun b => Ending.returned (Value.bool b)) H0.out, b3⟩
  · have h0 : x.n6 = 0 := HZ.out.1 rfl
    have h0' : ((x.n6 : Int) == 0) = true := by rw [h0]; rfl
    have H0 : Hid (((x.n6 : Int) == 0) = true) := h0'
    clear h0 h0'
    go_wp2_with fail
    go_ret
    exact ⟨congrArg (fun b => Ending.returned (Value.bool b)) H0.out, b3⟩

/-- What the document's tail answers of a thing of its kind. -/
def TailsN (x : Ob) : Prop := ∀ (a : Option Addr) (len cap : Nat) (bs : List Int) (w : World), x.In w → Row w a len cap bs → len ≤ 1000 →
  Calls Try.prog 18 #[.slice a len cap, .agg #[.int .u64 x.i, .int .i64 x.k, .int .u8 x.d, .slice x.a3 x.n3 x.m3, .slice x.a4 x.n4 x.m4, .slice x.a5 x.n5 x.m5, .slice x.a6 x.n6 x.m6, .int .i64 x.q, .int .i64 x.u, .int .i64 x.n, .slice x.a10 x.n10 x.m10, .slice x.a11 x.n11 x.m11, .slice x.a12 x.n12 x.m12]] w fun e w' => ∃ g n c, e = .returned (.slice (some ⟨g, 0, none⟩) n c) ∧ Own 5 w' w.heap.size g n c (bs ++ ownB x.od) ∧ Below w.heap.size w w'
set_option maxHeartbeats 4000000 in
theorem tailN_box (i d : Int) (a3 : Option Addr) (n3 m3 : Nat) (a4 : Option Addr) (n4 m4 : Nat) (a5 : Option Addr) (n5 m5 : Nat) (a6 : Option Addr) (n6 m6 : Nat) (q u n : Int) (a10 : Option Addr) (n10 m10 : Nat) (a11 : Option Addr) (n11 m11 : Nat) (a12 : Option Addr) (n12 m12 : Nat) (ps : List (Int × Int)) (va vb vc xs cs : List Int) (ls : List Le) (hw : 0 ≤ u ∧ u ≤ q ∧ q ≤ 400 ∧ 1 ≤ n ∧ n ≤ 64) : TailsN ⟨i, 1, d, a3, n3, m3, a4, n4, m4, a5, n5, m5, a6, n6, m6, q, u, n, a10, n10, m10, a11, n11, m11, a12, n12, m12, ps, va, vb, vc, xs, cs, ls⟩ := by
  intro a len cap bs w hx hr hbd
  have hb := obj_below ⟨i, 1, d, a3, n3, m3, a4, n4, m4, a5, n5, m5, a6, n6, m6, q, u, n, a10, n10, m10, a11, n11, m11, a12, n12, m12, ps, va, vb, vc, xs, cs, ls⟩ w
  have hO := obj_at ⟨i, 1, d, a3, n3, m3, a4, n4, m4, a5, n5, m5, a6, n6, m6, q, u, n, a10, n10, m10, a11, n11, m11, a12, n12, m12, ps, va, vb, vc, xs, cs, ls⟩ w
  have HD : Hid (w.alloc (.cells #[.int .u64 i, .int .i64 1, .int .u8 d, .slice a3 n3 m3, .slice a4 n4 m4, .slice a5 n5 m5, .slice a6 n6 m6, .int .i64 q, .int .i64 u, .int .i64 n, .slice a10 n10 m10, .slice a11 n11 m11, .slice a12 n12 m12] 32) = obj ⟨i, 1, d, a3, n3, m3, a4, n4, m4, a5, n5, m5, a6, n6, m6, q, u, n, a10, n10, m10, a11, n11, m11, a12, n12, m12, ps, va, vb, vc, xs, cs, ls⟩ w) := obj_def ⟨i, 1, d, a3, n3, m3, a4, n4, m4, a5, n5, m5, a6, n6, m6, q, u, n, a10, n10, m10, a11, n11, m11, a12, n12, m12, ps, va, vb, vc, xs, cs, ls⟩ w
  rw [show ownB (Ob.od ⟨i, 1, d, a3, n3, m3, a4, n4, m4, a5, n5, m5, a6, n6, m6, q, u, n, a10, n10, m10, a11, n11, m11, a12, n12, m12, ps, va, vb, vc, xs, cs, ls⟩) = putB q 2 ++ putB u 2 ++ putB n 2 from rfl]
  dsimp only
  generalize obj ⟨i, 1, d, a3, n3, m3, a4, n4, m4, a5, n5, m5, a6, n6, m6, q, u, n, a10, n10, m10, a11, n11, m11, a12, n12, m12, ps, va, vb, vc, xs, cs, ls⟩ w = W at hb hO HD
  have HC : Hid (∀ V, Below W.heap.size W V → (V.cell? ⟨w.heap.size, 7, none⟩ = some (.int .i64 q) ∧ V.cell? ⟨w.heap.size, 8, none⟩ = some (.int .i64 u) ∧ V.cell? ⟨w.heap.size, 9, none⟩ = some (.int .i64 n)) ∧ Row V a len cap bs ∧ Below w.heap.size w V) :=
    fun V h => ⟨⟨(hO.below h).cells.2.2.2.2.2.2.2.1, (hO.below h).cells.2.2.2.2.2.2.2.2.1, (hO.below h).cells.2.2.2.2.2.2.2.2.2.1⟩, (hr.below hb).below h, ext_trans hb h⟩
  have hsw := hb.size
  have wq : IntKind.u64.wrap q = q := by rw [IntKind.wrap_u64]; omega
  have wu : IntKind.u64.wrap u = u := by rw [IntKind.wrap_u64]; omega
  have wn : IntKind.u64.wrap n = n := by rw [IntKind.wrap_u64]; omega
  have c1 := hO.cells.2.1
  dsimp only at c1
  clear hO hb
  go_enter Try.func18, Try.ntmps18
  go_wp2_with fail
  rw [HD.out]
  have HB0 : Below W.heap.size W W.drew := ext_drew _
  refine wp_region_noPanic ?_
  refine wp_region_held_drew (S := fun V => Below W.heap.size W V) (by kernel_rfl) HB0 fun hS => ?_
  refine take_to (i := 0) (v := ?_) 9 rfl rfl (by kernel_rfl) (by kernel_rfl) (by kernel_rfl) (fun _ _ _ h => h) (Or.inl ⟨by rfl, ?_⟩) hS ?_
  rotate_left
  · intro V hV
    obtain ⟨⟨y0, y1, y2⟩, _, _⟩ := HC.out V hV
    go_simp
    try with_reducible rfl
  simp only [List.setIfInBounds_toArray, List.set_cons_zero, List.set_cons_succ]
  refine take_to (i := 1) (v := ?_) 10 rfl rfl (by kernel_rfl) (by kernel_rfl) (by kernel_rfl) (fun _ _ _ h => h) (Or.inl ⟨by rfl, ?_⟩) hS ?_
  rotate_left
  · intro V hV
    obtain ⟨⟨y0, y1, y2⟩, _, _⟩ := HC.out V hV
    go_simp
    try with_reducible rfl
  simp only [List.setIfInBounds_toArray, List.set_cons_zero, List.set_cons_succ]
  refine take_to (i := 2) (v := ?_) 11 rfl rfl (by kernel_rfl) (by kernel_rfl) (by kernel_rfl) (fun _ _ _ h => h) (Or.inl ⟨by rfl, ?_⟩) hS ?_
  rotate_left
  · intro V hV
    obtain ⟨⟨y0, y1, y2⟩, _, _⟩ := HC.out V hV
    go_simp
    try with_reducible rfl
  simp only [List.setIfInBounds_toArray, List.set_cons_zero, List.set_cons_succ]
  refine take_to (i := 3) (v := ?_) 12 rfl rfl (by kernel_rfl) (by kernel_rfl) (by kernel_rfl) (fun _ _ _ h => h) (Or.inl ⟨by rfl, ?_⟩) hS ?_
  rotate_left
  · intro V hV
    obtain ⟨⟨y0, y1, y2⟩, _, _⟩ := HC.out V hV
    go_simp
    try with_reducible rfl
  simp only [List.setIfInBounds_toArray, List.set_cons_zero, List.set_cons_succ]
  refine take_to (i := 5) (v := ?_) 14 rfl rfl (by kernel_rfl) (by kernel_rfl) (by kernel_rfl) (fun _ _ _ h => h) (Or.inl ⟨by rfl, ?_⟩) hS ?_
  rotate_left
  · intro V hV
    obtain ⟨⟨y0, y1, y2⟩, _, _⟩ := HC.out V hV
    go_simp
    try with_reducible rfl
  simp only [List.setIfInBounds_toArray, List.set_cons_zero, List.set_cons_succ]
  refine take_to (i := 6) (v := ?_) 15 rfl rfl (by kernel_rfl) (by kernel_rfl) (by kernel_rfl) (fun _ _ _ h => h) (Or.inl ⟨by rfl, ?_⟩) hS ?_
  rotate_left
  · intro V hV
    obtain ⟨⟨y0, y1, y2⟩, _, _⟩ := HC.out V hV
    go_simp
    try with_reducible rfl
  simp only [List.setIfInBounds_toArray, List.set_cons_zero, List.set_cons_succ]
  refine take_to (i := 7) (v := ?_) 16 rfl rfl (by kernel_rfl) (by kernel_rfl) (by kernel_rfl) (fun _ _ _ h => h) (Or.inl ⟨by rfl, ?_⟩) hS ?_
  rotate_left
  · intro V hV
    obtain ⟨⟨y0, y1, y2⟩, _, _⟩ := HC.out V hV
    go_simp
    try with_reducible rfl
  simp only [List.setIfInBounds_toArray, List.set_cons_zero, List.set_cons_succ]
  refine take_to (i := 9) (v := ?_) 18 rfl rfl (by kernel_rfl) (by kernel_rfl) (by kernel_rfl) (fun _ _ _ h => h) (Or.inl ⟨by rfl, ?_⟩) hS ?_
  rotate_left
  · intro V hV
    obtain ⟨⟨y0, y1, y2⟩, _, _⟩ := HC.out V hV
    go_simp
    try with_reducible rfl
  simp only [List.setIfInBounds_toArray, List.set_cons_zero, List.set_cons_succ]
  refine take_to (i := 10) (v := ?_) 19 rfl rfl (by kernel_rfl) (by kernel_rfl) (by kernel_rfl) (fun _ _ _ h => h) (Or.inl ⟨by rfl, ?_⟩) hS ?_
  rotate_left
  · intro V hV
    obtain ⟨⟨y0, y1, y2⟩, _, _⟩ := HC.out V hV
    go_simp
    try with_reducible rfl
  simp only [List.setIfInBounds_toArray, List.set_cons_zero, List.set_cons_succ]
  refine take_to (i := 11) (v := ?_) 20 rfl rfl (by kernel_rfl) (by kernel_rfl) (by kernel_rfl) (fun _ _ _ h => h) (Or.inl ⟨by rfl, ?_⟩) hS ?_
  rotate_left
  · intro V hV
    obtain ⟨⟨y0, y1, y2⟩, _, _⟩ := HC.out V hV
    go_simp
    try with_reducible rfl
  simp only [List.setIfInBounds_toArray, List.set_cons_zero, List.set_cons_succ]
  have hp1 := refPutN2_is a len cap q bs W.drew (HC.out _ HB0).2.1 (by omega)
  refine wpAnyH_ready (rs := [4]) (by kernel_rfl) (by simp) ?_
  refine AllReadyH.cons rfl (fun K hK => ?_) AllReadyH.nil
  go_simp
  refine hp1.mono ?_
  rintro e W1 ⟨g1, cc1, rfl, o1, b1⟩
  have HBB := ext_trans HB0 b1
  refine hK.out _ _ HBB fun hS => ?_
  clear hK K
  have HB1 := HBB
  clear HBB
  have hp2 := refPutN2_is _ _ _ u _ W1 o1.row (by omega)
  rw [show len + 2 + 2 = len + 4 from rfl] at hp2
  refine wpAnyH_ready (rs := [8]) (by kernel_rfl) (by simp) ?_
  refine AllReadyH.cons rfl (fun K hK => ?_) AllReadyH.nil
  go_simp
  refine hp2.mono ?_
  rintro e W2 ⟨g2, cc2, rfl, o2, b2⟩
  have HBB := ext_trans HB1 b2
  refine hK.out _ _ HBB fun hS => ?_
  clear hK K
  have HB2 := HBB
  clear HBB
  have hp3 := refPutN2_is _ _ _ n _ W2 o2.row (by omega)
  rw [show len + 4 + 2 = len + 6 from rfl] at hp3
  refine wpAnyH_ready (rs := [12]) (by kernel_rfl) (by simp) ?_
  refine AllReadyH.cons rfl (fun K hK => ?_) AllReadyH.nil
  go_simp
  refine hp3.mono ?_
  rintro e W3 ⟨g3, cc3, rfl, o3, b3⟩
  have HBB := ext_trans HB2 b3
  refine hK.out _ _ HBB fun hS => ?_
  clear hK K
  refine take_to (i := 13) (v := ?_) 4 rfl rfl (by kernel_rfl) (by kernel_rfl) (by kernel_rfl) (fun _ _ _ h => h) (Or.inl ⟨by rfl, ?_⟩) hS ?_
  rotate_left
  · intro V hV
    obtain ⟨⟨y0, y1, y2⟩, _, _⟩ := HC.out V hV
    go_simp
    try with_reducible rfl
  simp only [List.setIfInBounds_toArray, List.set_cons_zero, List.set_cons_succ]
  refine wpAnyH_done (by kernel_rfl) ?_ _
  refine NoPanic.normal ?_
  obtain ⟨_, _, bw⟩ := HC.out _ HBB
  go_wp2_with fail
  go_ret
  refine ⟨g3, _, cc3, rfl, ?_, bw⟩
  have o4 := o3.mono (show w.heap.size ≤ _ by have := HB2.size; omega)
  rw [← List.append_assoc, ← List.append_assoc]
  exact o4
set_option maxHeartbeats 2000000 in
theorem tailN_seg (i d : Int) (a3 : Option Addr) (n3 m3 : Nat) (a4 : Option Addr) (n4 m4 : Nat) (a5 : Option Addr) (n5 m5 : Nat) (a6 : Option Addr) (n6 m6 : Nat) (q u n : Int) (a10 : Option Addr) (n10 m10 : Nat) (a11 : Option Addr) (n11 m11 : Nat) (a12 : Option Addr) (n12 m12 : Nat) (ps : List (Int × Int)) (va vb vc xs cs : List Int) (ls : List Le) (hw : xs.length ≤ 64) : TailsN ⟨i, 2, d, a3, n3, m3, a4, n4, m4, a5, n5, m5, a6, n6, m6, q, u, n, a10, n10, m10, a11, n11, m11, a12, n12, m12, ps, va, vb, vc, xs, cs, ls⟩ := by
  intro a len cap bs w hx hr hbd
  have hb := obj_below ⟨i, 2, d, a3, n3, m3, a4, n4, m4, a5, n5, m5, a6, n6, m6, q, u, n, a10, n10, m10, a11, n11, m11, a12, n12, m12, ps, va, vb, vc, xs, cs, ls⟩ w
  have h10 := hx.r10.len
  have hx' := hx.below hb
  have HD : Hid (w.alloc (.cells #[.int .u64 i, .int .i64 2, .int .u8 d, .slice a3 n3 m3, .slice a4 n4 m4, .slice a5 n5 m5, .slice a6 n6 m6, .int .i64 q, .int .i64 u, .int .i64 n, .slice a10 n10 m10, .slice a11 n11 m11, .slice a12 n12 m12] 32) = obj ⟨i, 2, d, a3, n3, m3, a4, n4, m4, a5, n5, m5, a6, n6, m6, q, u, n, a10, n10, m10, a11, n11, m11, a12, n12, m12, ps, va, vb, vc, xs, cs, ls⟩ w) := obj_def ⟨i, 2, d, a3, n3, m3, a4, n4, m4, a5, n5, m5, a6, n6, m6, q, u, n, a10, n10, m10, a11, n11, m11, a12, n12, m12, ps, va, vb, vc, xs, cs, ls⟩ w
  rw [show ownB (Ob.od ⟨i, 2, d, a3, n3, m3, a4, n4, m4, a5, n5, m5, a6, n6, m6, q, u, n, a10, n10, m10, a11, n11, m11, a12, n12, m12, ps, va, vb, vc, xs, cs, ls⟩) = putB xs.length 2 ++ xs from rfl]
  dsimp only at h10 ⊢
  generalize obj ⟨i, 2, d, a3, n3, m3, a4, n4, m4, a5, n5, m5, a6, n6, m6, q, u, n, a10, n10, m10, a11, n11, m11, a12, n12, m12, ps, va, vb, vc, xs, cs, ls⟩ w = W at hb hx' HD
  have hp := refPutBytes_any a len cap bs a10 n10 m10 xs W (hr.below hb) hx'.r10 (by omega) (by omega)
  rw [h10]
  go_enter Try.func18, Try.ntmps18
  go_wp2_with fail
  rw [HD.out]
  refine hp.mono ?_
  rintro e w1 ⟨g, c, rfl, o, b1⟩
  go_wp2_with fail
  go_ret
  refine ⟨g, _, c, rfl, ?_, ext_trans hb b1⟩
  rw [← List.append_assoc]
  exact o.mono hb.size
set_option maxHeartbeats 2000000 in
theorem tailN_gate (i d : Int) (a3 : Option Addr) (n3 m3 : Nat) (a4 : Option Addr) (n4 m4 : Nat) (a5 : Option Addr) (n5 m5 : Nat) (a6 : Option Addr) (n6 m6 : Nat) (q u n : Int) (a10 : Option Addr) (n10 m10 : Nat) (a11 : Option Addr) (n11 m11 : Nat) (a12 : Option Addr) (n12 m12 : Nat) (ps : List (Int × Int)) (va vb vc xs cs : List Int) (ls : List Le) (hw : mayS cs = true) : TailsN ⟨i, 3, d, a3, n3, m3, a4, n4, m4, a5, n5, m5, a6, n6, m6, q, u, n, a10, n10, m10, a11, n11, m11, a12, n12, m12, ps, va, vb, vc, xs, cs, ls⟩ := by
  intro a len cap bs w hx hr hbd
  have hb := obj_below ⟨i, 3, d, a3, n3, m3, a4, n4, m4, a5, n5, m5, a6, n6, m6, q, u, n, a10, n10, m10, a11, n11, m11, a12, n12, m12, ps, va, vb, vc, xs, cs, ls⟩ w
  have h11 := hx.r11.len
  have hcl := mayS_le16 hw
  have hx' := hx.below hb
  have HD : Hid (w.alloc (.cells #[.int .u64 i, .int .i64 3, .int .u8 d, .slice a3 n3 m3, .slice a4 n4 m4, .slice a5 n5 m5, .slice a6 n6 m6, .int .i64 q, .int .i64 u, .int .i64 n, .slice a10 n10 m10, .slice a11 n11 m11, .slice a12 n12 m12] 32) = obj ⟨i, 3, d, a3, n3, m3, a4, n4, m4, a5, n5, m5, a6, n6, m6, q, u, n, a10, n10, m10, a11, n11, m11, a12, n12, m12, ps, va, vb, vc, xs, cs, ls⟩ w) := obj_def ⟨i, 3, d, a3, n3, m3, a4, n4, m4, a5, n5, m5, a6, n6, m6, q, u, n, a10, n10, m10, a11, n11, m11, a12, n12, m12, ps, va, vb, vc, xs, cs, ls⟩ w
  rw [show ownB (Ob.od ⟨i, 3, d, a3, n3, m3, a4, n4, m4, a5, n5, m5, a6, n6, m6, q, u, n, a10, n10, m10, a11, n11, m11, a12, n12, m12, ps, va, vb, vc, xs, cs, ls⟩) = putB cs.length 1 ++ encS cs from rfl]
  dsimp only at h11 ⊢
  generalize obj ⟨i, 3, d, a3, n3, m3, a4, n4, m4, a5, n5, m5, a6, n6, m6, q, u, n, a10, n10, m10, a11, n11, m11, a12, n12, m12, ps, va, vb, vc, xs, cs, ls⟩ w = W at hb hx' HD
  have hp := refPutSet_any a a11 len cap n11 m11 bs cs W (hr.below hb) hx'.r11 (by omega) (by omega)
  rw [h11]
  go_enter Try.func18, Try.ntmps18
  go_wp2_with fail
  rw [HD.out]
  refine hp.mono ?_
  rintro e w1 ⟨g, c, rfl, o, b1⟩
  go_wp2_with fail
  go_ret
  exact ⟨g, _, c, rfl, o.mono hb.size, ext_trans hb b1⟩
set_option maxHeartbeats 2000000 in
theorem tailN_port (i d : Int) (a3 : Option Addr) (n3 m3 : Nat) (a4 : Option Addr) (n4 m4 : Nat) (a5 : Option Addr) (n5 m5 : Nat) (a6 : Option Addr) (n6 m6 : Nat) (q u n : Int) (a10 : Option Addr) (n10 m10 : Nat) (a11 : Option Addr) (n11 m11 : Nat) (a12 : Option Addr) (n12 m12 : Nat) (ps : List (Int × Int)) (va vb vc xs cs : List Int) (ls : List Le) (hw : mayT (txt ls) = true) : TailsN ⟨i, 4, d, a3, n3, m3, a4, n4, m4, a5, n5, m5, a6, n6, m6, q, u, n, a10, n10, m10, a11, n11, m11, a12, n12, m12, ps, va, vb, vc, xs, cs, ls⟩ := by
  intro a len cap bs w hx hr hbd
  have hb := obj_below ⟨i, 4, d, a3, n3, m3, a4, n4, m4, a5, n5, m5, a6, n6, m6, q, u, n, a10, n10, m10, a11, n11, m11, a12, n12, m12, ps, va, vb, vc, xs, cs, ls⟩ w
  have hx' := hx.below hb
  have HD : Hid (w.alloc (.cells #[.int .u64 i, .int .i64 4, .int .u8 d, .slice a3 n3 m3, .slice a4 n4 m4, .slice a5 n5 m5, .slice a6 n6 m6, .int .i64 q, .int .i64 u, .int .i64 n, .slice a10 n10 m10, .slice a11 n11 m11, .slice a12 n12 m12] 32) = obj ⟨i, 4, d, a3, n3, m3, a4, n4, m4, a5, n5, m5, a6, n6, m6, q, u, n, a10, n10, m10, a11, n11, m11, a12, n12, m12, ps, va, vb, vc, xs, cs, ls⟩ w) := obj_def ⟨i, 4, d, a3, n3, m3, a4, n4, m4, a5, n5, m5, a6, n6, m6, q, u, n, a10, n10, m10, a11, n11, m11, a12, n12, m12, ps, va, vb, vc, xs, cs, ls⟩ w
  rw [show ownB (Ob.od ⟨i, 4, d, a3, n3, m3, a4, n4, m4, a5, n5, m5, a6, n6, m6, q, u, n, a10, n10, m10, a11, n11, m11, a12, n12, m12, ps, va, vb, vc, xs, cs, ls⟩) = ringB (txt ls) from rfl]
  dsimp only
  generalize obj ⟨i, 4, d, a3, n3, m3, a4, n4, m4, a5, n5, m5, a6, n6, m6, q, u, n, a10, n10, m10, a11, n11, m11, a12, n12, m12, ps, va, vb, vc, xs, cs, ls⟩ w = W at hb hx' HD
  have hp := refPutRingN_any a len cap bs a12 n12 m12 ls W (hr.below hb) hx'.r12 hw (by omega)
  go_enter Try.func18, Try.ntmps18
  go_wp2_with fail
  rw [HD.out]
  refine hp.mono ?_
  rintro e w1 ⟨g, k1, c, rfl, o, b1⟩
  go_wp2_with fail
  go_ret
  exact ⟨g, _, c, rfl, o.mono hb.size, ext_trans hb b1⟩
theorem tailN_any (x : Ob) (hk : isK x.k = true) (hw : mayW x.od = true) : TailsN x := by
  have hk' := isK_iff.1 hk
  obtain ⟨i, k, d, a3, n3, m3, a4, n4, m4, a5, n5, m5, a6, n6, m6, q, u, n, a10, n10, m10, a11, n11, m11, a12, n12, m12, ps, va, vb, vc, xs, cs, ls⟩ := x
  dsimp only at hk' hk
  obtain rfl | rfl | rfl | rfl : k = 1 ∨ k = 2 ∨ k = 3 ∨ k = 4 := by omega
  · exact tailN_box i d a3 n3 m3 a4 n4 m4 a5 n5 m5 a6 n6 m6 q u n a10 n10 m10 a11 n11 m11 a12 n12 m12 ps va vb vc xs cs ls ((mayW1 (o := Ob.od ⟨i, 1, d, a3, n3, m3, a4, n4, m4, a5, n5, m5, a6, n6, m6, q, u, n, a10, n10, m10, a11, n11, m11, a12, n12, m12, ps, va, vb, vc, xs, cs, ls⟩) rfl).1 hw)
  · exact tailN_seg i d a3 n3 m3 a4 n4 m4 a5 n5 m5 a6 n6 m6 q u n a10 n10 m10 a11 n11 m11 a12 n12 m12 ps va vb vc xs cs ls ((mayW2 (o := Ob.od ⟨i, 2, d, a3, n3, m3, a4, n4, m4, a5, n5, m5, a6, n6, m6, q, u, n, a10, n10, m10, a11, n11, m11, a12, n12, m12, ps, va, vb, vc, xs, cs, ls⟩) rfl).1 hw)
  · exact tailN_gate i d a3 n3 m3 a4 n4 m4 a5 n5 m5 a6 n6 m6 q u n a10 n10 m10 a11 n11 m11 a12 n12 m12 ps va vb vc xs cs ls ((mayW3 (o := Ob.od ⟨i, 3, d, a3, n3, m3, a4, n4, m4, a5, n5, m5, a6, n6, m6, q, u, n, a10, n10, m10, a11, n11, m11, a12, n12, m12, ps, va, vb, vc, xs, cs, ls⟩) rfl).symm.trans hw)
  · exact tailN_port i d a3 n3 m3 a4 n4 m4 a5 n5 m5 a6 n6 m6 q u n a10 n10 m10 a11 n11 m11 a12 n12 m12 ps va vb vc xs cs ls ((mayW4 (o := Ob.od ⟨i, 4, d, a3, n3, m3, a4, n4, m4, a5, n5, m5, a6, n6, m6, q, u, n, a10, n10, m10, a11, n11, m11, a12, n12, m12, ps, va, vb, vc, xs, cs, ls⟩) rfl).symm.trans hw)

set_option maxHeartbeats 4000000 in
theorem put2N_any (x : Ob) (w : World) (hx : x.In w) : Calls Try.prog 10 #[.agg #[.int .u64 x.i, .int .i64 x.k, .int .u8 x.d, .slice x.a3 x.n3 x.m3, .slice x.a4 x.n4 x.m4, .slice x.a5 x.n5 x.m5, .slice x.a6 x.n6 x.m6, .int .i64 x.q, .int .i64 x.u, .int .i64 x.n, .slice x.a10 x.n10 x.m10, .slice x.a11 x.n11 x.m11, .slice x.a12 x.n12 x.m12]] w fun e w' => ∃ (a : Option Addr) (n c : Nat) (E : Int), e = .returned (.tuple #[.slice a n c, .int .i64 E]) ∧ Below w.heap.size w w' ∧
    ((mayD2 x.od = true ∧ E = 0 ∧ ∃ g, a = some ⟨g, 0, none⟩ ∧ Own 5 w' w.heap.size g n c (encD2 x.od)) ∨ (mayD2 x.od = false ∧ E = 1 ∧ a = none ∧ n = 0 ∧ c = 0)) := by
  have hb := obj_below x w
  have hO := obj_at x w
  have HD : Hid (w.alloc (.cells #[.int .u64 x.i, .int .i64 x.k, .int .u8 x.d, .slice x.a3 x.n3 x.m3, .slice x.a4 x.n4 x.m4, .slice x.a5 x.n5 x.m5, .slice x.a6 x.n6 x.m6, .int .i64 x.q, .int .i64 x.u, .int .i64 x.n, .slice x.a10 x.n10 x.m10, .slice x.a11 x.n11 x.m11, .slice x.a12 x.n12 x.m12] 32) = obj x w) := obj_def x w
  have hx' := hx.below hb
  generalize obj x w = W at hb hx' hO HD
  have hM := may2N_any x W hx'
  have HC : Hid (∀ V, Below W.heap.size W V → (V.cell? ⟨w.heap.size, 0, none⟩ = some (.int .u64 x.i) ∧ V.cell? ⟨w.heap.size, 1, none⟩ = some (.int .i64 x.k) ∧ V.cell? ⟨w.heap.size, 2, none⟩ = some (.int .u8 x.d) ∧ V.cell? ⟨w.heap.size, 3, none⟩ = some (.slice x.a3 x.n3 x.m3) ∧ V.cell? ⟨w.heap.size, 4, none⟩ = some (.slice x.a4 x.n4 x.m4) ∧ V.cell? ⟨w.heap.size, 5, none⟩ = some (.slice x.a5 x.n5 x.m5) ∧ V.cell? ⟨w.heap.size, 6, none⟩ = some (.slice x.a6 x.n6 x.m6) ∧ V.cell? ⟨w.heap.size, 7, none⟩ = some (.int .i64 x.q) ∧ V.cell? ⟨w.heap.size, 8, none⟩ = some (.int .i64 x.u) ∧ V.cell? ⟨w.heap.size, 9, none⟩ = some (.int .i64 x.n) ∧ V.cell? ⟨w.heap.size, 10, none⟩ = some (.slice x.a10 x.n10 x.m10) ∧ V.cell? ⟨w.heap.size, 11, none⟩ = some (.slice x.a11 x.n11 x.m11) ∧ V.cell? ⟨w.heap.size, 12, none⟩ = some (.slice x.a12 x.n12 x.m12)) ∧ Below w.heap.size w V ∧ x.In V) :=
    fun V h => ⟨(hO.below h).cells, ext_trans hb h, hx'.below h⟩
  have hsw := hb.size
  clear hO hb
  cases hm : mayD2 x.od
  · rw [hm] at hM
    clear hm
    go_enter Try.func10, Try.ntmps10
    go_wp2_with fail
    rw [HD.out]
    refine hM.mono ?_
    rintro e w1 ⟨rfl, b1⟩
    obtain ⟨_, b, _⟩ := HC.out _ b1
    go_wp2_with fail
    go_ret2
    exact ⟨none, 0, 0, 1, rfl, b, .inr ⟨by first | rfl | trivial, rfl, rfl, rfl, rfl⟩⟩
  rw [hm] at hM
  obtain ⟨_, hk, hp, hw⟩ := mayD2_iff.1 hm
  have hk' : 1 ≤ x.k ∧ x.k ≤ 4 := isK_iff.1 hk
  have hB := mayQ_V hp
  have hPO := tailN_any x hk hw
  have hn3 : x.n4 + x.n5 + x.n6 ≤ 16 := by have h : x.va.length + x.vb.length + x.vc.length ≤ 16 := mayB_len hB; have := hx.r4.len; have := hx.r5.len; have := hx.r6.len; omega
  obtain ⟨M, hMM⟩ : ∃ M, M = 3 + 2 * (x.n4 + x.n5 + x.n6) := ⟨_, rfl⟩
  have hM35 : M ≤ 35 := by omega
  have HMM : Hid (M = 3 + 2 * (x.n4 + x.n5 + x.n6)) := hMM
  clear hMM
  have wk : IntKind.u8.wrap x.k = x.k := by rw [IntKind.wrap_u8]; omega
  have HK : Hid (1 ≤ x.k ∧ x.k ≤ 4) := hk'
  have HBB0 : Hid (mayV x.va x.vb x.vc = true) := hB
  clear hm hk hp hw hk' hB hn3
  go_enter Try.func10, Try.ntmps10
  go_wp2_with fail
  rw [HD.out]
  refine hM.mono ?_
  rintro e W3 ⟨rfl, bW3⟩
  clear hM
  go_wp2_with fail
  refine wp_region_noPanic ?_
  refine wp_region_held_drew (S := fun V => Below W3.heap.size W3 V) (by kernel_rfl) (ext_drew _) fun hS => ?_
  obtain ⟨Wd, hWd⟩ : ∃ y, y = W3.drew := ⟨_, rfl⟩
  rw [← hWd]
  rw [← hWd] at hS
  have HBZ : Below W3.heap.size W3 Wd := hWd ▸ ext_drew _
  clear hWd
  refine take_to (i := 0) (v := ?_) 7 rfl rfl (by kernel_rfl) (by kernel_rfl) (by kernel_rfl) (fun _ _ _ h => h) (Or.inl ⟨by rfl, ?_⟩) hS ?_
  rotate_left
  · intro V hV
    obtain ⟨⟨c0, c1, c2, c3, c4, c5, c6, c7, c8, c9, c10, c11, c12⟩, _, _⟩ := HC.out V (ext_trans bW3 hV)
    go_simp
    try with_reducible rfl
  simp only [List.setIfInBounds_toArray, List.set_cons_zero, List.set_cons_succ]
  refine take_to (i := 1) (v := ?_) 8 rfl rfl (by kernel_rfl) (by kernel_rfl) (by kernel_rfl) (fun _ _ _ h => h) (Or.inl ⟨by rfl, ?_⟩) hS ?_
  rotate_left
  · intro V hV
    obtain ⟨⟨c0, c1, c2, c3, c4, c5, c6, c7, c8, c9, c10, c11, c12⟩, _, _⟩ := HC.out V (ext_trans bW3 hV)
    go_simp
    try with_reducible rfl
  simp only [List.setIfInBounds_toArray, List.set_cons_zero, List.set_cons_succ]
  refine take_to (i := 2) (v := ?_) 9 rfl rfl (by kernel_rfl) (by kernel_rfl) (by kernel_rfl) (fun _ _ _ h => h) (Or.inl ⟨by rfl, ?_⟩) hS ?_
  rotate_left
  · intro V hV
    obtain ⟨⟨c0, c1, c2, c3, c4, c5, c6, c7, c8, c9, c10, c11, c12⟩, _, _⟩ := HC.out V (ext_trans bW3 hV)
    go_simp
    try with_reducible rfl
  simp only [List.setIfInBounds_toArray, List.set_cons_zero, List.set_cons_succ]
  refine take_to (i := 4) (v := ?_) 11 rfl rfl (by kernel_rfl) (by kernel_rfl) (by kernel_rfl) (fun _ _ _ h => h) (Or.inl ⟨by rfl, ?_⟩) hS ?_
  rotate_left
  · intro V hV
    obtain ⟨⟨c0, c1, c2, c3, c4, c5, c6, c7, c8, c9, c10, c11, c12⟩, _, _⟩ := HC.out V (ext_trans bW3 hV)
    go_simp
    try with_reducible rfl
  simp only [List.setIfInBounds_toArray, List.set_cons_zero, List.set_cons_succ]
  refine take_to (i := 5) (v := ?_) 12 rfl rfl (by kernel_rfl) (by kernel_rfl) (by kernel_rfl) (fun _ _ _ h => h) (Or.inl ⟨by rfl, ?_⟩) hS ?_
  rotate_left
  · intro V hV
    obtain ⟨⟨c0, c1, c2, c3, c4, c5, c6, c7, c8, c9, c10, c11, c12⟩, _, _⟩ := HC.out V (ext_trans bW3 hV)
    go_simp
    try with_reducible rfl
  simp only [List.setIfInBounds_toArray, List.set_cons_zero, List.set_cons_succ]
  refine take_to (i := 7) (v := ?_) 14 rfl rfl (by kernel_rfl) (by kernel_rfl) (by kernel_rfl) (fun _ _ _ h => h) (Or.inl ⟨by rfl, ?_⟩) hS ?_
  rotate_left
  · intro V hV
    obtain ⟨⟨c0, c1, c2, c3, c4, c5, c6, c7, c8, c9, c10, c11, c12⟩, _, _⟩ := HC.out V (ext_trans bW3 hV)
    go_simp
    try with_reducible rfl
  simp only [List.setIfInBounds_toArray, List.set_cons_zero, List.set_cons_succ]
  refine take_to (i := 8) (v := ?_) 15 rfl rfl (by kernel_rfl) (by kernel_rfl) (by kernel_rfl) (fun _ _ _ h => h) (Or.inl ⟨by rfl, ?_⟩) hS ?_
  rotate_left
  · intro V hV
    obtain ⟨⟨c0, c1, c2, c3, c4, c5, c6, c7, c8, c9, c10, c11, c12⟩, _, _⟩ := HC.out V (ext_trans bW3 hV)
    go_simp
    try with_reducible rfl
  simp only [List.setIfInBounds_toArray, List.set_cons_zero, List.set_cons_succ]
  refine take_to (i := 10) (v := ?_) 17 rfl rfl (by kernel_rfl) (by kernel_rfl) (by kernel_rfl) (fun _ _ _ h => h) (Or.inl ⟨by rfl, ?_⟩) hS ?_
  rotate_left
  · intro V hV
    obtain ⟨⟨c0, c1, c2, c3, c4, c5, c6, c7, c8, c9, c10, c11, c12⟩, _, _⟩ := HC.out V (ext_trans bW3 hV)
    go_simp
    try with_reducible rfl
  simp only [List.setIfInBounds_toArray, List.set_cons_zero, List.set_cons_succ]
  refine wpAnyH_ready (rs := [3]) (by kernel_rfl) (by simp) ?_
  refine AllReadyH.cons rfl (fun K hK => ?_) AllReadyH.nil
  go_simp
  obtain ⟨V1, eV1⟩ : ∃ y, y = Wd.alloc (Obj.cells #[Value.int IntKind.u8 2, Value.int IntKind.u8 x.k] 5) := ⟨_, rfl⟩
  rw [← eV1]
  have stV1 : Below Wd.heap.size Wd V1 := eV1 ▸ below_alloc _ _
  have hB1 := ext_trans HBZ stV1
  have r10 : Row V1 (some ⟨Wd.heap.size, 0, none⟩) 2 2 [2, x.k] := by rw [eV1]; exact row_lit Wd 5 [2, x.k] 2 rfl (by omega) ((Byt.one (x := 2) (by omega)).append (Byt.one (x := x.k) (by have := HK.out; omega)))
  clear eV1
  refine hK.out _ _ hB1 fun hS => ?_
  clear hK K
  have hp1 := refPutN8_is _ _ _ x.i _ V1 r10 (by omega)
  refine wpAnyH_ready (rs := [6]) (by kernel_rfl) (by simp) ?_
  refine AllReadyH.cons rfl (fun K hK => ?_) AllReadyH.nil
  go_simp
  refine hp1.mono ?_
  rintro e W4 ⟨g4, cc4, rfl, o4, b4⟩
  have HBB := ext_trans hB1 b4
  refine hK.out _ _ HBB fun hS => ?_
  clear hK K
  have hB4 := HBB
  clear HBB
  obtain ⟨_, _, hIn4⟩ := HC.out _ (ext_trans bW3 hB4)
  have hp2 := refSput_any _ _ _ _ ⟨x.a4, x.n4, x.m4, x.va, x.a5, x.n5, x.m5, x.vb, x.a6, x.n6, x.m6, x.vc⟩ M HMM.out W4 o4.row ⟨hIn4.r4, hIn4.r5, hIn4.r6⟩ HBB0.out (by omega)
  dsimp only at hp2
  rw [show 2 + 8 = 10 from rfl] at hp2
  refine wpAnyH_ready (rs := [9]) (by kernel_rfl) (by simp) ?_
  refine AllReadyH.cons rfl (fun K hK => ?_) AllReadyH.nil
  go_simp
  refine hp2.mono ?_
  rintro e W5 ⟨g5, cc5, rfl, o5, b5⟩
  have HBB := ext_trans hB4 b5
  refine hK.out _ _ HBB fun hS => ?_
  clear hK K
  have hB5 := HBB
  clear HBB
  obtain ⟨_, _, hIn5⟩ := HC.out _ (ext_trans bW3 hB5)
  have hPO' := hPO _ _ _ _ W5 hIn5 o5.row (by omega)
  refine wpAnyH_ready (rs := [11]) (by kernel_rfl) (by simp) ?_
  refine AllReadyH.cons rfl (fun K hK => ?_) AllReadyH.nil
  go_simp
  refine hPO'.mono ?_
  rintro e W6 ⟨g6, n6, cc6, rfl, o6, b6⟩
  have HBB := ext_trans hB5 b6
  refine hK.out _ _ HBB fun hS => ?_
  clear hK K
  refine take_to (i := 12) (v := ?_) 2 rfl rfl (by kernel_rfl) (by kernel_rfl) (by kernel_rfl) (fun _ _ _ h => h) (Or.inl ⟨by rfl, ?_⟩) hS ?_
  rotate_left
  · intro V hV
    obtain ⟨⟨c0, c1, c2, c3, c4, c5, c6, c7, c8, c9, c10, c11, c12⟩, _, _⟩ := HC.out V (ext_trans bW3 hV)
    go_simp
    try with_reducible rfl
  simp only [List.setIfInBounds_toArray, List.set_cons_zero, List.set_cons_succ]
  refine take_to (i := 13) (v := ?_) 3 rfl rfl (by kernel_rfl) (by kernel_rfl) (by kernel_rfl) (fun _ _ _ h => h) (Or.inl ⟨by rfl, ?_⟩) hS ?_
  rotate_left
  · intro V hV
    obtain ⟨⟨c0, c1, c2, c3, c4, c5, c6, c7, c8, c9, c10, c11, c12⟩, _, _⟩ := HC.out V (ext_trans bW3 hV)
    go_simp
    try with_reducible rfl
  simp only [List.setIfInBounds_toArray, List.set_cons_zero, List.set_cons_succ]
  refine wpAnyH_done (by kernel_rfl) ?_ _
  refine NoPanic.normal ?_
  obtain ⟨_, bw, _⟩ := HC.out _ (ext_trans bW3 HBB)
  have hz : w.heap.size ≤ W5.heap.size := by have := bW3.size; have := hB5.size; omega
  go_wp2_with fail
  go_ret2
  refine ⟨_, _, _, _, rfl, bw, .inl ⟨by first | rfl | trivial, rfl, g6, rfl, ?_⟩⟩
  have o7 := o6.mono hz
  rw [List.append_assoc, List.append_assoc] at o7
  exact o7
end Go.Proofs.Ytkmpmljohjelhaa
