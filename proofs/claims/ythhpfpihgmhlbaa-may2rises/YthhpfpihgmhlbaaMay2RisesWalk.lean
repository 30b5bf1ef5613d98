/- May2Rises walked: it answers true, and turns nothing that was there. -/
import Derived.Test.YthhpfpihgmhlbaaM2Laws
namespace Go.Proofs.Ythhpfpihgmhlbaa
open Go.RowKit

theorem rises_turns {x y z : Sv} (h1 : TurnsP x y) (h2 : OwnsP x y) (h : TurnsP y z) : TurnsP x z := ⟨fun u hu => h.1 u (h1.1 u hu), fun u hu => (h.2 u hu).elim (h1.2 u) fun k => .inr (h2 u k)⟩
theorem rises_sees {x y z : Sv} (h1 : TurnsP x y) (h2 : OwnsP x y) (hx : MayP x.xs x.ys x.zs) (hy : MayP y.xs y.ys y.zs) (hl : x.zs.length = y.zs.length) (h : SeesP x z) : SeesP y z := by
  have h3 := srt_all hy.1.2.2 hx.1.2.2 h2 hl.symm
  exact ⟨fun u hu => (h.1 u hu).elim (fun k => .inl (h1.1 u k)) fun k => .inr (h3 u k), fun u hu => (h1.2 u hu).elim (h.2 u) fun k => absurd (h3 u k) (hy.2.1.2.2 u hu)⟩
theorem turns_self (x : Sv) : TurnsP x x := ⟨fun _ h => h, fun _ h => .inl h⟩
theorem mrises_sv (w w1 : World) (x y z : Sv) (W0 : World) (HC : ∀ W, Below W0.heap.size W0 W → W.heap[w.heap.size]? = some (.cells #[.slice x.a1 x.n1 x.c1, .slice x.a2 x.n2 x.c2, .slice x.a3 x.n3 x.c3] 24 (0, 0)) ∧ W.heap[w.heap.size + 1]? = some (.cells #[.slice y.a1 y.n1 y.c1, .slice y.a2 y.n2 y.c2, .slice y.a3 y.n3 y.c3] 24 (0, 0)) ∧ W.heap[w.heap.size + 1 + 1]? = some (.cells #[.slice z.a1 z.n1 z.c1, .slice z.a2 z.n2 z.c2, .slice z.a3 z.n3 z.c3] 24 (0, 0)) ∧ Below w.heap.size w W) (hb : Below W0.heap.size W0 w1) :
    ∀ W, Below (w1.setCell ⟨w.heap.size + 1 + 1, 2, none⟩ (.slice none 0 0)).heap.size (w1.setCell ⟨w.heap.size + 1 + 1, 2, none⟩ (.slice none 0 0)) W → (W.cell? ⟨w.heap.size, 0, none⟩ = some (.slice x.a1 x.n1 x.c1) ∧ W.cell? ⟨w.heap.size, 1, none⟩ = some (.slice x.a2 x.n2 x.c2) ∧ W.cell? ⟨w.heap.size, 2, none⟩ = some (.slice x.a3 x.n3 x.c3) ∧ W.cell? ⟨w.heap.size + 1, 0, none⟩ = some (.slice y.a1 y.n1 y.c1) ∧ W.cell? ⟨w.heap.size + 1, 1, none⟩ = some (.slice y.a2 y.n2 y.c2) ∧ W.cell? ⟨w.heap.size + 1, 2, none⟩ = some (.slice y.a3 y.n3 y.c3) ∧ W.cell? ⟨w.heap.size + 1 + 1, 0, none⟩ = some (.slice z.a1 z.n1 z.c1) ∧ W.cell? ⟨w.heap.size + 1 + 1, 1, none⟩ = some (.slice z.a2 z.n2 z.c2) ∧ W.cell? ⟨w.heap.size + 1 + 1, 2, none⟩ = some (.slice none 0 0)) ∧ Below w.heap.size w W := fun W h => by
  obtain ⟨a0, a1, a2, hbw⟩ := HC w1 hb
  have b0 := (heap_else (g := w.heap.size + 1 + 1) (v := .slice none 0 0) a0 (by omega))
  have d0 := (h.block _ (Array.getElem?_eq_some_iff.1 b0).1).trans b0
  have b1 := (heap_else (g := w.heap.size + 1 + 1) (v := .slice none 0 0) a1 (by omega))
  have d1 := (h.block _ (Array.getElem?_eq_some_iff.1 b1).1).trans b1
  have b2 := (heap_opened a2)
  have d2 := (h.block _ (Array.getElem?_eq_some_iff.1 b2).1).trans b2
  have hv : Below w.heap.size w (w1.setCell ⟨w.heap.size + 1 + 1, 2, none⟩ (.slice none 0 0)) := (hbw.setCell (by first | exact Nat.le_refl _ | (simp <;> omega)) _)
  exact ⟨⟨sv_cell_of_heap d0 0 _ rfl, sv_cell_of_heap d0 1 _ rfl, sv_cell_of_heap d0 2 _ rfl, sv_cell_of_heap d1 0 _ rfl, sv_cell_of_heap d1 1 _ rfl, sv_cell_of_heap d1 2 _ rfl, sv_cell_of_heap d2 0 _ rfl, sv_cell_of_heap d2 1 _ rfl, sv_cell_of_heap d2 2 _ rfl⟩, ext_trans hv h⟩

set_option maxHeartbeats 8000000 in
theorem may2Rises_walk (x y z : Sv) (w : World) (hx : x.In w) (hy : y.In w) (hz : z.In w) :
    Calls Try.prog 6 #[.agg #[.slice x.a1 x.n1 x.c1, .slice x.a2 x.n2 x.c2, .slice x.a3 x.n3 x.c3], .agg #[.slice y.a1 y.n1 y.c1, .slice y.a2 y.n2 y.c2, .slice y.a3 y.n3 y.c3], .agg #[.slice z.a1 z.n1 z.c1, .slice z.a2 z.n2 z.c2, .slice z.a3 z.n3 z.c3]] w fun e w' => e = .returned (.bool true) ∧ Below w.heap.size w w' := by
  have HC : Hid _ := heap_boxes3 w x y z
  go_enter Try.func6, Try.ntmps6
  go_wp2_with fail
  refine (begun10_true _).mono ?_
  rintro e w1 ⟨rfl, hb1⟩
  have HV : Hid _ := mrises_sv w w1 x y z _ HC.out hb1
  obtain ⟨a0, a1, a2, _⟩ := HC.out _ hb1
  clear hb1 HC
  have f2 : w1.frozen? ⟨w.heap.size + 1 + 1, 2, none⟩ = false := frozen_of_row w1 _ 2 _ 24 a2
  have c00 := sv_cell_of_heap a0 0 _ rfl
  have c01 := sv_cell_of_heap a0 1 _ rfl
  have c02 := sv_cell_of_heap a0 2 _ rfl
  have c10 := sv_cell_of_heap a1 0 _ rfl
  have c11 := sv_cell_of_heap a1 1 _ rfl
  have c12 := sv_cell_of_heap a1 2 _ rfl
  have c20 := sv_cell_of_heap a2 0 _ rfl
  have c21 := sv_cell_of_heap a2 1 _ rfl
  have c22 := sv_cell_of_heap a2 2 _ rfl
  clear a0 a1 a2
  go_wp2_with fail
  clear c00 c01 c02 c10 c11 c12 c20 c21 c22 f2
  obtain ⟨V, hV⟩ : ∃ V, V = (w1.setCell ⟨w.heap.size + 1 + 1, 2, none⟩ (.slice none 0 0)) := ⟨_, rfl⟩
  rw [← hV] at HV ⊢
  clear hV
  have hu0 := Below.refl V.heap.size V
  obtain ⟨_, bw⟩ := HV.out _ hu0
  obtain ⟨m0, hm0⟩ : ∃ q, mayV x.xs x.ys x.zs = q := ⟨_, rfl⟩
  have HM0 : Hid (mayV x.xs x.ys x.zs = m0) := hm0
  clear hm0
  refine (refMay_is m0 (hx.below bw) HM0).mono ?_
  rintro e u1 ⟨rfl, hu1⟩
  replace hu1 := ext_trans hu0 hu1
  clear hu0 bw
  obtain ⟨⟨c00, c01, c02, c10, c11, c12, c20, c21, c22⟩, bw⟩ := HV.out _ hu1
  cases m0
  · go_wp2_with fail
    go_ret
    exact ⟨rfl, bw⟩
  have HP0 : Hid (MayP x.xs x.ys x.zs) := (mayV_iff _ _ _).1 HM0.out
  have hl0 : x.n1 + x.n2 + x.n3 ≤ 16 := HP0.out.len (hx.below bw)
  clear HM0
  go_wp2_with fail
  clear c00 c01 c02 c10 c11 c12 c20 c21 c22 bw
  obtain ⟨_, bw⟩ := HV.out _ hu1
  obtain ⟨m1, hm1⟩ : ∃ q, mayV y.xs y.ys y.zs = q := ⟨_, rfl⟩
  have HM1 : Hid (mayV y.xs y.ys y.zs = m1) := hm1
  clear hm1
  refine (refMay_is m1 (hy.below bw) HM1).mono ?_
  rintro e u2 ⟨rfl, hu2⟩
  replace hu2 := ext_trans hu1 hu2
  clear hu1 bw
  obtain ⟨⟨c00, c01, c02, c10, c11, c12, c20, c21, c22⟩, bw⟩ := HV.out _ hu2
  cases m1
  · go_wp2_with fail
    go_ret
    exact ⟨rfl, bw⟩
  have HP1 : Hid (MayP y.xs y.ys y.zs) := (mayV_iff _ _ _).1 HM1.out
  have hl1 : y.n1 + y.n2 + y.n3 ≤ 16 := HP1.out.len (hy.below bw)
  clear HM1
  go_wp2_with fail
  clear c00 c01 c02 c10 c11 c12 c20 c21 c22 bw
  obtain ⟨_, bw⟩ := HV.out _ hu2
  obtain ⟨m2, hm2⟩ : ∃ q, mayV z.opened.xs z.opened.ys z.opened.zs = q := ⟨_, rfl⟩
  have HM2 : Hid (mayV z.opened.xs z.opened.ys z.opened.zs = m2) := hm2
  clear hm2
  refine (refMay_is m2 (hz.below bw).opened HM2).mono ?_
  rintro e u3 ⟨rfl, hu3⟩
  replace hu3 := ext_trans hu2 hu3
  clear hu2 bw
  obtain ⟨⟨c00, c01, c02, c10, c11, c12, c20, c21, c22⟩, bw⟩ := HV.out _ hu3
  cases m2
  · go_wp2_with fail
    go_ret
    exact ⟨rfl, bw⟩
  have HP2 : Hid (MayP z.opened.xs z.opened.ys z.opened.zs) := (mayV_iff _ _ _).1 HM2.out
  have hl2 : z.n1 + z.n2 ≤ 16 := HP2.out.len (hz.below bw).opened
  clear HM2
  go_wp2_with fail
  clear c00 c01 c02 c10 c11 c12 c20 c21 c22 bw
  obtain ⟨q1, Hq1⟩ := bool_for (TurnsP x y)
  obtain ⟨s1, Hs1⟩ := bool_for (OwnsP x y)
  obtain ⟨_, bw⟩ := HV.out _ hu3
  refine (rises2_is q1 s1 Hq1 Hs1 _ (Sm.of (hx.below bw) HP0.out) (Sm.of (hy.below bw) HP1.out)).mono ?_
  rintro e u4 ⟨rfl, hu4⟩
  replace hu4 := ext_trans hu3 hu4
  clear hu3 bw
  obtain ⟨⟨c00, c01, c02, c10, c11, c12, c20, c21, c22⟩, bw⟩ := HV.out _ hu4
  cases s1
  · rw [show why2 false q1 = 5 from rfl]
    go_wp2_with fail
    go_ret
    exact ⟨rfl, bw⟩
  cases q1
  · rw [show why2 true false = 6 from rfl]
    go_wp2_with fail
    go_ret
    exact ⟨rfl, bw⟩
  rw [show why2 true true = 0 from rfl]
  have HT : Hid (TurnsP x y) := Hq1.out.1 (by trivial)
  have HO : Hid (OwnsP x y) := Hs1.out.1 (by trivial)
  clear Hq1 Hs1
  obtain ⟨kp, hkp⟩ : ∃ q : Bool, ((x.n3 : Int) == (y.n3 : Int)) = q := ⟨_, rfl⟩
  have HK : Hid (kp = true → x.zs.length = y.zs.length) := fun h => by
    subst h
    have : x.n3 = y.n3 := by simp at hkp; omega
    rw [hx.r3.len, hy.r3.len, this]
  obtain ⟨qso, Hqso⟩ := bool_for (TurnsP y z.opened)
  obtain ⟨qto, Hqto⟩ := bool_for (TurnsP x z.opened)
  obtain ⟨qxo, Hqxo⟩ := bool_for (SeesP x z.opened)
  obtain ⟨qyo, Hqyo⟩ := bool_for (SeesP y z.opened)
  have I1 : Hid (qso = true → qto = true) := fun h => Hqto.out.2 (rises_turns HT.out HO.out (Hqso.out.1 h))
  have I2 : Hid (kp = true → qxo = true → qyo = true) := fun h k => Hqyo.out.2 (rises_sees HT.out HO.out HP0.out HP1.out (HK.out h) (Hqxo.out.1 k))
  have b0 : x.n3 ≤ 16 := by omega
  have b1 : y.n3 ≤ 16 := by omega
  go_wp2_with fail
  clear b0 b1 hkp c00 c01 c02 c10 c11 c12 c20 c21 c22 bw
  obtain ⟨_, bw⟩ := HV.out _ hu4
  refine (turns2_is qso Hqso _ (Sm.of (hy.below bw) HP1.out) (Sm.of (hz.below bw).opened HP2.out)).mono ?_
  rintro e u5 ⟨rfl, hu5⟩
  replace hu5 := ext_trans hu4 hu5
  clear hu4 bw
  obtain ⟨⟨c00, c01, c02, c10, c11, c12, c20, c21, c22⟩, bw⟩ := HV.out _ hu5
  cases qso
  · cases kp
    · go_wp2_with fail
      clear c00 c01 c02 c10 c11 c12 c20 c21 c22 bw
      obtain ⟨_, bw⟩ := HV.out _ hu5
      refine (rises2_is true true ⟨fun _ => turns_self y, fun _ => rfl⟩ ⟨fun _ => fun _ h => h, fun _ => rfl⟩ _ (Sm.of (hy.below bw) HP1.out) (Sm.of (hy.below bw) HP1.out)).mono ?_
      rintro e u6 ⟨rfl, hu6⟩
      replace hu6 := ext_trans hu5 hu6
      clear hu5 bw
      obtain ⟨⟨c00, c01, c02, c10, c11, c12, c20, c21, c22⟩, bw⟩ := HV.out _ hu6
      rw [show why2 true true = 0 from rfl]
      go_wp2_with fail
      go_ret
      exact ⟨rfl, bw⟩
    · go_wp2_with fail
      clear c00 c01 c02 c10 c11 c12 c20 c21 c22 bw
      obtain ⟨_, bw⟩ := HV.out _ hu5
      refine (sees2_is qxo Hqxo _ (Sm.of (hx.below bw) HP0.out) (Sm.of (hz.below bw).opened HP2.out)).mono ?_
      rintro e u6 ⟨rfl, hu6⟩
      replace hu6 := ext_trans hu5 hu6
      clear hu5 bw
      obtain ⟨⟨c00, c01, c02, c10, c11, c12, c20, c21, c22⟩, bw⟩ := HV.out _ hu6
      cases qxo
      · go_wp2_with fail
        clear c00 c01 c02 c10 c11 c12 c20 c21 c22 bw
        obtain ⟨_, bw⟩ := HV.out _ hu6
        refine (rises2_is true true ⟨fun _ => turns_self y, fun _ => rfl⟩ ⟨fun _ => fun _ h => h, fun _ => rfl⟩ _ (Sm.of (hy.below bw) HP1.out) (Sm.of (hy.below bw) HP1.out)).mono ?_
        rintro e u7 ⟨rfl, hu7⟩
        replace hu7 := ext_trans hu6 hu7
        clear hu6 bw
        obtain ⟨⟨c00, c01, c02, c10, c11, c12, c20, c21, c22⟩, bw⟩ := HV.out _ hu7
        rw [show why2 true true = 0 from rfl]
        go_wp2_with fail
        go_ret
        exact ⟨rfl, bw⟩
      · have e2 : qyo = true := I2.out (by trivial) (by trivial)
        subst e2
        go_wp2_with fail
        clear c00 c01 c02 c10 c11 c12 c20 c21 c22 bw
        obtain ⟨_, bw⟩ := HV.out _ hu6
        refine (sees2_is true (show Hid (true = true ↔ SeesP y z.opened) from ⟨fun _ => Hqyo.out.1 (by trivial), fun _ => rfl⟩) _ (Sm.of (hy.below bw) HP1.out) (Sm.of (hz.below bw).opened HP2.out)).mono ?_
        rintro e u7 ⟨rfl, hu7⟩
        replace hu7 := ext_trans hu6 hu7
        clear hu6 bw
        obtain ⟨⟨c00, c01, c02, c10, c11, c12, c20, c21, c22⟩, bw⟩ := HV.out _ hu7
        go_wp2_with fail
        clear c00 c01 c02 c10 c11 c12 c20 c21 c22 bw
        obtain ⟨_, bw⟩ := HV.out _ hu7
        refine (rises2_is true true ⟨fun _ => turns_self y, fun _ => rfl⟩ ⟨fun _ => fun _ h => h, fun _ => rfl⟩ _ (Sm.of (hy.below bw) HP1.out) (Sm.of (hy.below bw) HP1.out)).mono ?_
        rintro e u8 ⟨rfl, hu8⟩
        replace hu8 := ext_trans hu7 hu8
        clear hu7 bw
        obtain ⟨⟨c00, c01, c02, c10, c11, c12, c20, c21, c22⟩, bw⟩ := HV.out _ hu8
        rw [show why2 true true = 0 from rfl]
        go_wp2_with fail
        go_ret
        exact ⟨rfl, bw⟩
  · have e1 : qto = true := I1.out (by trivial)
    subst e1
    go_wp2_with fail
    clear c00 c01 c02 c10 c11 c12 c20 c21 c22 bw
    obtain ⟨_, bw⟩ := HV.out _ hu5
    refine (turns2_is true (show Hid (true = true ↔ TurnsP x z.opened) from ⟨fun _ => Hqto.out.1 (by trivial), fun _ => rfl⟩) _ (Sm.of (hx.below bw) HP0.out) (Sm.of (hz.below bw).opened HP2.out)).mono ?_
    rintro e u6 ⟨rfl, hu6⟩
    replace hu6 := ext_trans hu5 hu6
    clear hu5 bw
    obtain ⟨⟨c00, c01, c02, c10, c11, c12, c20, c21, c22⟩, bw⟩ := HV.out _ hu6
    cases kp
    · go_wp2_with fail
      clear c00 c01 c02 c10 c11 c12 c20 c21 c22 bw
      obtain ⟨_, bw⟩ := HV.out _ hu6
      refine (rises2_is true true ⟨fun _ => turns_self y, fun _ => rfl⟩ ⟨fun _ => fun _ h => h, fun _ => rfl⟩ _ (Sm.of (hy.below bw) HP1.out) (Sm.of (hy.below bw) HP1.out)).mono ?_
      rintro e u7 ⟨rfl, hu7⟩
      replace hu7 := ext_trans hu6 hu7
      clear hu6 bw
      obtain ⟨⟨c00, c01, c02, c10, c11, c12, c20, c21, c22⟩, bw⟩ := HV.out _ hu7
      rw [show why2 true true = 0 from rfl]
      go_wp2_with fail
      go_ret
      exact ⟨rfl, bw⟩
    · go_wp2_with fail
      clear c00 c01 c02 c10 c11 c12 c20 c21 c22 bw
      obtain ⟨_, bw⟩ := HV.out _ hu6
      refine (sees2_is qxo Hqxo _ (Sm.of (hx.below bw) HP0.out) (Sm.of (hz.below bw).opened HP2.out)).mono ?_
      rintro e u7 ⟨rfl, hu7⟩
      replace hu7 := ext_trans hu6 hu7
      clear hu6 bw
      obtain ⟨⟨c00, c01, c02, c10, c11, c12, c20, c21, c22⟩, bw⟩ := HV.out _ hu7
      cases qxo
      · go_wp2_with fail
        clear c00 c01 c02 c10 c11 c12 c20 c21 c22 bw
        obtain ⟨_, bw⟩ := HV.out _ hu7
        refine (rises2_is true true ⟨fun _ => turns_self y, fun _ => rfl⟩ ⟨fun _ => fun _ h => h, fun _ => rfl⟩ _ (Sm.of (hy.below bw) HP1.out) (Sm.of (hy.below bw) HP1.out)).mono ?_
        rintro e u8 ⟨rfl, hu8⟩
        replace hu8 := ext_trans hu7 hu8
        clear hu7 bw
        obtain ⟨⟨c00, c01, c02, c10, c11, c12, c20, c21, c22⟩, bw⟩ := HV.out _ hu8
        rw [show why2 true true = 0 from rfl]
        go_wp2_with fail
        go_ret
        exact ⟨rfl, bw⟩
      · have e2 : qyo = true := I2.out (by trivial) (by trivial)
        subst e2
        go_wp2_with fail
        clear c00 c01 c02 c10 c11 c12 c20 c21 c22 bw
        obtain ⟨_, bw⟩ := HV.out _ hu7
        refine (sees2_is true (show Hid (true = true ↔ SeesP y z.opened) from ⟨fun _ => Hqyo.out.1 (by trivial), fun _ => rfl⟩) _ (Sm.of (hy.below bw) HP1.out) (Sm.of (hz.below bw).opened HP2.out)).mono ?_
        rintro e u8 ⟨rfl, hu8⟩
        replace hu8 := ext_trans hu7 hu8
        clear hu7 bw
        obtain ⟨⟨c00, c01, c02, c10, c11, c12, c20, c21, c22⟩, bw⟩ := HV.out _ hu8
        go_wp2_with fail
        clear c00 c01 c02 c10 c11 c12 c20 c21 c22 bw
        obtain ⟨_, bw⟩ := HV.out _ hu8
        refine (rises2_is true true ⟨fun _ => turns_self y, fun _ => rfl⟩ ⟨fun _ => fun _ h => h, fun _ => rfl⟩ _ (Sm.of (hy.below bw) HP1.out) (Sm.of (hy.below bw) HP1.out)).mono ?_
        rintro e u9 ⟨rfl, hu9⟩
        replace hu9 := ext_trans hu8 hu9
        clear hu8 bw
        obtain ⟨⟨c00, c01, c02, c10, c11, c12, c20, c21, c22⟩, bw⟩ := HV.out _ hu9
        rw [show why2 true true = 0 from rfl]
        go_wp2_with fail
        go_ret
        exact ⟨rfl, bw⟩
end Go.Proofs.Ythhpfpihgmhlbaa
