/- SetsOrder walked: it answers true, and turns nothing that was there. -/
import Derived.Test.YteageheimghdiaaSvLaws
namespace Go.Proofs.Yteageheimghdiaa
open Go.RowKit

/-- What flows, of labels that may be with an empty third set. -/
theorem fl_iff {x y : Sv} (hx : MayP x.xs x.ys x.zs) (hy : MayP y.xs y.ys y.zs) : x.flows y = true ↔ (∀ u, u ∈ x.xs → u ∈ y.xs) ∧ ∀ u, u ∈ y.ys → u ∈ x.ys := Sv.flows_iff hx.1.1 hx.1.2.1 hy.1.1 hy.1.2.1
/-- Two lists that rise. -/
def MayJ (A B : List Int) : Prop := Srt A ∧ Srt B
theorem order_sv (w w1 : World) (x y z : Sv) (W0 : World) (HC : ∀ W, Below W0.heap.size W0 W → W.heap[w.heap.size]? = some (.cells #[.slice x.a1 x.n1 x.c1, .slice x.a2 x.n2 x.c2, .slice x.a3 x.n3 x.c3] 24 (0, 0)) ∧ W.heap[w.heap.size + 1]? = some (.cells #[.slice y.a1 y.n1 y.c1, .slice y.a2 y.n2 y.c2, .slice y.a3 y.n3 y.c3] 24 (0, 0)) ∧ W.heap[w.heap.size + 1 + 1]? = some (.cells #[.slice z.a1 z.n1 z.c1, .slice z.a2 z.n2 z.c2, .slice z.a3 z.n3 z.c3] 24 (0, 0)) ∧ Below w.heap.size w W) (hb : Below W0.heap.size W0 w1) :
    ∀ W, Below (((w1.setCell ⟨w.heap.size, 2, none⟩ (.slice none 0 0)).setCell ⟨w.heap.size + 1, 2, none⟩ (.slice none 0 0)).setCell ⟨w.heap.size + 1 + 1, 2, none⟩ (.slice none 0 0)).heap.size (((w1.setCell ⟨w.heap.size, 2, none⟩ (.slice none 0 0)).setCell ⟨w.heap.size + 1, 2, none⟩ (.slice none 0 0)).setCell ⟨w.heap.size + 1 + 1, 2, none⟩ (.slice none 0 0)) W → (W.cell? ⟨w.heap.size, 0, none⟩ = some (.slice x.a1 x.n1 x.c1) ∧ W.cell? ⟨w.heap.size, 1, none⟩ = some (.slice x.a2 x.n2 x.c2) ∧ W.cell? ⟨w.heap.size, 2, none⟩ = some (.slice none 0 0) ∧ W.cell? ⟨w.heap.size + 1, 0, none⟩ = some (.slice y.a1 y.n1 y.c1) ∧ W.cell? ⟨w.heap.size + 1, 1, none⟩ = some (.slice y.a2 y.n2 y.c2) ∧ W.cell? ⟨w.heap.size + 1, 2, none⟩ = some (.slice none 0 0) ∧ W.cell? ⟨w.heap.size + 1 + 1, 0, none⟩ = some (.slice z.a1 z.n1 z.c1) ∧ W.cell? ⟨w.heap.size + 1 + 1, 1, none⟩ = some (.slice z.a2 z.n2 z.c2) ∧ W.cell? ⟨w.heap.size + 1 + 1, 2, none⟩ = some (.slice none 0 0)) ∧ Below w.heap.size w W := fun W h => by
  obtain ⟨a0, a1, a2, hbw⟩ := HC w1 hb
  have b0 := heap_else (g := w.heap.size + 1 + 1) (v := .slice none 0 0) (heap_else (g := w.heap.size + 1) (v := .slice none 0 0) (heap_opened a0) (by omega)) (by omega)
  have b1 := heap_else (g := w.heap.size + 1 + 1) (v := .slice none 0 0) (heap_opened (heap_else (g := w.heap.size) (v := .slice none 0 0) a1 (by omega))) (by omega)
  have b2 := heap_opened (heap_else (g := w.heap.size + 1) (v := .slice none 0 0) (heap_else (g := w.heap.size) (v := .slice none 0 0) a2 (by omega)) (by omega))
  have d0 := (h.block _ (Array.getElem?_eq_some_iff.1 b0).1).trans b0
  have d1 := (h.block _ (Array.getElem?_eq_some_iff.1 b1).1).trans b1
  have d2 := (h.block _ (Array.getElem?_eq_some_iff.1 b2).1).trans b2
  have hv : Below w.heap.size w (((w1.setCell ⟨w.heap.size, 2, none⟩ (.slice none 0 0)).setCell ⟨w.heap.size + 1, 2, none⟩ (.slice none 0 0)).setCell ⟨w.heap.size + 1 + 1, 2, none⟩ (.slice none 0 0)) := ((hbw.setCell (Nat.le_refl _) _).setCell (by simp <;> omega) _).setCell (by simp <;> omega) _
  exact ⟨⟨cell_of_heap d0 0 _ rfl, cell_of_heap d0 1 _ rfl, cell_of_heap d0 2 _ rfl, cell_of_heap d1 0 _ rfl, cell_of_heap d1 1 _ rfl, cell_of_heap d1 2 _ rfl, cell_of_heap d2 0 _ rfl, cell_of_heap d2 1 _ rfl, cell_of_heap d2 2 _ rfl⟩, ext_trans hv h⟩

set_option maxHeartbeats 4000000 in
theorem setsOrder_walk (x y z : Sv) (w : World) (hx : x.In w) (hy : y.In w) (hz : z.In w) :
    Calls Try.prog 4 #[.agg #[.slice x.a1 x.n1 x.c1, .slice x.a2 x.n2 x.c2, .slice x.a3 x.n3 x.c3], .agg #[.slice y.a1 y.n1 y.c1, .slice y.a2 y.n2 y.c2, .slice y.a3 y.n3 y.c3], .agg #[.slice z.a1 z.n1 z.c1, .slice z.a2 z.n2 z.c2, .slice z.a3 z.n3 z.c3]] w fun e w' => e = .returned (.bool true) ∧ Below w.heap.size w w' := by
  have HC : Hid _ := heap_boxes3 w x y z
  go_enter Try.func4, Try.ntmps4
  go_wp2_with fail
  refine (begun8_true _).mono ?_
  rintro e w1 ⟨rfl, hb1⟩
  have HV : Hid _ := order_sv w w1 x y z _ HC.out hb1
  obtain ⟨a0, a1, a2, _⟩ := HC.out _ hb1
  clear hb1 HC
  have f0 : w1.frozen? ⟨w.heap.size, 2, none⟩ = false := frozen_of_row w1 _ 2 _ 24 a0
  have f1 : w1.frozen? ⟨w.heap.size + 1, 2, none⟩ = false := frozen_of_row w1 _ 2 _ 24 a1
  have f2 : w1.frozen? ⟨w.heap.size + 1 + 1, 2, none⟩ = false := frozen_of_row w1 _ 2 _ 24 a2
  have c00 := cell_of_heap a0 0 _ rfl
  have c01 := cell_of_heap a0 1 _ rfl
  have c02 := cell_of_heap a0 2 _ rfl
  have c10 := cell_of_heap a1 0 _ rfl
  have c11 := cell_of_heap a1 1 _ rfl
  have c12 := cell_of_heap a1 2 _ rfl
  have c20 := cell_of_heap a2 0 _ rfl
  have c21 := cell_of_heap a2 1 _ rfl
  have c22 := cell_of_heap a2 2 _ rfl
  clear a0 a1 a2
  go_wp2_with fail
  clear c00 c01 c02 c10 c11 c12 c20 c21 c22 f0 f1 f2
  obtain ⟨V, hV⟩ : ∃ V, V = (((w1.setCell ⟨w.heap.size, 2, none⟩ (.slice none 0 0)).setCell ⟨w.heap.size + 1, 2, none⟩ (.slice none 0 0)).setCell ⟨w.heap.size + 1 + 1, 2, none⟩ (.slice none 0 0)) := ⟨_, rfl⟩
  rw [← hV] at HV ⊢
  clear hV
  have hu0 := Below.refl V.heap.size V
  obtain ⟨_, bw⟩ := HV.out _ hu0
  obtain ⟨m0, hm0⟩ : ∃ q, mayB x.opened.xs x.opened.ys x.opened.zs = q := ⟨_, rfl⟩
  have HM0 : Hid (mayB x.opened.xs x.opened.ys x.opened.zs = m0) := hm0
  clear hm0
  refine (refMay_is m0 (hx.below bw).opened HM0).mono ?_
  rintro e u1 ⟨rfl, hu1⟩
  replace hu1 := ext_trans hu0 hu1
  clear hu0 bw
  obtain ⟨⟨c00, c01, c02, c10, c11, c12, c20, c21, c22⟩, bw⟩ := HV.out _ hu1
  cases m0
  · go_wp2_with fail
    go_ret
    exact ⟨rfl, bw⟩
  have HP0 : Hid (MayP x.opened.xs x.opened.ys x.opened.zs) := (mayB_iff _ _ _).1 HM0.out
  have hl0 : x.n1 + x.n2 ≤ 16 := HP0.out.len (hx.below bw).opened
  clear HM0
  go_wp2_with fail
  clear c00 c01 c02 c10 c11 c12 c20 c21 c22 bw
  obtain ⟨_, bw⟩ := HV.out _ hu1
  obtain ⟨m1, hm1⟩ : ∃ q, mayB y.opened.xs y.opened.ys y.opened.zs = q := ⟨_, rfl⟩
  have HM1 : Hid (mayB y.opened.xs y.opened.ys y.opened.zs = m1) := hm1
  clear hm1
  refine (refMay_is m1 (hy.below bw).opened HM1).mono ?_
  rintro e u2 ⟨rfl, hu2⟩
  replace hu2 := ext_trans hu1 hu2
  clear hu1 bw
  obtain ⟨⟨c00, c01, c02, c10, c11, c12, c20, c21, c22⟩, bw⟩ := HV.out _ hu2
  cases m1
  · go_wp2_with fail
    go_ret
    exact ⟨rfl, bw⟩
  have HP1 : Hid (MayP y.opened.xs y.opened.ys y.opened.zs) := (mayB_iff _ _ _).1 HM1.out
  have hl1 : y.n1 + y.n2 ≤ 16 := HP1.out.len (hy.below bw).opened
  clear HM1
  go_wp2_with fail
  clear c00 c01 c02 c10 c11 c12 c20 c21 c22 bw
  obtain ⟨_, bw⟩ := HV.out _ hu2
  obtain ⟨m2, hm2⟩ : ∃ q, mayB z.opened.xs z.opened.ys z.opened.zs = q := ⟨_, rfl⟩
  have HM2 : Hid (mayB z.opened.xs z.opened.ys z.opened.zs = m2) := hm2
  clear hm2
  refine (refMay_is m2 (hz.below bw).opened HM2).mono ?_
  rintro e u3 ⟨rfl, hu3⟩
  replace hu3 := ext_trans hu2 hu3
  clear hu2 bw
  obtain ⟨⟨c00, c01, c02, c10, c11, c12, c20, c21, c22⟩, bw⟩ := HV.out _ hu3
  cases m2
  · go_wp2_with fail
    go_ret
    exact ⟨rfl, bw⟩
  have HP2 : Hid (MayP z.opened.xs z.opened.ys z.opened.zs) := (mayB_iff _ _ _).1 HM2.out
  have hl2 : z.n1 + z.n2 ≤ 16 := HP2.out.len (hz.below bw).opened
  clear HM2
  go_wp2_with fail
  clear c00 c01 c02 c10 c11 c12 c20 c21 c22 bw
  obtain ⟨_, bw⟩ := HV.out _ hu3
  refine (joinS_any x.opened y.opened _ (hx.below bw).opened (hy.below bw).opened (by show x.n1 + y.n1 ≤ _; omega) (by show x.n2 + y.n2 ≤ _; omega)).mono ?_
  rintro e w5 ⟨r, rfl, hr, hr', hrl, hb5⟩
  have HR : Hid (r.xs = mrg true true true x.xs y.xs ∧ r.ys = mrg false true false x.ys y.ys ∧ r.zs = []) := hr'
  have hrl1 : r.n1 ≤ x.n1 + y.n1 := hrl.1
  have hrl2 : r.n2 ≤ x.n2 + y.n2 := hrl.2.1
  have hr3 : r.n3 = 0 := hrl.2.2
  clear hr' hrl
  replace hb5 := ext_trans hu3 hb5
  clear hu3 bw
  obtain ⟨⟨c00, c01, c02, c10, c11, c12, c20, c21, c22⟩, _⟩ := HV.out _ hb5
  replace c00 := cell_old (Obj.cells #[.slice r.a1 r.n1 r.c1, .slice r.a2 r.n2 r.c2, .slice r.a3 0 r.c3] 24) c00
  replace c01 := cell_old (Obj.cells #[.slice r.a1 r.n1 r.c1, .slice r.a2 r.n2 r.c2, .slice r.a3 0 r.c3] 24) c01
  replace c02 := cell_old (Obj.cells #[.slice r.a1 r.n1 r.c1, .slice r.a2 r.n2 r.c2, .slice r.a3 0 r.c3] 24) c02
  replace c10 := cell_old (Obj.cells #[.slice r.a1 r.n1 r.c1, .slice r.a2 r.n2 r.c2, .slice r.a3 0 r.c3] 24) c10
  replace c11 := cell_old (Obj.cells #[.slice r.a1 r.n1 r.c1, .slice r.a2 r.n2 r.c2, .slice r.a3 0 r.c3] 24) c11
  replace c12 := cell_old (Obj.cells #[.slice r.a1 r.n1 r.c1, .slice r.a2 r.n2 r.c2, .slice r.a3 0 r.c3] 24) c12
  replace c20 := cell_old (Obj.cells #[.slice r.a1 r.n1 r.c1, .slice r.a2 r.n2 r.c2, .slice r.a3 0 r.c3] 24) c20
  replace c21 := cell_old (Obj.cells #[.slice r.a1 r.n1 r.c1, .slice r.a2 r.n2 r.c2, .slice r.a3 0 r.c3] 24) c21
  replace c22 := cell_old (Obj.cells #[.slice r.a1 r.n1 r.c1, .slice r.a2 r.n2 r.c2, .slice r.a3 0 r.c3] 24) c22
  go_wp2_with fail
  clear c00 c01 c02 c10 c11 c12 c20 c21 c22
  have HW : Hid (∀ W, Below (w5.alloc (Obj.cells #[.slice r.a1 r.n1 r.c1, .slice r.a2 r.n2 r.c2, .slice r.a3 0 r.c3] 24)).heap.size (w5.alloc (Obj.cells #[.slice r.a1 r.n1 r.c1, .slice r.a2 r.n2 r.c2, .slice r.a3 0 r.c3] 24)) W → (W.cell? ⟨w.heap.size, 0, none⟩ = some (.slice x.a1 x.n1 x.c1) ∧ W.cell? ⟨w.heap.size, 1, none⟩ = some (.slice x.a2 x.n2 x.c2) ∧ W.cell? ⟨w.heap.size, 2, none⟩ = some (.slice none 0 0) ∧ W.cell? ⟨w.heap.size + 1, 0, none⟩ = some (.slice y.a1 y.n1 y.c1) ∧ W.cell? ⟨w.heap.size + 1, 1, none⟩ = some (.slice y.a2 y.n2 y.c2) ∧ W.cell? ⟨w.heap.size + 1, 2, none⟩ = some (.slice none 0 0) ∧ W.cell? ⟨w.heap.size + 1 + 1, 0, none⟩ = some (.slice z.a1 z.n1 z.c1) ∧ W.cell? ⟨w.heap.size + 1 + 1, 1, none⟩ = some (.slice z.a2 z.n2 z.c2) ∧ W.cell? ⟨w.heap.size + 1 + 1, 2, none⟩ = some (.slice none 0 0)) ∧ (W.cell? ⟨w5.heap.size, 0, none⟩ = some (.slice r.a1 r.n1 r.c1) ∧ W.cell? ⟨w5.heap.size, 1, none⟩ = some (.slice r.a2 r.n2 r.c2) ∧ W.cell? ⟨w5.heap.size, 2, none⟩ = some (.slice r.a3 0 r.c3)) ∧ r.zero3.In W ∧ Below w.heap.size w W) := fun W h => by
    have hb := ext_trans (below_alloc _ _) h
    obtain ⟨k1, k2⟩ := HV.out W (ext_trans hb5 hb)
    exact ⟨k1, ⟨by rw [h.cell (by simp)]; simp, by rw [h.cell (by simp)]; simp, by rw [h.cell (by simp)]; simp⟩, (hr.below hb).zero3 hr3, k2⟩
  obtain ⟨W5, hW5⟩ : ∃ W, W = w5.alloc (Obj.cells #[.slice r.a1 r.n1 r.c1, .slice r.a2 r.n2 r.c2, .slice r.a3 0 r.c3] 24) := ⟨_, rfl⟩
  rw [← hW5] at HW ⊢
  clear hW5 hb5 hr HV
  have hv0 := Below.refl W5.heap.size W5
  obtain ⟨qab, hqab⟩ : ∃ q, x.opened.flows y.opened = q := ⟨_, rfl⟩
  have Hqab : Hid (x.opened.flows y.opened = qab) := hqab
  clear hqab
  obtain ⟨qbc, hqbc⟩ : ∃ q, y.opened.flows z.opened = q := ⟨_, rfl⟩
  have Hqbc : Hid (y.opened.flows z.opened = qbc) := hqbc
  clear hqbc
  obtain ⟨qac, hqac⟩ : ∃ q, x.opened.flows z.opened = q := ⟨_, rfl⟩
  have Hqac : Hid (x.opened.flows z.opened = qac) := hqac
  clear hqac
  obtain ⟨qba, hqba⟩ : ∃ q, y.opened.flows x.opened = q := ⟨_, rfl⟩
  have Hqba : Hid (y.opened.flows x.opened = qba) := hqba
  clear hqba
  have HPr : Hid (MayJ r.xs r.ys) := by
    unfold MayJ
    rw [HR.out.1, HR.out.2.1]
    exact ⟨mrg_srt _ _ _ _ _ HP0.out.1.1 HP1.out.1.1, mrg_srt _ _ _ _ _ HP0.out.1.2.1 HP1.out.1.2.1⟩
  have FT : Hid (qab = true → qbc = true → qac = true) := fun h1 h2 => by
    subst h1 h2
    have k1 := (fl_iff HP0.out HP1.out).1 Hqab.out
    have k2 := (fl_iff HP1.out HP2.out).1 Hqbc.out
    exact Hqac.out.symm.trans ((fl_iff HP0.out HP2.out).2 ⟨fun u hu => k2.1 u (k1.1 u hu), fun u hu => k1.2 u (k2.2 u hu)⟩)
  have FE : Hid (qab = true → qba = true → x.opened.same y.opened = true) := fun h1 h2 => by
    subst h1 h2
    have k1 := (fl_iff HP0.out HP1.out).1 Hqab.out
    have k2 := (fl_iff HP1.out HP0.out).1 Hqba.out
    exact (Sv.same_iff _ _).2 ⟨srt_unique HP0.out.1.1 HP1.out.1.1 fun u => ⟨k1.1 u, k2.1 u⟩, srt_unique HP0.out.1.2.1 HP1.out.1.2.1 fun u => ⟨k2.2 u, k1.2 u⟩, rfl⟩
  have FAA : Hid (x.opened.flows x.opened = true) := (fl_iff HP0.out HP0.out).2 ⟨fun _ h => h, fun _ h => h⟩
  have FAJ : Hid (x.opened.flows r.zero3 = true) := (Sv.flows_iff HP0.out.1.1 HP0.out.1.2.1 HPr.out.1 HPr.out.2).2 (by
    show (∀ u, u ∈ _ → u ∈ r.xs) ∧ ∀ u, u ∈ r.ys → u ∈ _
    rw [HR.out.1, HR.out.2.1]
    exact ⟨fun u hu => (or_mem HP0.out.1.1 HP1.out.1.1 u).2 (.inl hu), fun u hu => ((and_mem HP0.out.1.2.1 HP1.out.1.2.1 u).1 hu).1⟩)
  have FBJ : Hid (y.opened.flows r.zero3 = true) := (Sv.flows_iff HP1.out.1.1 HP1.out.1.2.1 HPr.out.1 HPr.out.2).2 (by
    show (∀ u, u ∈ _ → u ∈ r.xs) ∧ ∀ u, u ∈ r.ys → u ∈ _
    rw [HR.out.1, HR.out.2.1]
    exact ⟨fun u hu => (or_mem HP0.out.1.1 HP1.out.1.1 u).2 (.inr hu), fun u hu => ((and_mem HP0.out.1.2.1 HP1.out.1.2.1 u).1 hu).2⟩)
  have FJC : Hid (qac = true → qbc = true → r.zero3.flows z.opened = true) := fun h1 h2 => by
    subst h1 h2
    have k1 := (fl_iff HP0.out HP2.out).1 Hqac.out
    have k2 := (fl_iff HP1.out HP2.out).1 Hqbc.out
    refine (Sv.flows_iff HPr.out.1 HPr.out.2 HP2.out.1.1 HP2.out.1.2.1).2 ?_
    show (∀ u, u ∈ r.xs → u ∈ _) ∧ ∀ u, u ∈ _ → u ∈ r.ys
    rw [HR.out.1, HR.out.2.1]
    exact ⟨fun u hu => ((or_mem HP0.out.1.1 HP1.out.1.1 u).1 hu).elim (k1.1 u) (k2.1 u), fun u hu => (and_mem HP0.out.1.2.1 HP1.out.1.2.1 u).2 ⟨k1.2 u hu, k2.2 u hu⟩⟩
  obtain ⟨_, _, hri, bw⟩ := HW.out _ hv0
  refine (flows_is true (hx.below bw).opened (hx.below bw).opened (by show x.n1 + x.n1 ≤ _; omega) (by show x.n2 + x.n2 ≤ _; omega) FAA).mono ?_
  rintro e v1 ⟨rfl, hv1⟩
  replace hv1 := ext_trans hv0 hv1
  clear hv0 hri bw
  obtain ⟨⟨c00, c01, c02, c10, c11, c12, c20, c21, c22⟩, ⟨d0, d1, d2⟩, hri, bw⟩ := HW.out _ hv1
  go_wp2_with fail
  clear c00 c01 c02 c10 c11 c12 c20 c21 c22 d0 d1 d2 hri bw
  obtain ⟨_, _, hri, bw⟩ := HW.out _ hv1
  refine (flows_is qab (hx.below bw).opened (hy.below bw).opened (by show x.n1 + y.n1 ≤ _; omega) (by show y.n2 + x.n2 ≤ _; omega) Hqab).mono ?_
  rintro e v2 ⟨rfl, hv2⟩
  replace hv2 := ext_trans hv1 hv2
  clear hv1 hri bw
  cases qab
  · skip
    obtain ⟨⟨c00, c01, c02, c10, c11, c12, c20, c21, c22⟩, ⟨d0, d1, d2⟩, hri, bw⟩ := HW.out _ hv2
    go_wp2_with fail
    clear c00 c01 c02 c10 c11 c12 c20 c21 c22 d0 d1 d2 hri bw
    obtain ⟨_, _, hri, bw⟩ := HW.out _ hv2
    refine (flows_is false (hx.below bw).opened (hy.below bw).opened (by show x.n1 + y.n1 ≤ _; omega) (by show y.n2 + x.n2 ≤ _; omega) Hqab).mono ?_
    rintro e v3 ⟨rfl, hv3⟩
    replace hv3 := ext_trans hv2 hv3
    clear hv2 hri bw
    obtain ⟨⟨c00, c01, c02, c10, c11, c12, c20, c21, c22⟩, ⟨d0, d1, d2⟩, hri, bw⟩ := HW.out _ hv3
    go_wp2_with fail
    clear c00 c01 c02 c10 c11 c12 c20 c21 c22 d0 d1 d2 hri bw
    obtain ⟨_, _, hri, bw⟩ := HW.out _ hv3
    refine (flows_is true (hx.below bw).opened hri (by show x.n1 + r.n1 ≤ _; omega) (by show r.n2 + x.n2 ≤ _; omega) FAJ).mono ?_
    rintro e v4 ⟨rfl, hv4⟩
    replace hv4 := ext_trans hv3 hv4
    clear hv3 hri bw
    obtain ⟨⟨c00, c01, c02, c10, c11, c12, c20, c21, c22⟩, ⟨d0, d1, d2⟩, hri, bw⟩ := HW.out _ hv4
    go_wp2_with fail
    clear c00 c01 c02 c10 c11 c12 c20 c21 c22 d0 d1 d2 hri bw
    obtain ⟨_, _, hri, bw⟩ := HW.out _ hv4
    refine (flows_is true (hy.below bw).opened hri (by show y.n1 + r.n1 ≤ _; omega) (by show r.n2 + y.n2 ≤ _; omega) FBJ).mono ?_
    rintro e v5 ⟨rfl, hv5⟩
    replace hv5 := ext_trans hv4 hv5
    clear hv4 hri bw
    obtain ⟨⟨c00, c01, c02, c10, c11, c12, c20, c21, c22⟩, ⟨d0, d1, d2⟩, hri, bw⟩ := HW.out _ hv5
    go_wp2_with fail
    clear c00 c01 c02 c10 c11 c12 c20 c21 c22 d0 d1 d2 hri bw
    obtain ⟨_, _, hri, bw⟩ := HW.out _ hv5
    refine (flows_is qac (hx.below bw).opened (hz.below bw).opened (by show x.n1 + z.n1 ≤ _; omega) (by show z.n2 + x.n2 ≤ _; omega) Hqac).mono ?_
    rintro e v6 ⟨rfl, hv6⟩
    replace hv6 := ext_trans hv5 hv6
    clear hv5 hri bw
    cases qac
    · skip
      obtain ⟨⟨c00, c01, c02, c10, c11, c12, c20, c21, c22⟩, ⟨d0, d1, d2⟩, hri, bw⟩ := HW.out _ hv6
      go_wp2_with fail
      go_ret
      exact ⟨rfl, bw⟩
    · skip
      obtain ⟨⟨c00, c01, c02, c10, c11, c12, c20, c21, c22⟩, ⟨d0, d1, d2⟩, hri, bw⟩ := HW.out _ hv6
      go_wp2_with fail
      clear c00 c01 c02 c10 c11 c12 c20 c21 c22 d0 d1 d2 hri bw
      obtain ⟨_, _, hri, bw⟩ := HW.out _ hv6
      refine (flows_is qbc (hy.below bw).opened (hz.below bw).opened (by show y.n1 + z.n1 ≤ _; omega) (by show z.n2 + y.n2 ≤ _; omega) Hqbc).mono ?_
      rintro e v7 ⟨rfl, hv7⟩
      replace hv7 := ext_trans hv6 hv7
      clear hv6 hri bw
      cases qbc
      · skip
        obtain ⟨⟨c00, c01, c02, c10, c11, c12, c20, c21, c22⟩, ⟨d0, d1, d2⟩, hri, bw⟩ := HW.out _ hv7
        go_wp2_with fail
        go_ret
        exact ⟨rfl, bw⟩
      · skip
        obtain ⟨⟨c00, c01, c02, c10, c11, c12, c20, c21, c22⟩, ⟨d0, d1, d2⟩, hri, bw⟩ := HW.out _ hv7
        go_wp2_with fail
        clear c00 c01 c02 c10 c11 c12 c20 c21 c22 d0 d1 d2 hri bw
        obtain ⟨_, _, hri, bw⟩ := HW.out _ hv7
        refine (flows_is true hri (hz.below bw).opened (by show r.n1 + z.n1 ≤ _; omega) (by show z.n2 + r.n2 ≤ _; omega) (FJC.out (by trivial) (by trivial))).mono ?_
        rintro e v8 ⟨rfl, hv8⟩
        replace hv8 := ext_trans hv7 hv8
        clear hv7 hri bw
        obtain ⟨⟨c00, c01, c02, c10, c11, c12, c20, c21, c22⟩, ⟨d0, d1, d2⟩, hri, bw⟩ := HW.out _ hv8
        go_wp2_with fail
        go_ret
        exact ⟨rfl, bw⟩
  · skip
    obtain ⟨⟨c00, c01, c02, c10, c11, c12, c20, c21, c22⟩, ⟨d0, d1, d2⟩, hri, bw⟩ := HW.out _ hv2
    go_wp2_with fail
    clear c00 c01 c02 c10 c11 c12 c20 c21 c22 d0 d1 d2 hri bw
    obtain ⟨_, _, hri, bw⟩ := HW.out _ hv2
    refine (flows_is qbc (hy.below bw).opened (hz.below bw).opened (by show y.n1 + z.n1 ≤ _; omega) (by show z.n2 + y.n2 ≤ _; omega) Hqbc).mono ?_
    rintro e v9 ⟨rfl, hv9⟩
    replace hv9 := ext_trans hv2 hv9
    clear hv2 hri bw
    cases qbc
    · skip
      obtain ⟨⟨c00, c01, c02, c10, c11, c12, c20, c21, c22⟩, ⟨d0, d1, d2⟩, hri, bw⟩ := HW.out _ hv9
      go_wp2_with fail
      clear c00 c01 c02 c10 c11 c12 c20 c21 c22 d0 d1 d2 hri bw
      obtain ⟨_, _, hri, bw⟩ := HW.out _ hv9
      refine (flows_is true (hx.below bw).opened (hy.below bw).opened (by show x.n1 + y.n1 ≤ _; omega) (by show y.n2 + x.n2 ≤ _; omega) Hqab).mono ?_
      rintro e v10 ⟨rfl, hv10⟩
      replace hv10 := ext_trans hv9 hv10
      clear hv9 hri bw
      obtain ⟨⟨c00, c01, c02, c10, c11, c12, c20, c21, c22⟩, ⟨d0, d1, d2⟩, hri, bw⟩ := HW.out _ hv10
      go_wp2_with fail
      clear c00 c01 c02 c10 c11 c12 c20 c21 c22 d0 d1 d2 hri bw
      obtain ⟨_, _, hri, bw⟩ := HW.out _ hv10
      refine (flows_is qba (hy.below bw).opened (hx.below bw).opened (by show y.n1 + x.n1 ≤ _; omega) (by show x.n2 + y.n2 ≤ _; omega) Hqba).mono ?_
      rintro e v11 ⟨rfl, hv11⟩
      replace hv11 := ext_trans hv10 hv11
      clear hv10 hri bw
      cases qba
      · skip
        obtain ⟨⟨c00, c01, c02, c10, c11, c12, c20, c21, c22⟩, ⟨d0, d1, d2⟩, hri, bw⟩ := HW.out _ hv11
        go_wp2_with fail
        clear c00 c01 c02 c10 c11 c12 c20 c21 c22 d0 d1 d2 hri bw
        obtain ⟨_, _, hri, bw⟩ := HW.out _ hv11
        refine (flows_is true (hx.below bw).opened hri (by show x.n1 + r.n1 ≤ _; omega) (by show r.n2 + x.n2 ≤ _; omega) FAJ).mono ?_
        rintro e v12 ⟨rfl, hv12⟩
        replace hv12 := ext_trans hv11 hv12
        clear hv11 hri bw
        obtain ⟨⟨c00, c01, c02, c10, c11, c12, c20, c21, c22⟩, ⟨d0, d1, d2⟩, hri, bw⟩ := HW.out _ hv12
        go_wp2_with fail
        clear c00 c01 c02 c10 c11 c12 c20 c21 c22 d0 d1 d2 hri bw
        obtain ⟨_, _, hri, bw⟩ := HW.out _ hv12
        refine (flows_is true (hy.below bw).opened hri (by show y.n1 + r.n1 ≤ _; omega) (by show r.n2 + y.n2 ≤ _; omega) FBJ).mono ?_
        rintro e v13 ⟨rfl, hv13⟩
        replace hv13 := ext_trans hv12 hv13
        clear hv12 hri bw
        obtain ⟨⟨c00, c01, c02, c10, c11, c12, c20, c21, c22⟩, ⟨d0, d1, d2⟩, hri, bw⟩ := HW.out _ hv13
        go_wp2_with fail
        clear c00 c01 c02 c10 c11 c12 c20 c21 c22 d0 d1 d2 hri bw
        obtain ⟨_, _, hri, bw⟩ := HW.out _ hv13
        refine (flows_is qac (hx.below bw).opened (hz.below bw).opened (by show x.n1 + z.n1 ≤ _; omega) (by show z.n2 + x.n2 ≤ _; omega) Hqac).mono ?_
        rintro e v14 ⟨rfl, hv14⟩
        replace hv14 := ext_trans hv13 hv14
        clear hv13 hri bw
        cases qac
        · skip
          obtain ⟨⟨c00, c01, c02, c10, c11, c12, c20, c21, c22⟩, ⟨d0, d1, d2⟩, hri, bw⟩ := HW.out _ hv14
          go_wp2_with fail
          go_ret
          exact ⟨rfl, bw⟩
        · skip
          obtain ⟨⟨c00, c01, c02, c10, c11, c12, c20, c21, c22⟩, ⟨d0, d1, d2⟩, hri, bw⟩ := HW.out _ hv14
          go_wp2_with fail
          clear c00 c01 c02 c10 c11 c12 c20 c21 c22 d0 d1 d2 hri bw
          obtain ⟨_, _, hri, bw⟩ := HW.out _ hv14
          refine (flows_is false (hy.below bw).opened (hz.below bw).opened (by show y.n1 + z.n1 ≤ _; omega) (by show z.n2 + y.n2 ≤ _; omega) Hqbc).mono ?_
          rintro e v15 ⟨rfl, hv15⟩
          replace hv15 := ext_trans hv14 hv15
          clear hv14 hri bw
          obtain ⟨⟨c00, c01, c02, c10, c11, c12, c20, c21, c22⟩, ⟨d0, d1, d2⟩, hri, bw⟩ := HW.out _ hv15
          go_wp2_with fail
          go_ret
          exact ⟨rfl, bw⟩
      · skip
        obtain ⟨⟨c00, c01, c02, c10, c11, c12, c20, c21, c22⟩, ⟨d0, d1, d2⟩, hri, bw⟩ := HW.out _ hv11
        go_wp2_with fail
        clear c00 c01 c02 c10 c11 c12 c20 c21 c22 d0 d1 d2 hri bw
        obtain ⟨_, _, hri, bw⟩ := HW.out _ hv11
        refine (same_is true (hx.below bw).opened (hy.below bw).opened (FE.out (by trivial) (by trivial))).mono ?_
        rintro e v16 ⟨rfl, hv16⟩
        replace hv16 := ext_trans hv11 hv16
        clear hv11 hri bw
        obtain ⟨⟨c00, c01, c02, c10, c11, c12, c20, c21, c22⟩, ⟨d0, d1, d2⟩, hri, bw⟩ := HW.out _ hv16
        go_wp2_with fail
        clear c00 c01 c02 c10 c11 c12 c20 c21 c22 d0 d1 d2 hri bw
        obtain ⟨_, _, hri, bw⟩ := HW.out _ hv16
        refine (flows_is true (hx.below bw).opened hri (by show x.n1 + r.n1 ≤ _; omega) (by show r.n2 + x.n2 ≤ _; omega) FAJ).mono ?_
        rintro e v17 ⟨rfl, hv17⟩
        replace hv17 := ext_trans hv16 hv17
        clear hv16 hri bw
        obtain ⟨⟨c00, c01, c02, c10, c11, c12, c20, c21, c22⟩, ⟨d0, d1, d2⟩, hri, bw⟩ := HW.out _ hv17
        go_wp2_with fail
        clear c00 c01 c02 c10 c11 c12 c20 c21 c22 d0 d1 d2 hri bw
        obtain ⟨_, _, hri, bw⟩ := HW.out _ hv17
        refine (flows_is true (hy.below bw).opened hri (by show y.n1 + r.n1 ≤ _; omega) (by show r.n2 + y.n2 ≤ _; omega) FBJ).mono ?_
        rintro e v18 ⟨rfl, hv18⟩
        replace hv18 := ext_trans hv17 hv18
        clear hv17 hri bw
        obtain ⟨⟨c00, c01, c02, c10, c11, c12, c20, c21, c22⟩, ⟨d0, d1, d2⟩, hri, bw⟩ := HW.out _ hv18
        go_wp2_with fail
        clear c00 c01 c02 c10 c11 c12 c20 c21 c22 d0 d1 d2 hri bw
        obtain ⟨_, _, hri, bw⟩ := HW.out _ hv18
        refine (flows_is qac (hx.below bw).opened (hz.below bw).opened (by show x.n1 + z.n1 ≤ _; omega) (by show z.n2 + x.n2 ≤ _; omega) Hqac).mono ?_
        rintro e v19 ⟨rfl, hv19⟩
        replace hv19 := ext_trans hv18 hv19
        clear hv18 hri bw
        cases qac
        · skip
          obtain ⟨⟨c00, c01, c02, c10, c11, c12, c20, c21, c22⟩, ⟨d0, d1, d2⟩, hri, bw⟩ := HW.out _ hv19
          go_wp2_with fail
          go_ret
          exact ⟨rfl, bw⟩
        · skip
          obtain ⟨⟨c00, c01, c02, c10, c11, c12, c20, c21, c22⟩, ⟨d0, d1, d2⟩, hri, bw⟩ := HW.out _ hv19
          go_wp2_with fail
          clear c00 c01 c02 c10 c11 c12 c20 c21 c22 d0 d1 d2 hri bw
          obtain ⟨_, _, hri, bw⟩ := HW.out _ hv19
          refine (flows_is false (hy.below bw).opened (hz.below bw).opened (by show y.n1 + z.n1 ≤ _; omega) (by show z.n2 + y.n2 ≤ _; omega) Hqbc).mono ?_
          rintro e v20 ⟨rfl, hv20⟩
          replace hv20 := ext_trans hv19 hv20
          clear hv19 hri bw
          obtain ⟨⟨c00, c01, c02, c10, c11, c12, c20, c21, c22⟩, ⟨d0, d1, d2⟩, hri, bw⟩ := HW.out _ hv20
          go_wp2_with fail
          go_ret
          exact ⟨rfl, bw⟩
    · obtain rfl : qac = true := FT.out (by trivial) (by trivial)
      obtain ⟨⟨c00, c01, c02, c10, c11, c12, c20, c21, c22⟩, ⟨d0, d1, d2⟩, hri, bw⟩ := HW.out _ hv9
      go_wp2_with fail
      clear c00 c01 c02 c10 c11 c12 c20 c21 c22 d0 d1 d2 hri bw
      obtain ⟨_, _, hri, bw⟩ := HW.out _ hv9
      refine (flows_is true (hx.below bw).opened (hz.below bw).opened (by show x.n1 + z.n1 ≤ _; omega) (by show z.n2 + x.n2 ≤ _; omega) Hqac).mono ?_
      rintro e v21 ⟨rfl, hv21⟩
      replace hv21 := ext_trans hv9 hv21
      clear hv9 hri bw
      obtain ⟨⟨c00, c01, c02, c10, c11, c12, c20, c21, c22⟩, ⟨d0, d1, d2⟩, hri, bw⟩ := HW.out _ hv21
      go_wp2_with fail
      clear c00 c01 c02 c10 c11 c12 c20 c21 c22 d0 d1 d2 hri bw
      obtain ⟨_, _, hri, bw⟩ := HW.out _ hv21
      refine (flows_is true (hx.below bw).opened (hy.below bw).opened (by show x.n1 + y.n1 ≤ _; omega) (by show y.n2 + x.n2 ≤ _; omega) Hqab).mono ?_
      rintro e v22 ⟨rfl, hv22⟩
      replace hv22 := ext_trans hv21 hv22
      clear hv21 hri bw
      obtain ⟨⟨c00, c01, c02, c10, c11, c12, c20, c21, c22⟩, ⟨d0, d1, d2⟩, hri, bw⟩ := HW.out _ hv22
      go_wp2_with fail
      clear c00 c01 c02 c10 c11 c12 c20 c21 c22 d0 d1 d2 hri bw
      obtain ⟨_, _, hri, bw⟩ := HW.out _ hv22
      refine (flows_is qba (hy.below bw).opened (hx.below bw).opened (by show y.n1 + x.n1 ≤ _; omega) (by show x.n2 + y.n2 ≤ _; omega) Hqba).mono ?_
      rintro e v23 ⟨rfl, hv23⟩
      replace hv23 := ext_trans hv22 hv23
      clear hv22 hri bw
      cases qba
      · skip
        obtain ⟨⟨c00, c01, c02, c10, c11, c12, c20, c21, c22⟩, ⟨d0, d1, d2⟩, hri, bw⟩ := HW.out _ hv23
        go_wp2_with fail
        clear c00 c01 c02 c10 c11 c12 c20 c21 c22 d0 d1 d2 hri bw
        obtain ⟨_, _, hri, bw⟩ := HW.out _ hv23
        refine (flows_is true (hx.below bw).opened hri (by show x.n1 + r.n1 ≤ _; omega) (by show r.n2 + x.n2 ≤ _; omega) FAJ).mono ?_
        rintro e v24 ⟨rfl, hv24⟩
        replace hv24 := ext_trans hv23 hv24
        clear hv23 hri bw
        obtain ⟨⟨c00, c01, c02, c10, c11, c12, c20, c21, c22⟩, ⟨d0, d1, d2⟩, hri, bw⟩ := HW.out _ hv24
        go_wp2_with fail
        clear c00 c01 c02 c10 c11 c12 c20 c21 c22 d0 d1 d2 hri bw
        obtain ⟨_, _, hri, bw⟩ := HW.out _ hv24
        refine (flows_is true (hy.below bw).opened hri (by show y.n1 + r.n1 ≤ _; omega) (by show r.n2 + y.n2 ≤ _; omega) FBJ).mono ?_
        rintro e v25 ⟨rfl, hv25⟩
        replace hv25 := ext_trans hv24 hv25
        clear hv24 hri bw
        obtain ⟨⟨c00, c01, c02, c10, c11, c12, c20, c21, c22⟩, ⟨d0, d1, d2⟩, hri, bw⟩ := HW.out _ hv25
        go_wp2_with fail
        clear c00 c01 c02 c10 c11 c12 c20 c21 c22 d0 d1 d2 hri bw
        obtain ⟨_, _, hri, bw⟩ := HW.out _ hv25
        refine (flows_is true (hx.below bw).opened (hz.below bw).opened (by show x.n1 + z.n1 ≤ _; omega) (by show z.n2 + x.n2 ≤ _; omega) Hqac).mono ?_
        rintro e v26 ⟨rfl, hv26⟩
        replace hv26 := ext_trans hv25 hv26
        clear hv25 hri bw
        obtain ⟨⟨c00, c01, c02, c10, c11, c12, c20, c21, c22⟩, ⟨d0, d1, d2⟩, hri, bw⟩ := HW.out _ hv26
        go_wp2_with fail
        clear c00 c01 c02 c10 c11 c12 c20 c21 c22 d0 d1 d2 hri bw
        obtain ⟨_, _, hri, bw⟩ := HW.out _ hv26
        refine (flows_is true (hy.below bw).opened (hz.below bw).opened (by show y.n1 + z.n1 ≤ _; omega) (by show z.n2 + y.n2 ≤ _; omega) Hqbc).mono ?_
        rintro e v27 ⟨rfl, hv27⟩
        replace hv27 := ext_trans hv26 hv27
        clear hv26 hri bw
        obtain ⟨⟨c00, c01, c02, c10, c11, c12, c20, c21, c22⟩, ⟨d0, d1, d2⟩, hri, bw⟩ := HW.out _ hv27
        go_wp2_with fail
        clear c00 c01 c02 c10 c11 c12 c20 c21 c22 d0 d1 d2 hri bw
        obtain ⟨_, _, hri, bw⟩ := HW.out _ hv27
        refine (flows_is true hri (hz.below bw).opened (by show r.n1 + z.n1 ≤ _; omega) (by show z.n2 + r.n2 ≤ _; omega) (FJC.out (by trivial) (by trivial))).mono ?_
        rintro e v28 ⟨rfl, hv28⟩
        replace hv28 := ext_trans hv27 hv28
        clear hv27 hri bw
        obtain ⟨⟨c00, c01, c02, c10, c11, c12, c20, c21, c22⟩, ⟨d0, d1, d2⟩, hri, bw⟩ := HW.out _ hv28
        go_wp2_with fail
        go_ret
        exact ⟨rfl, bw⟩
      · skip
        obtain ⟨⟨c00, c01, c02, c10, c11, c12, c20, c21, c22⟩, ⟨d0, d1, d2⟩, hri, bw⟩ := HW.out _ hv23
        go_wp2_with fail
        clear c00 c01 c02 c10 c11 c12 c20 c21 c22 d0 d1 d2 hri bw
        obtain ⟨_, _, hri, bw⟩ := HW.out _ hv23
        refine (same_is true (hx.below bw).opened (hy.below bw).opened (FE.out (by trivial) (by trivial))).mono ?_
        rintro e v29 ⟨rfl, hv29⟩
        replace hv29 := ext_trans hv23 hv29
        clear hv23 hri bw
        obtain ⟨⟨c00, c01, c02, c10, c11, c12, c20, c21, c22⟩, ⟨d0, d1, d2⟩, hri, bw⟩ := HW.out _ hv29
        go_wp2_with fail
        clear c00 c01 c02 c10 c11 c12 c20 c21 c22 d0 d1 d2 hri bw
        obtain ⟨_, _, hri, bw⟩ := HW.out _ hv29
        refine (flows_is true (hx.below bw).opened hri (by show x.n1 + r.n1 ≤ _; omega) (by show r.n2 + x.n2 ≤ _; omega) FAJ).mono ?_
        rintro e v30 ⟨rfl, hv30⟩
        replace hv30 := ext_trans hv29 hv30
        clear hv29 hri bw
        obtain ⟨⟨c00, c01, c02, c10, c11, c12, c20, c21, c22⟩, ⟨d0, d1, d2⟩, hri, bw⟩ := HW.out _ hv30
        go_wp2_with fail
        clear c00 c01 c02 c10 c11 c12 c20 c21 c22 d0 d1 d2 hri bw
        obtain ⟨_, _, hri, bw⟩ := HW.out _ hv30
        refine (flows_is true (hy.below bw).opened hri (by show y.n1 + r.n1 ≤ _; omega) (by show r.n2 + y.n2 ≤ _; omega) FBJ).mono ?_
        rintro e v31 ⟨rfl, hv31⟩
        replace hv31 := ext_trans hv30 hv31
        clear hv30 hri bw
        obtain ⟨⟨c00, c01, c02, c10, c11, c12, c20, c21, c22⟩, ⟨d0, d1, d2⟩, hri, bw⟩ := HW.out _ hv31
        go_wp2_with fail
        clear c00 c01 c02 c10 c11 c12 c20 c21 c22 d0 d1 d2 hri bw
        obtain ⟨_, _, hri, bw⟩ := HW.out _ hv31
        refine (flows_is true (hx.below bw).opened (hz.below bw).opened (by show x.n1 + z.n1 ≤ _; omega) (by show z.n2 + x.n2 ≤ _; omega) Hqac).mono ?_
        rintro e v32 ⟨rfl, hv32⟩
        replace hv32 := ext_trans hv31 hv32
        clear hv31 hri bw
        obtain ⟨⟨c00, c01, c02, c10, c11, c12, c20, c21, c22⟩, ⟨d0, d1, d2⟩, hri, bw⟩ := HW.out _ hv32
        go_wp2_with fail
        clear c00 c01 c02 c10 c11 c12 c20 c21 c22 d0 d1 d2 hri bw
        obtain ⟨_, _, hri, bw⟩ := HW.out _ hv32
        refine (flows_is true (hy.below bw).opened (hz.below bw).opened (by show y.n1 + z.n1 ≤ _; omega) (by show z.n2 + y.n2 ≤ _; omega) Hqbc).mono ?_
        rintro e v33 ⟨rfl, hv33⟩
        replace hv33 := ext_trans hv32 hv33
        clear hv32 hri bw
        obtain ⟨⟨c00, c01, c02, c10, c11, c12, c20, c21, c22⟩, ⟨d0, d1, d2⟩, hri, bw⟩ := HW.out _ hv33
        go_wp2_with fail
        clear c00 c01 c02 c10 c11 c12 c20 c21 c22 d0 d1 d2 hri bw
        obtain ⟨_, _, hri, bw⟩ := HW.out _ hv33
        refine (flows_is true hri (hz.below bw).opened (by show r.n1 + z.n1 ≤ _; omega) (by show z.n2 + r.n2 ≤ _; omega) (FJC.out (by trivial) (by trivial))).mono ?_
        rintro e v34 ⟨rfl, hv34⟩
        replace hv34 := ext_trans hv33 hv34
        clear hv33 hri bw
        obtain ⟨⟨c00, c01, c02, c10, c11, c12, c20, c21, c22⟩, ⟨d0, d1, d2⟩, hri, bw⟩ := HW.out _ hv34
        go_wp2_with fail
        go_ret
        exact ⟨rfl, bw⟩
end Go.Proofs.Yteageheimghdiaa
