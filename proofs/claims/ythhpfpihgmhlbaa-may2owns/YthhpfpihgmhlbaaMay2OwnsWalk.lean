/- May2Owns walked: it answers true, and turns nothing that was there. -/
import Derived.Test.YthhpfpihgmhlbaaM2Laws
namespace Go.Proofs.Ythhpfpihgmhlbaa
open Go.RowKit

/-- r is x as the owner of c. -/
def OwnOf (c : Int) (x r : Sv) : Prop := r.xs = mrg true false false x.xs [c] ∧ r.ys = mrg true false false x.ys [c] ∧ r.zs = mrg true true true x.zs [c]
theorem OwnOf.mem {c : Int} {x r : Sv} (h : OwnOf c x r) (h1 : Srt x.xs) (h2 : Srt x.ys) (h3 : Srt x.zs) : (∀ u, u ∈ r.xs ↔ u ∈ x.xs ∧ u ≠ c) ∧ (∀ u, u ∈ r.ys ↔ u ∈ x.ys ∧ u ≠ c) ∧ ∀ u, u ∈ r.zs ↔ u ∈ x.zs ∨ u = c :=
  ⟨fun u => by rw [h.1, less_mem h1 (srt_one c)]; simp, fun u => by rw [h.2.1, less_mem h2 (srt_one c)]; simp, fun u => by rw [h.2.2, or_mem h3 (srt_one c)]; simp⟩
theorem OwnOf.srt {c : Int} {x r : Sv} (h : OwnOf c x r) (h1 : Srt x.xs) (h2 : Srt x.ys) (h3 : Srt x.zs) : Srt r.xs ∧ Srt r.ys ∧ Srt r.zs := by
  rw [h.1, h.2.1, h.2.2]
  exact ⟨mrg_srt _ _ _ _ _ h1 (srt_one c), mrg_srt _ _ _ _ _ h2 (srt_one c), mrg_srt _ _ _ _ _ h3 (srt_one c)⟩
theorem own_sees_more {c : Int} {x y r : Sv} (hr : (∀ u, u ∈ r.xs ↔ u ∈ x.xs ∧ u ≠ c) ∧ (∀ u, u ∈ r.ys ↔ u ∈ x.ys ∧ u ≠ c) ∧ ∀ u, u ∈ r.zs ↔ u ∈ x.zs ∨ u = c) (h : SeesP x y) : SeesP r y := by
  refine ⟨fun u hu => ?_, fun u hu => h.2 u ((hr.2.1 u).1 hu).1⟩
  by_cases e : u = c
  · exact .inr ((hr.2.2 u).2 (.inr e))
  · exact (h.1 u hu).elim (fun k => .inl ((hr.1 u).2 ⟨k, e⟩)) fun k => .inr ((hr.2.2 u).2 (.inl k))
theorem own_turns_more {c : Int} {x y r : Sv} (hr : (∀ u, u ∈ r.xs ↔ u ∈ x.xs ∧ u ≠ c) ∧ (∀ u, u ∈ r.ys ↔ u ∈ x.ys ∧ u ≠ c) ∧ ∀ u, u ∈ r.zs ↔ u ∈ x.zs ∨ u = c) (h : TurnsP x y) : TurnsP r y := by
  refine ⟨fun u hu => h.1 u ((hr.1 u).1 hu).1, fun u hu => ?_⟩
  by_cases e : u = c
  · exact .inr ((hr.2.2 u).2 (.inr e))
  · exact (h.2 u hu).elim (fun k => .inl ((hr.2.1 u).2 ⟨k, e⟩)) fun k => .inr ((hr.2.2 u).2 (.inl k))
theorem own_sees_same {c : Int} {x y r s : Sv} (hr : (∀ u, u ∈ r.xs ↔ u ∈ x.xs ∧ u ≠ c) ∧ (∀ u, u ∈ r.ys ↔ u ∈ x.ys ∧ u ≠ c) ∧ ∀ u, u ∈ r.zs ↔ u ∈ x.zs ∨ u = c) (h1 : ∀ u, u ∈ s.xs ↔ u ∈ y.xs ∧ u ≠ c) (h2 : ∀ u, u ∈ s.ys ↔ u ∈ y.ys ∧ u ≠ c) : SeesP r s ↔ SeesP r y := by
  constructor
  · refine fun h => ⟨fun u hu => ?_, fun u hu => ((h2 u).1 (h.2 u hu)).1⟩
    by_cases e : u = c
    · exact .inr ((hr.2.2 u).2 (.inr e))
    · exact h.1 u ((h1 u).2 ⟨hu, e⟩)
  · exact fun h => ⟨fun u hu => h.1 u ((h1 u).1 hu).1, fun u hu => (h2 u).2 ⟨h.2 u hu, ((hr.2.1 u).1 hu).2⟩⟩
theorem own_turns_same {c : Int} {x y r s : Sv} (hr : (∀ u, u ∈ r.xs ↔ u ∈ x.xs ∧ u ≠ c) ∧ (∀ u, u ∈ r.ys ↔ u ∈ x.ys ∧ u ≠ c) ∧ ∀ u, u ∈ r.zs ↔ u ∈ x.zs ∨ u = c) (h1 : ∀ u, u ∈ s.xs ↔ u ∈ y.xs ∧ u ≠ c) (h2 : ∀ u, u ∈ s.ys ↔ u ∈ y.ys ∧ u ≠ c) : TurnsP r s ↔ TurnsP r y := by
  constructor
  · refine fun h => ⟨fun u hu => ((h1 u).1 (h.1 u hu)).1, fun u hu => ?_⟩
    by_cases e : u = c
    · exact .inr ((hr.2.2 u).2 (.inr e))
    · exact h.2 u ((h2 u).2 ⟨hu, e⟩)
  · exact fun h => ⟨fun u hu => (h1 u).2 ⟨h.1 u hu, ((hr.1 u).1 hu).2⟩, fun u hu => h.2 u ((h2 u).1 hu).1⟩
theorem mowns_sv (w w1 : World) (x y : Sv) (W0 : World) (HC : ∀ W, Below W0.heap.size W0 W → W.heap[w.heap.size]? = some (.cells #[.slice x.a1 x.n1 x.c1, .slice x.a2 x.n2 x.c2, .slice x.a3 x.n3 x.c3] 24 (0, 0)) ∧ W.heap[w.heap.size + 1]? = some (.cells #[.slice y.a1 y.n1 y.c1, .slice y.a2 y.n2 y.c2, .slice y.a3 y.n3 y.c3] 24 (0, 0)) ∧ Below w.heap.size w W) (hb : Below W0.heap.size W0 w1) :
    ∀ W, Below (w1.setCell ⟨w.heap.size + 1, 2, none⟩ (.slice none 0 0)).heap.size (w1.setCell ⟨w.heap.size + 1, 2, none⟩ (.slice none 0 0)) W → (W.cell? ⟨w.heap.size, 0, none⟩ = some (.slice x.a1 x.n1 x.c1) ∧ W.cell? ⟨w.heap.size, 1, none⟩ = some (.slice x.a2 x.n2 x.c2) ∧ W.cell? ⟨w.heap.size, 2, none⟩ = some (.slice x.a3 x.n3 x.c3) ∧ W.cell? ⟨w.heap.size + 1, 0, none⟩ = some (.slice y.a1 y.n1 y.c1) ∧ W.cell? ⟨w.heap.size + 1, 1, none⟩ = some (.slice y.a2 y.n2 y.c2) ∧ W.cell? ⟨w.heap.size + 1, 2, none⟩ = some (.slice none 0 0)) ∧ Below w.heap.size w W := fun W h => by
  obtain ⟨a0, a1, hbw⟩ := HC w1 hb
  have b0 := (heap_else (g := w.heap.size + 1) (v := .slice none 0 0) a0 (by omega))
  have d0 := (h.block _ (Array.getElem?_eq_some_iff.1 b0).1).trans b0
  have b1 := (heap_opened a1)
  have d1 := (h.block _ (Array.getElem?_eq_some_iff.1 b1).1).trans b1
  have hv : Below w.heap.size w (w1.setCell ⟨w.heap.size + 1, 2, none⟩ (.slice none 0 0)) := (hbw.setCell (by first | exact Nat.le_refl _ | (simp <;> omega)) _)
  exact ⟨⟨sv_cell_of_heap d0 0 _ rfl, sv_cell_of_heap d0 1 _ rfl, sv_cell_of_heap d0 2 _ rfl, sv_cell_of_heap d1 0 _ rfl, sv_cell_of_heap d1 1 _ rfl, sv_cell_of_heap d1 2 _ rfl⟩, ext_trans hv h⟩

set_option maxHeartbeats 8000000 in
theorem may2Owns_walk (x y : Sv) (c : Int) (hc : 0 ≤ c ∧ c < 65536) (w : World) (hx : x.In w) (hy : y.In w) :
    Calls Try.prog 5 #[.agg #[.slice x.a1 x.n1 x.c1, .slice x.a2 x.n2 x.c2, .slice x.a3 x.n3 x.c3], .agg #[.slice y.a1 y.n1 y.c1, .slice y.a2 y.n2 y.c2, .slice y.a3 y.n3 y.c3], .int .u16 c] w fun e w' => e = .returned (.bool true) ∧ Below w.heap.size w w' := by
  have HC : Hid _ := heap_boxes2 w x y
  go_enter Try.func5, Try.ntmps5
  go_wp2_with fail
  refine (begun10_true _).mono ?_
  rintro e w1 ⟨rfl, hb1⟩
  have HV : Hid _ := mowns_sv w w1 x y _ HC.out hb1
  obtain ⟨a0, a1, _⟩ := HC.out _ hb1
  clear hb1 HC
  have f1 : w1.frozen? ⟨w.heap.size + 1, 2, none⟩ = false := frozen_of_row w1 _ 2 _ 24 a1
  have c00 := sv_cell_of_heap a0 0 _ rfl
  have c01 := sv_cell_of_heap a0 1 _ rfl
  have c02 := sv_cell_of_heap a0 2 _ rfl
  have c10 := sv_cell_of_heap a1 0 _ rfl
  have c11 := sv_cell_of_heap a1 1 _ rfl
  have c12 := sv_cell_of_heap a1 2 _ rfl
  clear a0 a1
  go_wp2_with fail
  clear c00 c01 c02 c10 c11 c12 f1
  obtain ⟨V, hV⟩ : ∃ V, V = (w1.setCell ⟨w.heap.size + 1, 2, none⟩ (.slice none 0 0)) := ⟨_, rfl⟩
  rw [← hV] at HV ⊢
  clear hV
  have hu0 := Below.refl V.heap.size V
  obtain ⟨_, bw⟩ := HV.out _ hu0
  obtain ⟨m0, hm0⟩ : ∃ q, mayV x.xs x.ys x.zs = q := ⟨_, rfl⟩
  have HM0 : Hid (mayV x.xs x.ys x.zs = m0) := hm0
  clear hm0
  refine (refMay_is m0 (hx.below bw) HM0).mono ?_
  rintro e u1 ⟨rfl, hu1⟩
  replace hu1 := ext_trans hu0 hu1
  clear hu0 bw
  obtain ⟨⟨c00, c01, c02, c10, c11, c12⟩, bw⟩ := HV.out _ hu1
  cases m0
  · go_wp2_with fail
    go_ret
    exact ⟨rfl, bw⟩
  have HP0 : Hid (MayP x.xs x.ys x.zs) := (mayV_iff _ _ _).1 HM0.out
  have hl0 : x.n1 + x.n2 + x.n3 ≤ 16 := HP0.out.len (hx.below bw)
  clear HM0
  go_wp2_with fail
  clear c00 c01 c02 c10 c11 c12 bw
  obtain ⟨_, bw⟩ := HV.out _ hu1
  obtain ⟨m1, hm1⟩ : ∃ q, mayV y.opened.xs y.opened.ys y.opened.zs = q := ⟨_, rfl⟩
  have HM1 : Hid (mayV y.opened.xs y.opened.ys y.opened.zs = m1) := hm1
  clear hm1
  refine (refMay_is m1 (hy.below bw).opened HM1).mono ?_
  rintro e u2 ⟨rfl, hu2⟩
  replace hu2 := ext_trans hu1 hu2
  clear hu1 bw
  obtain ⟨⟨c00, c01, c02, c10, c11, c12⟩, bw⟩ := HV.out _ hu2
  cases m1
  · go_wp2_with fail
    go_ret
    exact ⟨rfl, bw⟩
  have HP1 : Hid (MayP y.opened.xs y.opened.ys y.opened.zs) := (mayV_iff _ _ _).1 HM1.out
  have hl1 : y.n1 + y.n2 ≤ 16 := HP1.out.len (hy.below bw).opened
  clear HM1
  go_wp2_with fail
  clear c00 c01 c02 c10 c11 c12 bw
  obtain ⟨_, bw⟩ := HV.out _ hu2
  refine (refAdd_any x c hc _ (hx.below bw) ⟨HP0.out.1.1, HP0.out.1.2.1, HP0.out.1.2.2⟩ (by omega) (by omega) (by omega)).mono ?_
  rintro e w5 ⟨r, rfl, hr, hr', -, hb5⟩
  have HR : Hid (OwnOf c x r) := hr'
  clear hr'
  replace hb5 := ext_trans hu2 hb5
  clear hu2 bw
  obtain ⟨⟨c00, c01, c02, c10, c11, c12⟩, _⟩ := HV.out _ hb5
  replace c00 := sv_cell_old (Obj.cells #[.slice r.a1 r.n1 r.c1, .slice r.a2 r.n2 r.c2, .slice r.a3 r.n3 r.c3] 24) c00
  replace c01 := sv_cell_old (Obj.cells #[.slice r.a1 r.n1 r.c1, .slice r.a2 r.n2 r.c2, .slice r.a3 r.n3 r.c3] 24) c01
  replace c02 := sv_cell_old (Obj.cells #[.slice r.a1 r.n1 r.c1, .slice r.a2 r.n2 r.c2, .slice r.a3 r.n3 r.c3] 24) c02
  replace c10 := sv_cell_old (Obj.cells #[.slice r.a1 r.n1 r.c1, .slice r.a2 r.n2 r.c2, .slice r.a3 r.n3 r.c3] 24) c10
  replace c11 := sv_cell_old (Obj.cells #[.slice r.a1 r.n1 r.c1, .slice r.a2 r.n2 r.c2, .slice r.a3 r.n3 r.c3] 24) c11
  replace c12 := sv_cell_old (Obj.cells #[.slice r.a1 r.n1 r.c1, .slice r.a2 r.n2 r.c2, .slice r.a3 r.n3 r.c3] 24) c12
  go_wp2_with fail
  clear c00 c01 c02 c10 c11 c12
  have HW : Hid (∀ W, Below (w5.alloc (Obj.cells #[.slice r.a1 r.n1 r.c1, .slice r.a2 r.n2 r.c2, .slice r.a3 r.n3 r.c3] 24)).heap.size (w5.alloc (Obj.cells #[.slice r.a1 r.n1 r.c1, .slice r.a2 r.n2 r.c2, .slice r.a3 r.n3 r.c3] 24)) W → ((W.cell? ⟨w.heap.size, 0, none⟩ = some (.slice x.a1 x.n1 x.c1) ∧ W.cell? ⟨w.heap.size, 1, none⟩ = some (.slice x.a2 x.n2 x.c2) ∧ W.cell? ⟨w.heap.size, 2, none⟩ = some (.slice x.a3 x.n3 x.c3) ∧ W.cell? ⟨w.heap.size + 1, 0, none⟩ = some (.slice y.a1 y.n1 y.c1) ∧ W.cell? ⟨w.heap.size + 1, 1, none⟩ = some (.slice y.a2 y.n2 y.c2) ∧ W.cell? ⟨w.heap.size + 1, 2, none⟩ = some (.slice none 0 0)) ∧ (W.cell? ⟨w5.heap.size, 0, none⟩ = some (.slice r.a1 r.n1 r.c1) ∧ W.cell? ⟨w5.heap.size, 1, none⟩ = some (.slice r.a2 r.n2 r.c2) ∧ W.cell? ⟨w5.heap.size, 2, none⟩ = some (.slice r.a3 r.n3 r.c3))) ∧ r.In W ∧ Below w.heap.size w W) := fun W h => by
    obtain ⟨h0, h1, h2, h3⟩ := one_sv w5 r W h
    obtain ⟨k1, k2⟩ := HV.out W (ext_trans hb5 h3)
    exact ⟨⟨k1, h0, h1, h2⟩, hr.below h3, k2⟩
  obtain ⟨W5, hW5⟩ : ∃ W, W = w5.alloc (Obj.cells #[.slice r.a1 r.n1 r.c1, .slice r.a2 r.n2 r.c2, .slice r.a3 r.n3 r.c3] 24) := ⟨_, rfl⟩
  rw [← hW5] at HW ⊢
  clear hW5 hb5 hr HV
  have hv0 := Below.refl W5.heap.size W5
  obtain ⟨_, hr, _⟩ := HW.out _ hv0
  obtain ⟨m2, hm2⟩ : ∃ q, mayV r.xs r.ys r.zs = q := ⟨_, rfl⟩
  have HM2 : Hid (mayV r.xs r.ys r.zs = m2) := hm2
  clear hm2
  refine (refMay_is m2 hr HM2).mono ?_
  rintro e u3 ⟨rfl, hv1⟩
  replace hv1 := ext_trans hv0 hv1
  clear hv0 hr
  obtain ⟨⟨⟨c00, c01, c02, c10, c11, c12⟩, d0, d1, d2⟩, hr, bw⟩ := HW.out _ hv1
  cases m2
  · go_wp2_with fail
    go_ret
    exact ⟨rfl, bw⟩
  have HPr : Hid (MayP r.xs r.ys r.zs) := (mayV_iff _ _ _).1 HM2.out
  clear HM2
  go_wp2_with fail
  clear c00 c01 c02 c10 c11 c12 d0 d1 d2 hr
  refine (refAdd_any y.opened c hc _ (hy.below bw).opened ⟨HP1.out.1.1, HP1.out.1.2.1, HP1.out.1.2.2⟩ (by show y.n1 ≤ _; omega) (by show y.n2 ≤ _; omega) (by show 0 + 1 ≤ _; omega)).mono ?_
  rintro e w7 ⟨r2, rfl, hr2, hr2', hrl, hb7⟩
  have HR2 : Hid (OwnOf c y.opened r2) := hr2'
  have rl1 : r2.n1 ≤ y.n1 + 1 := hrl.1
  have rl2 : r2.n2 ≤ y.n2 + 1 := hrl.2.1
  clear hr2' bw hrl
  replace hb7 := ext_trans hv1 hb7
  clear hv1
  obtain ⟨⟨⟨c00, c01, c02, c10, c11, c12⟩, d0, d1, d2⟩, _, _⟩ := HW.out _ hb7
  replace c00 := sv_cell_old (Obj.cells #[.slice r2.a1 r2.n1 r2.c1, .slice r2.a2 r2.n2 r2.c2, .slice r2.a3 r2.n3 r2.c3] 24) c00
  replace c01 := sv_cell_old (Obj.cells #[.slice r2.a1 r2.n1 r2.c1, .slice r2.a2 r2.n2 r2.c2, .slice r2.a3 r2.n3 r2.c3] 24) c01
  replace c02 := sv_cell_old (Obj.cells #[.slice r2.a1 r2.n1 r2.c1, .slice r2.a2 r2.n2 r2.c2, .slice r2.a3 r2.n3 r2.c3] 24) c02
  replace c10 := sv_cell_old (Obj.cells #[.slice r2.a1 r2.n1 r2.c1, .slice r2.a2 r2.n2 r2.c2, .slice r2.a3 r2.n3 r2.c3] 24) c10
  replace c11 := sv_cell_old (Obj.cells #[.slice r2.a1 r2.n1 r2.c1, .slice r2.a2 r2.n2 r2.c2, .slice r2.a3 r2.n3 r2.c3] 24) c11
  replace c12 := sv_cell_old (Obj.cells #[.slice r2.a1 r2.n1 r2.c1, .slice r2.a2 r2.n2 r2.c2, .slice r2.a3 r2.n3 r2.c3] 24) c12
  replace d0 := sv_cell_old (Obj.cells #[.slice r2.a1 r2.n1 r2.c1, .slice r2.a2 r2.n2 r2.c2, .slice r2.a3 r2.n3 r2.c3] 24) d0
  replace d1 := sv_cell_old (Obj.cells #[.slice r2.a1 r2.n1 r2.c1, .slice r2.a2 r2.n2 r2.c2, .slice r2.a3 r2.n3 r2.c3] 24) d1
  replace d2 := sv_cell_old (Obj.cells #[.slice r2.a1 r2.n1 r2.c1, .slice r2.a2 r2.n2 r2.c2, .slice r2.a3 r2.n3 r2.c3] 24) d2
  go_wp2_with fail
  clear c00 c01 c02 c10 c11 c12 d0 d1 d2
  have HU : Hid (∀ W, Below (w7.alloc (Obj.cells #[.slice r2.a1 r2.n1 r2.c1, .slice r2.a2 r2.n2 r2.c2, .slice none 0 0] 24)).heap.size (w7.alloc (Obj.cells #[.slice r2.a1 r2.n1 r2.c1, .slice r2.a2 r2.n2 r2.c2, .slice none 0 0] 24)) W → ((W.cell? ⟨w.heap.size, 0, none⟩ = some (.slice x.a1 x.n1 x.c1) ∧ W.cell? ⟨w.heap.size, 1, none⟩ = some (.slice x.a2 x.n2 x.c2) ∧ W.cell? ⟨w.heap.size, 2, none⟩ = some (.slice x.a3 x.n3 x.c3) ∧ W.cell? ⟨w.heap.size + 1, 0, none⟩ = some (.slice y.a1 y.n1 y.c1) ∧ W.cell? ⟨w.heap.size + 1, 1, none⟩ = some (.slice y.a2 y.n2 y.c2) ∧ W.cell? ⟨w.heap.size + 1, 2, none⟩ = some (.slice none 0 0)) ∧ (W.cell? ⟨w5.heap.size, 0, none⟩ = some (.slice r.a1 r.n1 r.c1) ∧ W.cell? ⟨w5.heap.size, 1, none⟩ = some (.slice r.a2 r.n2 r.c2) ∧ W.cell? ⟨w5.heap.size, 2, none⟩ = some (.slice r.a3 r.n3 r.c3)) ∧ (W.cell? ⟨w7.heap.size, 0, none⟩ = some (.slice r2.a1 r2.n1 r2.c1) ∧ W.cell? ⟨w7.heap.size, 1, none⟩ = some (.slice r2.a2 r2.n2 r2.c2) ∧ W.cell? ⟨w7.heap.size, 2, none⟩ = some (.slice none 0 0))) ∧ (r.In W ∧ r2.opened.In W) ∧ Below w.heap.size w W) := fun W h => by
    obtain ⟨h0, h1, h2, h3⟩ := one_sv w7 r2.opened W h
    obtain ⟨⟨k1, k2⟩, k3, k4⟩ := HW.out W (ext_trans hb7 h3)
    exact ⟨⟨k1, k2, h0, h1, h2⟩, ⟨k3, (hr2.below h3).opened⟩, k4⟩
  obtain ⟨W7, hW7⟩ : ∃ W, W = w7.alloc (Obj.cells #[.slice r2.a1 r2.n1 r2.c1, .slice r2.a2 r2.n2 r2.c2, .slice none 0 0] 24) := ⟨_, rfl⟩
  rw [← hW7] at HU ⊢
  clear hW7 hb7 hr2 HW
  have HX : Hid _ := HR.out.mem HP0.out.1.1 HP0.out.1.2.1 HP0.out.1.2.2
  have HY : Hid _ := HR2.out.mem HP1.out.1.1 HP1.out.1.2.1 HP1.out.1.2.2
  have HYS : Hid _ := HR2.out.srt HP1.out.1.1 HP1.out.1.2.1 HP1.out.1.2.2
  obtain ⟨qa, Hqa⟩ := bool_for (SeesP r y.opened)
  obtain ⟨qb, Hqb⟩ := bool_for (TurnsP r y.opened)
  obtain ⟨qc, Hqc⟩ := bool_for (SeesP x y.opened)
  obtain ⟨qd, Hqd⟩ := bool_for (TurnsP x y.opened)
  have Ha2 : Hid (qa = true ↔ SeesP r r2.opened) := Hqa.out.trans (own_sees_same (s := r2.opened) (y := y.opened) HX.out HY.out.1 HY.out.2.1).symm
  have Hb2 : Hid (qb = true ↔ TurnsP r r2.opened) := Hqb.out.trans (own_turns_same (s := r2.opened) (y := y.opened) HX.out HY.out.1 HY.out.2.1).symm
  have Ia : Hid (qc = true → qa = true) := fun h => Hqa.out.2 (own_sees_more HX.out (Hqc.out.1 h))
  have Ib : Hid (qd = true → qb = true) := fun h => Hqb.out.2 (own_turns_more HX.out (Hqd.out.1 h))
  have hB := ext_drew W7
  cases qc
  · cases qd
    · refine wp_region_noPanic ?_
      refine wp_region_held_drew (S := fun W => Below W7.heap.size W7 W) (by kernel_rfl) hB fun hS => ?_
      refine take_to (i := 0) (v := ?_) 30 rfl rfl (by kernel_rfl) (by kernel_rfl) (by kernel_rfl) (fun _ _ _ h => h) (Or.inl ⟨by rfl, ?_⟩) hS ?_
      rotate_left
      · intro W hW
        obtain ⟨⟨⟨c00, c01, c02, c10, c11, c12⟩, ⟨d0, d1, d2⟩, e0, e1, e2⟩, _, _⟩ := HU.out W hW
        go_simp
        try with_reducible rfl
      simp only [List.setIfInBounds_toArray, List.set_cons_zero, List.set_cons_succ]
      refine take_to (i := 1) (v := ?_) 31 rfl rfl (by kernel_rfl) (by kernel_rfl) (by kernel_rfl) (fun _ _ _ h => h) (Or.inl ⟨by rfl, ?_⟩) hS ?_
      rotate_left
      · intro W hW
        obtain ⟨⟨⟨c00, c01, c02, c10, c11, c12⟩, ⟨d0, d1, d2⟩, e0, e1, e2⟩, _, _⟩ := HU.out W hW
        go_simp
        try with_reducible rfl
      simp only [List.setIfInBounds_toArray, List.set_cons_zero, List.set_cons_succ]
      refine take_to (i := 3) (v := ?_) 33 rfl rfl (by kernel_rfl) (by kernel_rfl) (by kernel_rfl) (fun _ _ _ h => h) (Or.inl ⟨by rfl, ?_⟩) hS ?_
      rotate_left
      · intro W hW
        obtain ⟨⟨⟨c00, c01, c02, c10, c11, c12⟩, ⟨d0, d1, d2⟩, e0, e1, e2⟩, _, _⟩ := HU.out W hW
        go_simp
        try with_reducible rfl
      simp only [List.setIfInBounds_toArray, List.set_cons_zero, List.set_cons_succ]
      refine take_to (i := 4) (v := ?_) 34 rfl rfl (by kernel_rfl) (by kernel_rfl) (by kernel_rfl) (fun _ _ _ h => h) (Or.inl ⟨by rfl, ?_⟩) hS ?_
      rotate_left
      · intro W hW
        obtain ⟨⟨⟨c00, c01, c02, c10, c11, c12⟩, ⟨d0, d1, d2⟩, e0, e1, e2⟩, _, _⟩ := HU.out W hW
        go_simp
        try with_reducible rfl
      simp only [List.setIfInBounds_toArray, List.set_cons_zero, List.set_cons_succ]
      refine wpAnyH_ready (rs := [2]) (by kernel_rfl) (by simp) ?_
      refine AllReadyH.cons rfl (fun K hK => ?_) AllReadyH.nil
      go_simp
      obtain ⟨_, ⟨hri, hrj⟩, bw⟩ := HU.out _ hB
      refine (sees2_is qa Hqa _ (Sm.of hri HPr.out) (Sm.of (hy.below bw).opened HP1.out)).mono ?_
      rintro e v0 ⟨rfl, ha0⟩
      replace ha0 := ext_trans hB ha0
      clear bw hri hrj
      refine hK.out _ _ ha0 fun hS => ?_
      clear hK K
      refine wpAnyH_ready (rs := [5]) (by kernel_rfl) (by simp) ?_
      refine AllReadyH.cons rfl (fun K hK => ?_) AllReadyH.nil
      go_simp
      obtain ⟨_, ⟨hri, hrj⟩, bw⟩ := HU.out _ ha0
      refine (sees2_is qa Ha2 _ (Sm.of hri HPr.out) (⟨hrj, HYS.out.1, HYS.out.2.1, Srt.nil, by show r2.n1 ≤ _; omega, by show r2.n2 ≤ _; omega, Nat.zero_le _⟩ : Sm r2.opened _)).mono ?_
      rintro e v1 ⟨rfl, ha1⟩
      replace ha1 := ext_trans ha0 ha1
      clear bw hri hrj
      refine hK.out _ _ ha1 fun hS => ?_
      clear hK K
      refine take_to (i := 6) (v := ?_) 36 rfl rfl (by kernel_rfl) (by kernel_rfl) (by kernel_rfl) (fun _ _ _ h => h) (Or.inl ⟨by rfl, ?_⟩) hS ?_
      rotate_left
      · intro W hW
        obtain ⟨⟨⟨c00, c01, c02, c10, c11, c12⟩, ⟨d0, d1, d2⟩, e0, e1, e2⟩, _, _⟩ := HU.out W hW
        go_simp
        try with_reducible rfl
      simp only [List.setIfInBounds_toArray, List.set_cons_zero, List.set_cons_succ]
      refine take_to (i := 7) (v := ?_) 37 rfl rfl (by kernel_rfl) (by kernel_rfl) (by kernel_rfl) (fun _ _ _ h => h) (Or.inl ⟨by rfl, ?_⟩) hS ?_
      rotate_left
      · intro W hW
        obtain ⟨⟨⟨c00, c01, c02, c10, c11, c12⟩, ⟨d0, d1, d2⟩, e0, e1, e2⟩, _, _⟩ := HU.out W hW
        go_simp
        try with_reducible rfl
      simp only [List.setIfInBounds_toArray, List.set_cons_zero, List.set_cons_succ]
      refine take_to (i := 8) (v := ?_) 38 rfl rfl (by kernel_rfl) (by kernel_rfl) (by kernel_rfl) (fun _ _ _ h => h) (Or.inl ⟨by rfl, ?_⟩) hS ?_
      rotate_left
      · intro W hW
        obtain ⟨⟨⟨c00, c01, c02, c10, c11, c12⟩, ⟨d0, d1, d2⟩, e0, e1, e2⟩, _, _⟩ := HU.out W hW
        go_simp
        try with_reducible rfl
      simp only [List.setIfInBounds_toArray, List.set_cons_zero, List.set_cons_succ]
      refine take_to (i := 9) (v := ?_) 39 rfl rfl (by kernel_rfl) (by kernel_rfl) (by kernel_rfl) (fun _ _ _ h => h) (Or.inl ⟨by rfl, ?_⟩) hS ?_
      rotate_left
      · intro W hW
        obtain ⟨⟨⟨c00, c01, c02, c10, c11, c12⟩, ⟨d0, d1, d2⟩, e0, e1, e2⟩, _, _⟩ := HU.out W hW
        go_simp
        try with_reducible rfl
      simp only [List.setIfInBounds_toArray, List.set_cons_zero, List.set_cons_succ]
      refine take_to (i := 11) (v := ?_) 41 rfl rfl (by kernel_rfl) (by kernel_rfl) (by kernel_rfl) (fun _ _ _ h => h) (Or.inl ⟨by rfl, ?_⟩) hS ?_
      rotate_left
      · intro W hW
        obtain ⟨⟨⟨c00, c01, c02, c10, c11, c12⟩, ⟨d0, d1, d2⟩, e0, e1, e2⟩, _, _⟩ := HU.out W hW
        go_simp
        try with_reducible rfl
      simp only [List.setIfInBounds_toArray, List.set_cons_zero, List.set_cons_succ]
      refine take_to (i := 12) (v := ?_) 42 rfl rfl (by kernel_rfl) (by kernel_rfl) (by kernel_rfl) (fun _ _ _ h => h) (Or.inl ⟨by rfl, ?_⟩) hS ?_
      rotate_left
      · intro W hW
        obtain ⟨⟨⟨c00, c01, c02, c10, c11, c12⟩, ⟨d0, d1, d2⟩, e0, e1, e2⟩, _, _⟩ := HU.out W hW
        go_simp
        try with_reducible rfl
      simp only [List.setIfInBounds_toArray, List.set_cons_zero, List.set_cons_succ]
      refine wpAnyH_ready (rs := [10]) (by kernel_rfl) (by simp) ?_
      refine AllReadyH.cons rfl (fun K hK => ?_) AllReadyH.nil
      go_simp
      obtain ⟨_, ⟨hri, hrj⟩, bw⟩ := HU.out _ ha1
      refine (turns2_is qb Hqb _ (Sm.of hri HPr.out) (Sm.of (hy.below bw).opened HP1.out)).mono ?_
      rintro e v2 ⟨rfl, ha2⟩
      replace ha2 := ext_trans ha1 ha2
      clear bw hri hrj
      refine hK.out _ _ ha2 fun hS => ?_
      clear hK K
      refine wpAnyH_ready (rs := [13]) (by kernel_rfl) (by simp) ?_
      refine AllReadyH.cons rfl (fun K hK => ?_) AllReadyH.nil
      go_simp
      obtain ⟨_, ⟨hri, hrj⟩, bw⟩ := HU.out _ ha2
      refine (turns2_is qb Hb2 _ (Sm.of hri HPr.out) (⟨hrj, HYS.out.1, HYS.out.2.1, Srt.nil, by show r2.n1 ≤ _; omega, by show r2.n2 ≤ _; omega, Nat.zero_le _⟩ : Sm r2.opened _)).mono ?_
      rintro e v3 ⟨rfl, ha3⟩
      replace ha3 := ext_trans ha2 ha3
      clear bw hri hrj
      refine hK.out _ _ ha3 fun hS => ?_
      clear hK K
      refine take_to (i := 14) (v := ?_) 44 rfl rfl (by kernel_rfl) (by kernel_rfl) (by kernel_rfl) (fun _ _ _ h => h) (Or.inl ⟨by rfl, ?_⟩) hS ?_
      rotate_left
      · intro W hW
        obtain ⟨⟨⟨c00, c01, c02, c10, c11, c12⟩, ⟨d0, d1, d2⟩, e0, e1, e2⟩, _, _⟩ := HU.out W hW
        go_simp
        try with_reducible rfl
      simp only [List.setIfInBounds_toArray, List.set_cons_zero, List.set_cons_succ]
      refine take_to (i := 15) (v := ?_) 45 rfl rfl (by kernel_rfl) (by kernel_rfl) (by kernel_rfl) (fun _ _ _ h => h) (Or.inl ⟨by rfl, ?_⟩) hS ?_
      rotate_left
      · intro W hW
        obtain ⟨⟨⟨c00, c01, c02, c10, c11, c12⟩, ⟨d0, d1, d2⟩, e0, e1, e2⟩, _, _⟩ := HU.out W hW
        go_simp
        try with_reducible rfl
      simp only [List.setIfInBounds_toArray, List.set_cons_zero, List.set_cons_succ]
      refine take_to (i := 16) (v := ?_) 46 rfl rfl (by kernel_rfl) (by kernel_rfl) (by kernel_rfl) (fun _ _ _ h => h) (Or.inl ⟨by rfl, ?_⟩) hS ?_
      rotate_left
      · intro W hW
        obtain ⟨⟨⟨c00, c01, c02, c10, c11, c12⟩, ⟨d0, d1, d2⟩, e0, e1, e2⟩, _, _⟩ := HU.out W hW
        go_simp
        try with_reducible rfl
      simp only [List.setIfInBounds_toArray, List.set_cons_zero, List.set_cons_succ]
      refine take_to (i := 17) (v := ?_) 47 rfl rfl (by kernel_rfl) (by kernel_rfl) (by kernel_rfl) (fun _ _ _ h => h) (Or.inl ⟨by rfl, ?_⟩) hS ?_
      rotate_left
      · intro W hW
        obtain ⟨⟨⟨c00, c01, c02, c10, c11, c12⟩, ⟨d0, d1, d2⟩, e0, e1, e2⟩, _, _⟩ := HU.out W hW
        go_simp
        try with_reducible rfl
      simp only [List.setIfInBounds_toArray, List.set_cons_zero, List.set_cons_succ]
      refine take_to (i := 18) (v := ?_) 48 rfl rfl (by kernel_rfl) (by kernel_rfl) (by kernel_rfl) (fun _ _ _ h => h) (Or.inl ⟨by rfl, ?_⟩) hS ?_
      rotate_left
      · intro W hW
        obtain ⟨⟨⟨c00, c01, c02, c10, c11, c12⟩, ⟨d0, d1, d2⟩, e0, e1, e2⟩, _, _⟩ := HU.out W hW
        go_simp
        try with_reducible rfl
      simp only [List.setIfInBounds_toArray, List.set_cons_zero, List.set_cons_succ]
      refine wpAnyH_ready (rs := [19]) (by kernel_rfl) (by simp) ?_
      refine AllReadyH.cons rfl (fun K hK => ?_) AllReadyH.nil
      go_simp
      obtain ⟨_, ⟨hri, hrj⟩, bw⟩ := HU.out _ ha3
      refine (sees2_is false Hqc _ (Sm.of (hx.below bw) HP0.out) (Sm.of (hy.below bw).opened HP1.out)).mono ?_
      rintro e v4 ⟨rfl, ha4⟩
      replace ha4 := ext_trans ha3 ha4
      clear bw hri hrj
      refine hK.out _ _ ha4 fun hS => ?_
      clear hK K
      refine take_to (i := 20) (v := ?_) 50 rfl rfl (by kernel_rfl) (by kernel_rfl) (by kernel_rfl) (fun _ _ _ h => h) (Or.inl ⟨by rfl, ?_⟩) hS ?_
      rotate_left
      · intro W hW
        obtain ⟨⟨⟨c00, c01, c02, c10, c11, c12⟩, ⟨d0, d1, d2⟩, e0, e1, e2⟩, _, _⟩ := HU.out W hW
        go_simp
        try with_reducible rfl
      simp only [List.setIfInBounds_toArray, List.set_cons_zero, List.set_cons_succ]
      refine take_to (i := 21) (v := ?_) 51 rfl rfl (by kernel_rfl) (by kernel_rfl) (by kernel_rfl) (fun _ _ _ h => h) (Or.inl ⟨by rfl, ?_⟩) hS ?_
      rotate_left
      · intro W hW
        obtain ⟨⟨⟨c00, c01, c02, c10, c11, c12⟩, ⟨d0, d1, d2⟩, e0, e1, e2⟩, _, _⟩ := HU.out W hW
        go_simp
        try with_reducible rfl
      simp only [List.setIfInBounds_toArray, List.set_cons_zero, List.set_cons_succ]
      refine take_to (i := 22) (v := undef) 52 rfl rfl (by kernel_rfl) (by kernel_rfl) (by kernel_rfl) (fun _ _ _ h => h) (Or.inr ⟨by rfl, rfl⟩) hS ?_
      simp only [List.setIfInBounds_toArray, List.set_cons_zero, List.set_cons_succ]
      refine take_to (i := 23) (v := undef) 53 rfl rfl (by kernel_rfl) (by kernel_rfl) (by kernel_rfl) (fun _ _ _ h => h) (Or.inr ⟨by rfl, rfl⟩) hS ?_
      simp only [List.setIfInBounds_toArray, List.set_cons_zero, List.set_cons_succ]
      refine take_to (i := 24) (v := undef) 54 rfl rfl (by kernel_rfl) (by kernel_rfl) (by kernel_rfl) (fun _ _ _ h => h) (Or.inr ⟨by rfl, rfl⟩) hS ?_
      simp only [List.setIfInBounds_toArray, List.set_cons_zero, List.set_cons_succ]
      refine take_to (i := 25) (v := ?_) 55 rfl rfl (by kernel_rfl) (by kernel_rfl) (by kernel_rfl) (fun _ _ _ h => h) (Or.inl ⟨by rfl, ?_⟩) hS ?_
      rotate_left
      · intro W hW
        obtain ⟨⟨⟨c00, c01, c02, c10, c11, c12⟩, ⟨d0, d1, d2⟩, e0, e1, e2⟩, _, _⟩ := HU.out W hW
        go_simp
        try with_reducible rfl
      simp only [List.setIfInBounds_toArray, List.set_cons_zero, List.set_cons_succ]
      refine take_to (i := 26) (v := ?_) 56 rfl rfl (by kernel_rfl) (by kernel_rfl) (by kernel_rfl) (fun _ _ _ h => h) (Or.inl ⟨by rfl, ?_⟩) hS ?_
      rotate_left
      · intro W hW
        obtain ⟨⟨⟨c00, c01, c02, c10, c11, c12⟩, ⟨d0, d1, d2⟩, e0, e1, e2⟩, _, _⟩ := HU.out W hW
        go_simp
        try with_reducible rfl
      simp only [List.setIfInBounds_toArray, List.set_cons_zero, List.set_cons_succ]
      refine take_to (i := 27) (v := ?_) 57 rfl rfl (by kernel_rfl) (by kernel_rfl) (by kernel_rfl) (fun _ _ _ h => h) (Or.inl ⟨by rfl, ?_⟩) hS ?_
      rotate_left
      · intro W hW
        obtain ⟨⟨⟨c00, c01, c02, c10, c11, c12⟩, ⟨d0, d1, d2⟩, e0, e1, e2⟩, _, _⟩ := HU.out W hW
        go_simp
        try with_reducible rfl
      simp only [List.setIfInBounds_toArray, List.set_cons_zero, List.set_cons_succ]
      refine take_to (i := 28) (v := ?_) 58 rfl rfl (by kernel_rfl) (by kernel_rfl) (by kernel_rfl) (fun _ _ _ h => h) (Or.inl ⟨by rfl, ?_⟩) hS ?_
      rotate_left
      · intro W hW
        obtain ⟨⟨⟨c00, c01, c02, c10, c11, c12⟩, ⟨d0, d1, d2⟩, e0, e1, e2⟩, _, _⟩ := HU.out W hW
        go_simp
        try with_reducible rfl
      simp only [List.setIfInBounds_toArray, List.set_cons_zero, List.set_cons_succ]
      refine take_to (i := 29) (v := ?_) 59 rfl rfl (by kernel_rfl) (by kernel_rfl) (by kernel_rfl) (fun _ _ _ h => h) (Or.inl ⟨by rfl, ?_⟩) hS ?_
      rotate_left
      · intro W hW
        obtain ⟨⟨⟨c00, c01, c02, c10, c11, c12⟩, ⟨d0, d1, d2⟩, e0, e1, e2⟩, _, _⟩ := HU.out W hW
        go_simp
        try with_reducible rfl
      simp only [List.setIfInBounds_toArray, List.set_cons_zero, List.set_cons_succ]
      refine wpAnyH_ready (rs := [30]) (by kernel_rfl) (by simp) ?_
      refine AllReadyH.cons rfl (fun K hK => ?_) AllReadyH.nil
      go_simp
      obtain ⟨_, ⟨hri, hrj⟩, bw⟩ := HU.out _ ha4
      refine (turns2_is false Hqd _ (Sm.of (hx.below bw) HP0.out) (Sm.of (hy.below bw).opened HP1.out)).mono ?_
      rintro e v6 ⟨rfl, ha6⟩
      replace ha6 := ext_trans ha4 ha6
      clear bw hri hrj
      refine hK.out _ _ ha6 fun hS => ?_
      clear hK K
      refine take_to (i := 31) (v := ?_) 61 rfl rfl (by kernel_rfl) (by kernel_rfl) (by kernel_rfl) (fun _ _ _ h => h) (Or.inl ⟨by rfl, ?_⟩) hS ?_
      rotate_left
      · intro W hW
        obtain ⟨⟨⟨c00, c01, c02, c10, c11, c12⟩, ⟨d0, d1, d2⟩, e0, e1, e2⟩, _, _⟩ := HU.out W hW
        go_simp
        try with_reducible rfl
      simp only [List.setIfInBounds_toArray, List.set_cons_zero, List.set_cons_succ]
      refine take_to (i := 32) (v := ?_) 62 rfl rfl (by kernel_rfl) (by kernel_rfl) (by kernel_rfl) (fun _ _ _ h => h) (Or.inl ⟨by rfl, ?_⟩) hS ?_
      rotate_left
      · intro W hW
        obtain ⟨⟨⟨c00, c01, c02, c10, c11, c12⟩, ⟨d0, d1, d2⟩, e0, e1, e2⟩, _, _⟩ := HU.out W hW
        go_simp
        try with_reducible rfl
      simp only [List.setIfInBounds_toArray, List.set_cons_zero, List.set_cons_succ]
      refine take_to (i := 33) (v := undef) 63 rfl rfl (by kernel_rfl) (by kernel_rfl) (by kernel_rfl) (fun _ _ _ h => h) (Or.inr ⟨by rfl, rfl⟩) hS ?_
      simp only [List.setIfInBounds_toArray, List.set_cons_zero, List.set_cons_succ]
      refine take_to (i := 34) (v := undef) 64 rfl rfl (by kernel_rfl) (by kernel_rfl) (by kernel_rfl) (fun _ _ _ h => h) (Or.inr ⟨by rfl, rfl⟩) hS ?_
      simp only [List.setIfInBounds_toArray, List.set_cons_zero, List.set_cons_succ]
      refine take_to (i := 35) (v := undef) 65 rfl rfl (by kernel_rfl) (by kernel_rfl) (by kernel_rfl) (fun _ _ _ h => h) (Or.inr ⟨by rfl, rfl⟩) hS ?_
      simp only [List.setIfInBounds_toArray, List.set_cons_zero, List.set_cons_succ]
      refine take_to (i := 36) (v := ?_) 66 rfl rfl (by kernel_rfl) (by kernel_rfl) (by kernel_rfl) (fun _ _ _ h => h) (Or.inl ⟨by rfl, ?_⟩) hS ?_
      rotate_left
      · intro W hW
        obtain ⟨⟨⟨c00, c01, c02, c10, c11, c12⟩, ⟨d0, d1, d2⟩, e0, e1, e2⟩, _, _⟩ := HU.out W hW
        go_simp
        try with_reducible rfl
      simp only [List.setIfInBounds_toArray, List.set_cons_zero, List.set_cons_succ]
      refine take_to (i := 37) (v := ?_) 67 rfl rfl (by kernel_rfl) (by kernel_rfl) (by kernel_rfl) (fun _ _ _ h => h) (Or.inl ⟨by rfl, ?_⟩) hS ?_
      rotate_left
      · intro W hW
        obtain ⟨⟨⟨c00, c01, c02, c10, c11, c12⟩, ⟨d0, d1, d2⟩, e0, e1, e2⟩, _, _⟩ := HU.out W hW
        go_simp
        try with_reducible rfl
      simp only [List.setIfInBounds_toArray, List.set_cons_zero, List.set_cons_succ]
      refine take_to (i := 38) (v := ?_) 6 rfl rfl (by kernel_rfl) (by kernel_rfl) (by kernel_rfl) (fun _ _ _ h => h) (Or.inl ⟨by rfl, ?_⟩) hS ?_
      rotate_left
      · intro W hW
        obtain ⟨⟨⟨c00, c01, c02, c10, c11, c12⟩, ⟨d0, d1, d2⟩, e0, e1, e2⟩, _, _⟩ := HU.out W hW
        go_simp
        try with_reducible rfl
      simp only [List.setIfInBounds_toArray, List.set_cons_zero, List.set_cons_succ]
      refine wpAnyH_done (by kernel_rfl) ?_ _
      refine NoPanic.normal ?_
      obtain ⟨_, _, bw⟩ := HU.out _ ha6
      go_wp2_with fail
      go_ret
      exact ⟨rfl, bw⟩
    · obtain rfl : qb = true := Ib.out rfl
      refine wp_region_noPanic ?_
      refine wp_region_held_drew (S := fun W => Below W7.heap.size W7 W) (by kernel_rfl) hB fun hS => ?_
      refine take_to (i := 0) (v := ?_) 30 rfl rfl (by kernel_rfl) (by kernel_rfl) (by kernel_rfl) (fun _ _ _ h => h) (Or.inl ⟨by rfl, ?_⟩) hS ?_
      rotate_left
      · intro W hW
        obtain ⟨⟨⟨c00, c01, c02, c10, c11, c12⟩, ⟨d0, d1, d2⟩, e0, e1, e2⟩, _, _⟩ := HU.out W hW
        go_simp
        try with_reducible rfl
      simp only [List.setIfInBounds_toArray, List.set_cons_zero, List.set_cons_succ]
      refine take_to (i := 1) (v := ?_) 31 rfl rfl (by kernel_rfl) (by kernel_rfl) (by kernel_rfl) (fun _ _ _ h => h) (Or.inl ⟨by rfl, ?_⟩) hS ?_
      rotate_left
      · intro W hW
        obtain ⟨⟨⟨c00, c01, c02, c10, c11, c12⟩, ⟨d0, d1, d2⟩, e0, e1, e2⟩, _, _⟩ := HU.out W hW
        go_simp
        try with_reducible rfl
      simp only [List.setIfInBounds_toArray, List.set_cons_zero, List.set_cons_succ]
      refine take_to (i := 3) (v := ?_) 33 rfl rfl (by kernel_rfl) (by kernel_rfl) (by kernel_rfl) (fun _ _ _ h => h) (Or.inl ⟨by rfl, ?_⟩) hS ?_
      rotate_left
      · intro W hW
        obtain ⟨⟨⟨c00, c01, c02, c10, c11, c12⟩, ⟨d0, d1, d2⟩, e0, e1, e2⟩, _, _⟩ := HU.out W hW
        go_simp
        try with_reducible rfl
      simp only [List.setIfInBounds_toArray, List.set_cons_zero, List.set_cons_succ]
      refine take_to (i := 4) (v := ?_) 34 rfl rfl (by kernel_rfl) (by kernel_rfl) (by kernel_rfl) (fun _ _ _ h => h) (Or.inl ⟨by rfl, ?_⟩) hS ?_
      rotate_left
      · intro W hW
        obtain ⟨⟨⟨c00, c01, c02, c10, c11, c12⟩, ⟨d0, d1, d2⟩, e0, e1, e2⟩, _, _⟩ := HU.out W hW
        go_simp
        try with_reducible rfl
      simp only [List.setIfInBounds_toArray, List.set_cons_zero, List.set_cons_succ]
      refine wpAnyH_ready (rs := [2]) (by kernel_rfl) (by simp) ?_
      refine AllReadyH.cons rfl (fun K hK => ?_) AllReadyH.nil
      go_simp
      obtain ⟨_, ⟨hri, hrj⟩, bw⟩ := HU.out _ hB
      refine (sees2_is qa Hqa _ (Sm.of hri HPr.out) (Sm.of (hy.below bw).opened HP1.out)).mono ?_
      rintro e v0 ⟨rfl, ha0⟩
      replace ha0 := ext_trans hB ha0
      clear bw hri hrj
      refine hK.out _ _ ha0 fun hS => ?_
      clear hK K
      refine wpAnyH_ready (rs := [5]) (by kernel_rfl) (by simp) ?_
      refine AllReadyH.cons rfl (fun K hK => ?_) AllReadyH.nil
      go_simp
      obtain ⟨_, ⟨hri, hrj⟩, bw⟩ := HU.out _ ha0
      refine (sees2_is qa Ha2 _ (Sm.of hri HPr.out) (⟨hrj, HYS.out.1, HYS.out.2.1, Srt.nil, by show r2.n1 ≤ _; omega, by show r2.n2 ≤ _; omega, Nat.zero_le _⟩ : Sm r2.opened _)).mono ?_
      rintro e v1 ⟨rfl, ha1⟩
      replace ha1 := ext_trans ha0 ha1
      clear bw hri hrj
      refine hK.out _ _ ha1 fun hS => ?_
      clear hK K
      refine take_to (i := 6) (v := ?_) 36 rfl rfl (by kernel_rfl) (by kernel_rfl) (by kernel_rfl) (fun _ _ _ h => h) (Or.inl ⟨by rfl, ?_⟩) hS ?_
      rotate_left
      · intro W hW
        obtain ⟨⟨⟨c00, c01, c02, c10, c11, c12⟩, ⟨d0, d1, d2⟩, e0, e1, e2⟩, _, _⟩ := HU.out W hW
        go_simp
        try with_reducible rfl
      simp only [List.setIfInBounds_toArray, List.set_cons_zero, List.set_cons_succ]
      refine take_to (i := 7) (v := ?_) 37 rfl rfl (by kernel_rfl) (by kernel_rfl) (by kernel_rfl) (fun _ _ _ h => h) (Or.inl ⟨by rfl, ?_⟩) hS ?_
      rotate_left
      · intro W hW
        obtain ⟨⟨⟨c00, c01, c02, c10, c11, c12⟩, ⟨d0, d1, d2⟩, e0, e1, e2⟩, _, _⟩ := HU.out W hW
        go_simp
        try with_reducible rfl
      simp only [List.setIfInBounds_toArray, List.set_cons_zero, List.set_cons_succ]
      refine take_to (i := 8) (v := ?_) 38 rfl rfl (by kernel_rfl) (by kernel_rfl) (by kernel_rfl) (fun _ _ _ h => h) (Or.inl ⟨by rfl, ?_⟩) hS ?_
      rotate_left
      · intro W hW
        obtain ⟨⟨⟨c00, c01, c02, c10, c11, c12⟩, ⟨d0, d1, d2⟩, e0, e1, e2⟩, _, _⟩ := HU.out W hW
        go_simp
        try with_reducible rfl
      simp only [List.setIfInBounds_toArray, List.set_cons_zero, List.set_cons_succ]
      refine take_to (i := 9) (v := ?_) 39 rfl rfl (by kernel_rfl) (by kernel_rfl) (by kernel_rfl) (fun _ _ _ h => h) (Or.inl ⟨by rfl, ?_⟩) hS ?_
      rotate_left
      · intro W hW
        obtain ⟨⟨⟨c00, c01, c02, c10, c11, c12⟩, ⟨d0, d1, d2⟩, e0, e1, e2⟩, _, _⟩ := HU.out W hW
        go_simp
        try with_reducible rfl
      simp only [List.setIfInBounds_toArray, List.set_cons_zero, List.set_cons_succ]
      refine take_to (i := 11) (v := ?_) 41 rfl rfl (by kernel_rfl) (by kernel_rfl) (by kernel_rfl) (fun _ _ _ h => h) (Or.inl ⟨by rfl, ?_⟩) hS ?_
      rotate_left
      · intro W hW
        obtain ⟨⟨⟨c00, c01, c02, c10, c11, c12⟩, ⟨d0, d1, d2⟩, e0, e1, e2⟩, _, _⟩ := HU.out W hW
        go_simp
        try with_reducible rfl
      simp only [List.setIfInBounds_toArray, List.set_cons_zero, List.set_cons_succ]
      refine take_to (i := 12) (v := ?_) 42 rfl rfl (by kernel_rfl) (by kernel_rfl) (by kernel_rfl) (fun _ _ _ h => h) (Or.inl ⟨by rfl, ?_⟩) hS ?_
      rotate_left
      · intro W hW
        obtain ⟨⟨⟨c00, c01, c02, c10, c11, c12⟩, ⟨d0, d1, d2⟩, e0, e1, e2⟩, _, _⟩ := HU.out W hW
        go_simp
        try with_reducible rfl
      simp only [List.setIfInBounds_toArray, List.set_cons_zero, List.set_cons_succ]
      refine wpAnyH_ready (rs := [10]) (by kernel_rfl) (by simp) ?_
      refine AllReadyH.cons rfl (fun K hK => ?_) AllReadyH.nil
      go_simp
      obtain ⟨_, ⟨hri, hrj⟩, bw⟩ := HU.out _ ha1
      refine (turns2_is true Hqb _ (Sm.of hri HPr.out) (Sm.of (hy.below bw).opened HP1.out)).mono ?_
      rintro e v2 ⟨rfl, ha2⟩
      replace ha2 := ext_trans ha1 ha2
      clear bw hri hrj
      refine hK.out _ _ ha2 fun hS => ?_
      clear hK K
      refine wpAnyH_ready (rs := [13]) (by kernel_rfl) (by simp) ?_
      refine AllReadyH.cons rfl (fun K hK => ?_) AllReadyH.nil
      go_simp
      obtain ⟨_, ⟨hri, hrj⟩, bw⟩ := HU.out _ ha2
      refine (turns2_is true Hb2 _ (Sm.of hri HPr.out) (⟨hrj, HYS.out.1, HYS.out.2.1, Srt.nil, by show r2.n1 ≤ _; omega, by show r2.n2 ≤ _; omega, Nat.zero_le _⟩ : Sm r2.opened _)).mono ?_
      rintro e v3 ⟨rfl, ha3⟩
      replace ha3 := ext_trans ha2 ha3
      clear bw hri hrj
      refine hK.out _ _ ha3 fun hS => ?_
      clear hK K
      refine take_to (i := 14) (v := ?_) 44 rfl rfl (by kernel_rfl) (by kernel_rfl) (by kernel_rfl) (fun _ _ _ h => h) (Or.inl ⟨by rfl, ?_⟩) hS ?_
      rotate_left
      · intro W hW
        obtain ⟨⟨⟨c00, c01, c02, c10, c11, c12⟩, ⟨d0, d1, d2⟩, e0, e1, e2⟩, _, _⟩ := HU.out W hW
        go_simp
        try with_reducible rfl
      simp only [List.setIfInBounds_toArray, List.set_cons_zero, List.set_cons_succ]
      refine take_to (i := 15) (v := ?_) 45 rfl rfl (by kernel_rfl) (by kernel_rfl) (by kernel_rfl) (fun _ _ _ h => h) (Or.inl ⟨by rfl, ?_⟩) hS ?_
      rotate_left
      · intro W hW
        obtain ⟨⟨⟨c00, c01, c02, c10, c11, c12⟩, ⟨d0, d1, d2⟩, e0, e1, e2⟩, _, _⟩ := HU.out W hW
        go_simp
        try with_reducible rfl
      simp only [List.setIfInBounds_toArray, List.set_cons_zero, List.set_cons_succ]
      refine take_to (i := 16) (v := ?_) 46 rfl rfl (by kernel_rfl) (by kernel_rfl) (by kernel_rfl) (fun _ _ _ h => h) (Or.inl ⟨by rfl, ?_⟩) hS ?_
      rotate_left
      · intro W hW
        obtain ⟨⟨⟨c00, c01, c02, c10, c11, c12⟩, ⟨d0, d1, d2⟩, e0, e1, e2⟩, _, _⟩ := HU.out W hW
        go_simp
        try with_reducible rfl
      simp only [List.setIfInBounds_toArray, List.set_cons_zero, List.set_cons_succ]
      refine take_to (i := 17) (v := ?_) 47 rfl rfl (by kernel_rfl) (by kernel_rfl) (by kernel_rfl) (fun _ _ _ h => h) (Or.inl ⟨by rfl, ?_⟩) hS ?_
      rotate_left
      · intro W hW
        obtain ⟨⟨⟨c00, c01, c02, c10, c11, c12⟩, ⟨d0, d1, d2⟩, e0, e1, e2⟩, _, _⟩ := HU.out W hW
        go_simp
        try with_reducible rfl
      simp only [List.setIfInBounds_toArray, List.set_cons_zero, List.set_cons_succ]
      refine take_to (i := 18) (v := ?_) 48 rfl rfl (by kernel_rfl) (by kernel_rfl) (by kernel_rfl) (fun _ _ _ h => h) (Or.inl ⟨by rfl, ?_⟩) hS ?_
      rotate_left
      · intro W hW
        obtain ⟨⟨⟨c00, c01, c02, c10, c11, c12⟩, ⟨d0, d1, d2⟩, e0, e1, e2⟩, _, _⟩ := HU.out W hW
        go_simp
        try with_reducible rfl
      simp only [List.setIfInBounds_toArray, List.set_cons_zero, List.set_cons_succ]
      refine wpAnyH_ready (rs := [19]) (by kernel_rfl) (by simp) ?_
      refine AllReadyH.cons rfl (fun K hK => ?_) AllReadyH.nil
      go_simp
      obtain ⟨_, ⟨hri, hrj⟩, bw⟩ := HU.out _ ha3
      refine (sees2_is false Hqc _ (Sm.of (hx.below bw) HP0.out) (Sm.of (hy.below bw).opened HP1.out)).mono ?_
      rintro e v4 ⟨rfl, ha4⟩
      replace ha4 := ext_trans ha3 ha4
      clear bw hri hrj
      refine hK.out _ _ ha4 fun hS => ?_
      clear hK K
      refine take_to (i := 20) (v := ?_) 50 rfl rfl (by kernel_rfl) (by kernel_rfl) (by kernel_rfl) (fun _ _ _ h => h) (Or.inl ⟨by rfl, ?_⟩) hS ?_
      rotate_left
      · intro W hW
        obtain ⟨⟨⟨c00, c01, c02, c10, c11, c12⟩, ⟨d0, d1, d2⟩, e0, e1, e2⟩, _, _⟩ := HU.out W hW
        go_simp
        try with_reducible rfl
      simp only [List.setIfInBounds_toArray, List.set_cons_zero, List.set_cons_succ]
      refine take_to (i := 21) (v := ?_) 51 rfl rfl (by kernel_rfl) (by kernel_rfl) (by kernel_rfl) (fun _ _ _ h => h) (Or.inl ⟨by rfl, ?_⟩) hS ?_
      rotate_left
      · intro W hW
        obtain ⟨⟨⟨c00, c01, c02, c10, c11, c12⟩, ⟨d0, d1, d2⟩, e0, e1, e2⟩, _, _⟩ := HU.out W hW
        go_simp
        try with_reducible rfl
      simp only [List.setIfInBounds_toArray, List.set_cons_zero, List.set_cons_succ]
      refine take_to (i := 22) (v := undef) 52 rfl rfl (by kernel_rfl) (by kernel_rfl) (by kernel_rfl) (fun _ _ _ h => h) (Or.inr ⟨by rfl, rfl⟩) hS ?_
      simp only [List.setIfInBounds_toArray, List.set_cons_zero, List.set_cons_succ]
      refine take_to (i := 23) (v := undef) 53 rfl rfl (by kernel_rfl) (by kernel_rfl) (by kernel_rfl) (fun _ _ _ h => h) (Or.inr ⟨by rfl, rfl⟩) hS ?_
      simp only [List.setIfInBounds_toArray, List.set_cons_zero, List.set_cons_succ]
      refine take_to (i := 24) (v := undef) 54 rfl rfl (by kernel_rfl) (by kernel_rfl) (by kernel_rfl) (fun _ _ _ h => h) (Or.inr ⟨by rfl, rfl⟩) hS ?_
      simp only [List.setIfInBounds_toArray, List.set_cons_zero, List.set_cons_succ]
      refine take_to (i := 25) (v := ?_) 55 rfl rfl (by kernel_rfl) (by kernel_rfl) (by kernel_rfl) (fun _ _ _ h => h) (Or.inl ⟨by rfl, ?_⟩) hS ?_
      rotate_left
      · intro W hW
        obtain ⟨⟨⟨c00, c01, c02, c10, c11, c12⟩, ⟨d0, d1, d2⟩, e0, e1, e2⟩, _, _⟩ := HU.out W hW
        go_simp
        try with_reducible rfl
      simp only [List.setIfInBounds_toArray, List.set_cons_zero, List.set_cons_succ]
      refine take_to (i := 26) (v := ?_) 56 rfl rfl (by kernel_rfl) (by kernel_rfl) (by kernel_rfl) (fun _ _ _ h => h) (Or.inl ⟨by rfl, ?_⟩) hS ?_
      rotate_left
      · intro W hW
        obtain ⟨⟨⟨c00, c01, c02, c10, c11, c12⟩, ⟨d0, d1, d2⟩, e0, e1, e2⟩, _, _⟩ := HU.out W hW
        go_simp
        try with_reducible rfl
      simp only [List.setIfInBounds_toArray, List.set_cons_zero, List.set_cons_succ]
      refine take_to (i := 27) (v := ?_) 57 rfl rfl (by kernel_rfl) (by kernel_rfl) (by kernel_rfl) (fun _ _ _ h => h) (Or.inl ⟨by rfl, ?_⟩) hS ?_
      rotate_left
      · intro W hW
        obtain ⟨⟨⟨c00, c01, c02, c10, c11, c12⟩, ⟨d0, d1, d2⟩, e0, e1, e2⟩, _, _⟩ := HU.out W hW
        go_simp
        try with_reducible rfl
      simp only [List.setIfInBounds_toArray, List.set_cons_zero, List.set_cons_succ]
      refine take_to (i := 28) (v := ?_) 58 rfl rfl (by kernel_rfl) (by kernel_rfl) (by kernel_rfl) (fun _ _ _ h => h) (Or.inl ⟨by rfl, ?_⟩) hS ?_
      rotate_left
      · intro W hW
        obtain ⟨⟨⟨c00, c01, c02, c10, c11, c12⟩, ⟨d0, d1, d2⟩, e0, e1, e2⟩, _, _⟩ := HU.out W hW
        go_simp
        try with_reducible rfl
      simp only [List.setIfInBounds_toArray, List.set_cons_zero, List.set_cons_succ]
      refine take_to (i := 29) (v := ?_) 59 rfl rfl (by kernel_rfl) (by kernel_rfl) (by kernel_rfl) (fun _ _ _ h => h) (Or.inl ⟨by rfl, ?_⟩) hS ?_
      rotate_left
      · intro W hW
        obtain ⟨⟨⟨c00, c01, c02, c10, c11, c12⟩, ⟨d0, d1, d2⟩, e0, e1, e2⟩, _, _⟩ := HU.out W hW
        go_simp
        try with_reducible rfl
      simp only [List.setIfInBounds_toArray, List.set_cons_zero, List.set_cons_succ]
      refine wpAnyH_ready (rs := [30]) (by kernel_rfl) (by simp) ?_
      refine AllReadyH.cons rfl (fun K hK => ?_) AllReadyH.nil
      go_simp
      obtain ⟨_, ⟨hri, hrj⟩, bw⟩ := HU.out _ ha4
      refine (turns2_is true Hqd _ (Sm.of (hx.below bw) HP0.out) (Sm.of (hy.below bw).opened HP1.out)).mono ?_
      rintro e v6 ⟨rfl, ha6⟩
      replace ha6 := ext_trans ha4 ha6
      clear bw hri hrj
      refine hK.out _ _ ha6 fun hS => ?_
      clear hK K
      refine take_to (i := 31) (v := ?_) 61 rfl rfl (by kernel_rfl) (by kernel_rfl) (by kernel_rfl) (fun _ _ _ h => h) (Or.inl ⟨by rfl, ?_⟩) hS ?_
      rotate_left
      · intro W hW
        obtain ⟨⟨⟨c00, c01, c02, c10, c11, c12⟩, ⟨d0, d1, d2⟩, e0, e1, e2⟩, _, _⟩ := HU.out W hW
        go_simp
        try with_reducible rfl
      simp only [List.setIfInBounds_toArray, List.set_cons_zero, List.set_cons_succ]
      refine take_to (i := 32) (v := ?_) 62 rfl rfl (by kernel_rfl) (by kernel_rfl) (by kernel_rfl) (fun _ _ _ h => h) (Or.inl ⟨by rfl, ?_⟩) hS ?_
      rotate_left
      · intro W hW
        obtain ⟨⟨⟨c00, c01, c02, c10, c11, c12⟩, ⟨d0, d1, d2⟩, e0, e1, e2⟩, _, _⟩ := HU.out W hW
        go_simp
        try with_reducible rfl
      simp only [List.setIfInBounds_toArray, List.set_cons_zero, List.set_cons_succ]
      refine take_to (i := 33) (v := ?_) 63 rfl rfl (by kernel_rfl) (by kernel_rfl) (by kernel_rfl) (fun _ _ _ h => h) (Or.inl ⟨by rfl, ?_⟩) hS ?_
      rotate_left
      · intro W hW
        obtain ⟨⟨⟨c00, c01, c02, c10, c11, c12⟩, ⟨d0, d1, d2⟩, e0, e1, e2⟩, _, _⟩ := HU.out W hW
        go_simp
        try with_reducible rfl
      simp only [List.setIfInBounds_toArray, List.set_cons_zero, List.set_cons_succ]
      refine take_to (i := 34) (v := ?_) 64 rfl rfl (by kernel_rfl) (by kernel_rfl) (by kernel_rfl) (fun _ _ _ h => h) (Or.inl ⟨by rfl, ?_⟩) hS ?_
      rotate_left
      · intro W hW
        obtain ⟨⟨⟨c00, c01, c02, c10, c11, c12⟩, ⟨d0, d1, d2⟩, e0, e1, e2⟩, _, _⟩ := HU.out W hW
        go_simp
        try with_reducible rfl
      simp only [List.setIfInBounds_toArray, List.set_cons_zero, List.set_cons_succ]
      refine wpAnyH_ready (rs := [35]) (by kernel_rfl) (by simp) ?_
      refine AllReadyH.cons rfl (fun K hK => ?_) AllReadyH.nil
      go_simp
      obtain ⟨_, ⟨hri, hrj⟩, bw⟩ := HU.out _ ha6
      refine (turns2_is true Hqb _ (Sm.of hri HPr.out) (Sm.of (hy.below bw).opened HP1.out)).mono ?_
      rintro e v7 ⟨rfl, ha7⟩
      replace ha7 := ext_trans ha6 ha7
      clear bw hri hrj
      refine hK.out _ _ ha7 fun hS => ?_
      clear hK K
      refine take_to (i := 36) (v := ?_) 66 rfl rfl (by kernel_rfl) (by kernel_rfl) (by kernel_rfl) (fun _ _ _ h => h) (Or.inl ⟨by rfl, ?_⟩) hS ?_
      rotate_left
      · intro W hW
        obtain ⟨⟨⟨c00, c01, c02, c10, c11, c12⟩, ⟨d0, d1, d2⟩, e0, e1, e2⟩, _, _⟩ := HU.out W hW
        go_simp
        try with_reducible rfl
      simp only [List.setIfInBounds_toArray, List.set_cons_zero, List.set_cons_succ]
      refine take_to (i := 37) (v := ?_) 67 rfl rfl (by kernel_rfl) (by kernel_rfl) (by kernel_rfl) (fun _ _ _ h => h) (Or.inl ⟨by rfl, ?_⟩) hS ?_
      rotate_left
      · intro W hW
        obtain ⟨⟨⟨c00, c01, c02, c10, c11, c12⟩, ⟨d0, d1, d2⟩, e0, e1, e2⟩, _, _⟩ := HU.out W hW
        go_simp
        try with_reducible rfl
      simp only [List.setIfInBounds_toArray, List.set_cons_zero, List.set_cons_succ]
      refine take_to (i := 38) (v := ?_) 6 rfl rfl (by kernel_rfl) (by kernel_rfl) (by kernel_rfl) (fun _ _ _ h => h) (Or.inl ⟨by rfl, ?_⟩) hS ?_
      rotate_left
      · intro W hW
        obtain ⟨⟨⟨c00, c01, c02, c10, c11, c12⟩, ⟨d0, d1, d2⟩, e0, e1, e2⟩, _, _⟩ := HU.out W hW
        go_simp
        try with_reducible rfl
      simp only [List.setIfInBounds_toArray, List.set_cons_zero, List.set_cons_succ]
      refine wpAnyH_done (by kernel_rfl) ?_ _
      refine NoPanic.normal ?_
      obtain ⟨_, _, bw⟩ := HU.out _ ha7
      go_wp2_with fail
      go_ret
      exact ⟨rfl, bw⟩
  · obtain rfl : qa = true := Ia.out rfl
    cases qd
    · refine wp_region_noPanic ?_
      refine wp_region_held_drew (S := fun W => Below W7.heap.size W7 W) (by kernel_rfl) hB fun hS => ?_
      refine take_to (i := 0) (v := ?_) 30 rfl rfl (by kernel_rfl) (by kernel_rfl) (by kernel_rfl) (fun _ _ _ h => h) (Or.inl ⟨by rfl, ?_⟩) hS ?_
      rotate_left
      · intro W hW
        obtain ⟨⟨⟨c00, c01, c02, c10, c11, c12⟩, ⟨d0, d1, d2⟩, e0, e1, e2⟩, _, _⟩ := HU.out W hW
        go_simp
        try with_reducible rfl
      simp only [List.setIfInBounds_toArray, List.set_cons_zero, List.set_cons_succ]
      refine take_to (i := 1) (v := ?_) 31 rfl rfl (by kernel_rfl) (by kernel_rfl) (by kernel_rfl) (fun _ _ _ h => h) (Or.inl ⟨by rfl, ?_⟩) hS ?_
      rotate_left
      · intro W hW
        obtain ⟨⟨⟨c00, c01, c02, c10, c11, c12⟩, ⟨d0, d1, d2⟩, e0, e1, e2⟩, _, _⟩ := HU.out W hW
        go_simp
        try with_reducible rfl
      simp only [List.setIfInBounds_toArray, List.set_cons_zero, List.set_cons_succ]
      refine take_to (i := 3) (v := ?_) 33 rfl rfl (by kernel_rfl) (by kernel_rfl) (by kernel_rfl) (fun _ _ _ h => h) (Or.inl ⟨by rfl, ?_⟩) hS ?_
      rotate_left
      · intro W hW
        obtain ⟨⟨⟨c00, c01, c02, c10, c11, c12⟩, ⟨d0, d1, d2⟩, e0, e1, e2⟩, _, _⟩ := HU.out W hW
        go_simp
        try with_reducible rfl
      simp only [List.setIfInBounds_toArray, List.set_cons_zero, List.set_cons_succ]
      refine take_to (i := 4) (v := ?_) 34 rfl rfl (by kernel_rfl) (by kernel_rfl) (by kernel_rfl) (fun _ _ _ h => h) (Or.inl ⟨by rfl, ?_⟩) hS ?_
      rotate_left
      · intro W hW
        obtain ⟨⟨⟨c00, c01, c02, c10, c11, c12⟩, ⟨d0, d1, d2⟩, e0, e1, e2⟩, _, _⟩ := HU.out W hW
        go_simp
        try with_reducible rfl
      simp only [List.setIfInBounds_toArray, List.set_cons_zero, List.set_cons_succ]
      refine wpAnyH_ready (rs := [2]) (by kernel_rfl) (by simp) ?_
      refine AllReadyH.cons rfl (fun K hK => ?_) AllReadyH.nil
      go_simp
      obtain ⟨_, ⟨hri, hrj⟩, bw⟩ := HU.out _ hB
      refine (sees2_is true Hqa _ (Sm.of hri HPr.out) (Sm.of (hy.below bw).opened HP1.out)).mono ?_
      rintro e v0 ⟨rfl, ha0⟩
      replace ha0 := ext_trans hB ha0
      clear bw hri hrj
      refine hK.out _ _ ha0 fun hS => ?_
      clear hK K
      refine wpAnyH_ready (rs := [5]) (by kernel_rfl) (by simp) ?_
      refine AllReadyH.cons rfl (fun K hK => ?_) AllReadyH.nil
      go_simp
      obtain ⟨_, ⟨hri, hrj⟩, bw⟩ := HU.out _ ha0
      refine (sees2_is true Ha2 _ (Sm.of hri HPr.out) (⟨hrj, HYS.out.1, HYS.out.2.1, Srt.nil, by show r2.n1 ≤ _; omega, by show r2.n2 ≤ _; omega, Nat.zero_le _⟩ : Sm r2.opened _)).mono ?_
      rintro e v1 ⟨rfl, ha1⟩
      replace ha1 := ext_trans ha0 ha1
      clear bw hri hrj
      refine hK.out _ _ ha1 fun hS => ?_
      clear hK K
      refine take_to (i := 6) (v := ?_) 36 rfl rfl (by kernel_rfl) (by kernel_rfl) (by kernel_rfl) (fun _ _ _ h => h) (Or.inl ⟨by rfl, ?_⟩) hS ?_
      rotate_left
      · intro W hW
        obtain ⟨⟨⟨c00, c01, c02, c10, c11, c12⟩, ⟨d0, d1, d2⟩, e0, e1, e2⟩, _, _⟩ := HU.out W hW
        go_simp
        try with_reducible rfl
      simp only [List.setIfInBounds_toArray, List.set_cons_zero, List.set_cons_succ]
      refine take_to (i := 7) (v := ?_) 37 rfl rfl (by kernel_rfl) (by kernel_rfl) (by kernel_rfl) (fun _ _ _ h => h) (Or.inl ⟨by rfl, ?_⟩) hS ?_
      rotate_left
      · intro W hW
        obtain ⟨⟨⟨c00, c01, c02, c10, c11, c12⟩, ⟨d0, d1, d2⟩, e0, e1, e2⟩, _, _⟩ := HU.out W hW
        go_simp
        try with_reducible rfl
      simp only [List.setIfInBounds_toArray, List.set_cons_zero, List.set_cons_succ]
      refine take_to (i := 8) (v := ?_) 38 rfl rfl (by kernel_rfl) (by kernel_rfl) (by kernel_rfl) (fun _ _ _ h => h) (Or.inl ⟨by rfl, ?_⟩) hS ?_
      rotate_left
      · intro W hW
        obtain ⟨⟨⟨c00, c01, c02, c10, c11, c12⟩, ⟨d0, d1, d2⟩, e0, e1, e2⟩, _, _⟩ := HU.out W hW
        go_simp
        try with_reducible rfl
      simp only [List.setIfInBounds_toArray, List.set_cons_zero, List.set_cons_succ]
      refine take_to (i := 9) (v := ?_) 39 rfl rfl (by kernel_rfl) (by kernel_rfl) (by kernel_rfl) (fun _ _ _ h => h) (Or.inl ⟨by rfl, ?_⟩) hS ?_
      rotate_left
      · intro W hW
        obtain ⟨⟨⟨c00, c01, c02, c10, c11, c12⟩, ⟨d0, d1, d2⟩, e0, e1, e2⟩, _, _⟩ := HU.out W hW
        go_simp
        try with_reducible rfl
      simp only [List.setIfInBounds_toArray, List.set_cons_zero, List.set_cons_succ]
      refine take_to (i := 11) (v := ?_) 41 rfl rfl (by kernel_rfl) (by kernel_rfl) (by kernel_rfl) (fun _ _ _ h => h) (Or.inl ⟨by rfl, ?_⟩) hS ?_
      rotate_left
      · intro W hW
        obtain ⟨⟨⟨c00, c01, c02, c10, c11, c12⟩, ⟨d0, d1, d2⟩, e0, e1, e2⟩, _, _⟩ := HU.out W hW
        go_simp
        try with_reducible rfl
      simp only [List.setIfInBounds_toArray, List.set_cons_zero, List.set_cons_succ]
      refine take_to (i := 12) (v := ?_) 42 rfl rfl (by kernel_rfl) (by kernel_rfl) (by kernel_rfl) (fun _ _ _ h => h) (Or.inl ⟨by rfl, ?_⟩) hS ?_
      rotate_left
      · intro W hW
        obtain ⟨⟨⟨c00, c01, c02, c10, c11, c12⟩, ⟨d0, d1, d2⟩, e0, e1, e2⟩, _, _⟩ := HU.out W hW
        go_simp
        try with_reducible rfl
      simp only [List.setIfInBounds_toArray, List.set_cons_zero, List.set_cons_succ]
      refine wpAnyH_ready (rs := [10]) (by kernel_rfl) (by simp) ?_
      refine AllReadyH.cons rfl (fun K hK => ?_) AllReadyH.nil
      go_simp
      obtain ⟨_, ⟨hri, hrj⟩, bw⟩ := HU.out _ ha1
      refine (turns2_is qb Hqb _ (Sm.of hri HPr.out) (Sm.of (hy.below bw).opened HP1.out)).mono ?_
      rintro e v2 ⟨rfl, ha2⟩
      replace ha2 := ext_trans ha1 ha2
      clear bw hri hrj
      refine hK.out _ _ ha2 fun hS => ?_
      clear hK K
      refine wpAnyH_ready (rs := [13]) (by kernel_rfl) (by simp) ?_
      refine AllReadyH.cons rfl (fun K hK => ?_) AllReadyH.nil
      go_simp
      obtain ⟨_, ⟨hri, hrj⟩, bw⟩ := HU.out _ ha2
      refine (turns2_is qb Hb2 _ (Sm.of hri HPr.out) (⟨hrj, HYS.out.1, HYS.out.2.1, Srt.nil, by show r2.n1 ≤ _; omega, by show r2.n2 ≤ _; omega, Nat.zero_le _⟩ : Sm r2.opened _)).mono ?_
      rintro e v3 ⟨rfl, ha3⟩
      replace ha3 := ext_trans ha2 ha3
      clear bw hri hrj
      refine hK.out _ _ ha3 fun hS => ?_
      clear hK K
      refine take_to (i := 14) (v := ?_) 44 rfl rfl (by kernel_rfl) (by kernel_rfl) (by kernel_rfl) (fun _ _ _ h => h) (Or.inl ⟨by rfl, ?_⟩) hS ?_
      rotate_left
      · intro W hW
        obtain ⟨⟨⟨c00, c01, c02, c10, c11, c12⟩, ⟨d0, d1, d2⟩, e0, e1, e2⟩, _, _⟩ := HU.out W hW
        go_simp
        try with_reducible rfl
      simp only [List.setIfInBounds_toArray, List.set_cons_zero, List.set_cons_succ]
      refine take_to (i := 15) (v := ?_) 45 rfl rfl (by kernel_rfl) (by kernel_rfl) (by kernel_rfl) (fun _ _ _ h => h) (Or.inl ⟨by rfl, ?_⟩) hS ?_
      rotate_left
      · intro W hW
        obtain ⟨⟨⟨c00, c01, c02, c10, c11, c12⟩, ⟨d0, d1, d2⟩, e0, e1, e2⟩, _, _⟩ := HU.out W hW
        go_simp
        try with_reducible rfl
      simp only [List.setIfInBounds_toArray, List.set_cons_zero, List.set_cons_succ]
      refine take_to (i := 16) (v := ?_) 46 rfl rfl (by kernel_rfl) (by kernel_rfl) (by kernel_rfl) (fun _ _ _ h => h) (Or.inl ⟨by rfl, ?_⟩) hS ?_
      rotate_left
      · intro W hW
        obtain ⟨⟨⟨c00, c01, c02, c10, c11, c12⟩, ⟨d0, d1, d2⟩, e0, e1, e2⟩, _, _⟩ := HU.out W hW
        go_simp
        try with_reducible rfl
      simp only [List.setIfInBounds_toArray, List.set_cons_zero, List.set_cons_succ]
      refine take_to (i := 17) (v := ?_) 47 rfl rfl (by kernel_rfl) (by kernel_rfl) (by kernel_rfl) (fun _ _ _ h => h) (Or.inl ⟨by rfl, ?_⟩) hS ?_
      rotate_left
      · intro W hW
        obtain ⟨⟨⟨c00, c01, c02, c10, c11, c12⟩, ⟨d0, d1, d2⟩, e0, e1, e2⟩, _, _⟩ := HU.out W hW
        go_simp
        try with_reducible rfl
      simp only [List.setIfInBounds_toArray, List.set_cons_zero, List.set_cons_succ]
      refine take_to (i := 18) (v := ?_) 48 rfl rfl (by kernel_rfl) (by kernel_rfl) (by kernel_rfl) (fun _ _ _ h => h) (Or.inl ⟨by rfl, ?_⟩) hS ?_
      rotate_left
      · intro W hW
        obtain ⟨⟨⟨c00, c01, c02, c10, c11, c12⟩, ⟨d0, d1, d2⟩, e0, e1, e2⟩, _, _⟩ := HU.out W hW
        go_simp
        try with_reducible rfl
      simp only [List.setIfInBounds_toArray, List.set_cons_zero, List.set_cons_succ]
      refine wpAnyH_ready (rs := [19]) (by kernel_rfl) (by simp) ?_
      refine AllReadyH.cons rfl (fun K hK => ?_) AllReadyH.nil
      go_simp
      obtain ⟨_, ⟨hri, hrj⟩, bw⟩ := HU.out _ ha3
      refine (sees2_is true Hqc _ (Sm.of (hx.below bw) HP0.out) (Sm.of (hy.below bw).opened HP1.out)).mono ?_
      rintro e v4 ⟨rfl, ha4⟩
      replace ha4 := ext_trans ha3 ha4
      clear bw hri hrj
      refine hK.out _ _ ha4 fun hS => ?_
      clear hK K
      refine take_to (i := 20) (v := ?_) 50 rfl rfl (by kernel_rfl) (by kernel_rfl) (by kernel_rfl) (fun _ _ _ h => h) (Or.inl ⟨by rfl, ?_⟩) hS ?_
      rotate_left
      · intro W hW
        obtain ⟨⟨⟨c00, c01, c02, c10, c11, c12⟩, ⟨d0, d1, d2⟩, e0, e1, e2⟩, _, _⟩ := HU.out W hW
        go_simp
        try with_reducible rfl
      simp only [List.setIfInBounds_toArray, List.set_cons_zero, List.set_cons_succ]
      refine take_to (i := 21) (v := ?_) 51 rfl rfl (by kernel_rfl) (by kernel_rfl) (by kernel_rfl) (fun _ _ _ h => h) (Or.inl ⟨by rfl, ?_⟩) hS ?_
      rotate_left
      · intro W hW
        obtain ⟨⟨⟨c00, c01, c02, c10, c11, c12⟩, ⟨d0, d1, d2⟩, e0, e1, e2⟩, _, _⟩ := HU.out W hW
        go_simp
        try with_reducible rfl
      simp only [List.setIfInBounds_toArray, List.set_cons_zero, List.set_cons_succ]
      refine take_to (i := 22) (v := ?_) 52 rfl rfl (by kernel_rfl) (by kernel_rfl) (by kernel_rfl) (fun _ _ _ h => h) (Or.inl ⟨by rfl, ?_⟩) hS ?_
      rotate_left
      · intro W hW
        obtain ⟨⟨⟨c00, c01, c02, c10, c11, c12⟩, ⟨d0, d1, d2⟩, e0, e1, e2⟩, _, _⟩ := HU.out W hW
        go_simp
        try with_reducible rfl
      simp only [List.setIfInBounds_toArray, List.set_cons_zero, List.set_cons_succ]
      refine take_to (i := 23) (v := ?_) 53 rfl rfl (by kernel_rfl) (by kernel_rfl) (by kernel_rfl) (fun _ _ _ h => h) (Or.inl ⟨by rfl, ?_⟩) hS ?_
      rotate_left
      · intro W hW
        obtain ⟨⟨⟨c00, c01, c02, c10, c11, c12⟩, ⟨d0, d1, d2⟩, e0, e1, e2⟩, _, _⟩ := HU.out W hW
        go_simp
        try with_reducible rfl
      simp only [List.setIfInBounds_toArray, List.set_cons_zero, List.set_cons_succ]
      refine wpAnyH_ready (rs := [24]) (by kernel_rfl) (by simp) ?_
      refine AllReadyH.cons rfl (fun K hK => ?_) AllReadyH.nil
      go_simp
      obtain ⟨_, ⟨hri, hrj⟩, bw⟩ := HU.out _ ha4
      refine (sees2_is true Hqa _ (Sm.of hri HPr.out) (Sm.of (hy.below bw).opened HP1.out)).mono ?_
      rintro e v5 ⟨rfl, ha5⟩
      replace ha5 := ext_trans ha4 ha5
      clear bw hri hrj
      refine hK.out _ _ ha5 fun hS => ?_
      clear hK K
      refine take_to (i := 25) (v := ?_) 55 rfl rfl (by kernel_rfl) (by kernel_rfl) (by kernel_rfl) (fun _ _ _ h => h) (Or.inl ⟨by rfl, ?_⟩) hS ?_
      rotate_left
      · intro W hW
        obtain ⟨⟨⟨c00, c01, c02, c10, c11, c12⟩, ⟨d0, d1, d2⟩, e0, e1, e2⟩, _, _⟩ := HU.out W hW
        go_simp
        try with_reducible rfl
      simp only [List.setIfInBounds_toArray, List.set_cons_zero, List.set_cons_succ]
      refine take_to (i := 26) (v := ?_) 56 rfl rfl (by kernel_rfl) (by kernel_rfl) (by kernel_rfl) (fun _ _ _ h => h) (Or.inl ⟨by rfl, ?_⟩) hS ?_
      rotate_left
      · intro W hW
        obtain ⟨⟨⟨c00, c01, c02, c10, c11, c12⟩, ⟨d0, d1, d2⟩, e0, e1, e2⟩, _, _⟩ := HU.out W hW
        go_simp
        try with_reducible rfl
      simp only [List.setIfInBounds_toArray, List.set_cons_zero, List.set_cons_succ]
      refine take_to (i := 27) (v := ?_) 57 rfl rfl (by kernel_rfl) (by kernel_rfl) (by kernel_rfl) (fun _ _ _ h => h) (Or.inl ⟨by rfl, ?_⟩) hS ?_
      rotate_left
      · intro W hW
        obtain ⟨⟨⟨c00, c01, c02, c10, c11, c12⟩, ⟨d0, d1, d2⟩, e0, e1, e2⟩, _, _⟩ := HU.out W hW
        go_simp
        try with_reducible rfl
      simp only [List.setIfInBounds_toArray, List.set_cons_zero, List.set_cons_succ]
      refine take_to (i := 28) (v := ?_) 58 rfl rfl (by kernel_rfl) (by kernel_rfl) (by kernel_rfl) (fun _ _ _ h => h) (Or.inl ⟨by rfl, ?_⟩) hS ?_
      rotate_left
      · intro W hW
        obtain ⟨⟨⟨c00, c01, c02, c10, c11, c12⟩, ⟨d0, d1, d2⟩, e0, e1, e2⟩, _, _⟩ := HU.out W hW
        go_simp
        try with_reducible rfl
      simp only [List.setIfInBounds_toArray, List.set_cons_zero, List.set_cons_succ]
      refine take_to (i := 29) (v := ?_) 59 rfl rfl (by kernel_rfl) (by kernel_rfl) (by kernel_rfl) (fun _ _ _ h => h) (Or.inl ⟨by rfl, ?_⟩) hS ?_
      rotate_left
      · intro W hW
        obtain ⟨⟨⟨c00, c01, c02, c10, c11, c12⟩, ⟨d0, d1, d2⟩, e0, e1, e2⟩, _, _⟩ := HU.out W hW
        go_simp
        try with_reducible rfl
      simp only [List.setIfInBounds_toArray, List.set_cons_zero, List.set_cons_succ]
      refine wpAnyH_ready (rs := [30]) (by kernel_rfl) (by simp) ?_
      refine AllReadyH.cons rfl (fun K hK => ?_) AllReadyH.nil
      go_simp
      obtain ⟨_, ⟨hri, hrj⟩, bw⟩ := HU.out _ ha5
      refine (turns2_is false Hqd _ (Sm.of (hx.below bw) HP0.out) (Sm.of (hy.below bw).opened HP1.out)).mono ?_
      rintro e v6 ⟨rfl, ha6⟩
      replace ha6 := ext_trans ha5 ha6
      clear bw hri hrj
      refine hK.out _ _ ha6 fun hS => ?_
      clear hK K
      refine take_to (i := 31) (v := ?_) 61 rfl rfl (by kernel_rfl) (by kernel_rfl) (by kernel_rfl) (fun _ _ _ h => h) (Or.inl ⟨by rfl, ?_⟩) hS ?_
      rotate_left
      · intro W hW
        obtain ⟨⟨⟨c00, c01, c02, c10, c11, c12⟩, ⟨d0, d1, d2⟩, e0, e1, e2⟩, _, _⟩ := HU.out W hW
        go_simp
        try with_reducible rfl
      simp only [List.setIfInBounds_toArray, List.set_cons_zero, List.set_cons_succ]
      refine take_to (i := 32) (v := ?_) 62 rfl rfl (by kernel_rfl) (by kernel_rfl) (by kernel_rfl) (fun _ _ _ h => h) (Or.inl ⟨by rfl, ?_⟩) hS ?_
      rotate_left
      · intro W hW
        obtain ⟨⟨⟨c00, c01, c02, c10, c11, c12⟩, ⟨d0, d1, d2⟩, e0, e1, e2⟩, _, _⟩ := HU.out W hW
        go_simp
        try with_reducible rfl
      simp only [List.setIfInBounds_toArray, List.set_cons_zero, List.set_cons_succ]
      refine take_to (i := 33) (v := undef) 63 rfl rfl (by kernel_rfl) (by kernel_rfl) (by kernel_rfl) (fun _ _ _ h => h) (Or.inr ⟨by rfl, rfl⟩) hS ?_
      simp only [List.setIfInBounds_toArray, List.set_cons_zero, List.set_cons_succ]
      refine take_to (i := 34) (v := undef) 64 rfl rfl (by kernel_rfl) (by kernel_rfl) (by kernel_rfl) (fun _ _ _ h => h) (Or.inr ⟨by rfl, rfl⟩) hS ?_
      simp only [List.setIfInBounds_toArray, List.set_cons_zero, List.set_cons_succ]
      refine take_to (i := 35) (v := undef) 65 rfl rfl (by kernel_rfl) (by kernel_rfl) (by kernel_rfl) (fun _ _ _ h => h) (Or.inr ⟨by rfl, rfl⟩) hS ?_
      simp only [List.setIfInBounds_toArray, List.set_cons_zero, List.set_cons_succ]
      refine take_to (i := 36) (v := ?_) 66 rfl rfl (by kernel_rfl) (by kernel_rfl) (by kernel_rfl) (fun _ _ _ h => h) (Or.inl ⟨by rfl, ?_⟩) hS ?_
      rotate_left
      · intro W hW
        obtain ⟨⟨⟨c00, c01, c02, c10, c11, c12⟩, ⟨d0, d1, d2⟩, e0, e1, e2⟩, _, _⟩ := HU.out W hW
        go_simp
        try with_reducible rfl
      simp only [List.setIfInBounds_toArray, List.set_cons_zero, List.set_cons_succ]
      refine take_to (i := 37) (v := ?_) 67 rfl rfl (by kernel_rfl) (by kernel_rfl) (by kernel_rfl) (fun _ _ _ h => h) (Or.inl ⟨by rfl, ?_⟩) hS ?_
      rotate_left
      · intro W hW
        obtain ⟨⟨⟨c00, c01, c02, c10, c11, c12⟩, ⟨d0, d1, d2⟩, e0, e1, e2⟩, _, _⟩ := HU.out W hW
        go_simp
        try with_reducible rfl
      simp only [List.setIfInBounds_toArray, List.set_cons_zero, List.set_cons_succ]
      refine take_to (i := 38) (v := ?_) 6 rfl rfl (by kernel_rfl) (by kernel_rfl) (by kernel_rfl) (fun _ _ _ h => h) (Or.inl ⟨by rfl, ?_⟩) hS ?_
      rotate_left
      · intro W hW
        obtain ⟨⟨⟨c00, c01, c02, c10, c11, c12⟩, ⟨d0, d1, d2⟩, e0, e1, e2⟩, _, _⟩ := HU.out W hW
        go_simp
        try with_reducible rfl
      simp only [List.setIfInBounds_toArray, List.set_cons_zero, List.set_cons_succ]
      refine wpAnyH_done (by kernel_rfl) ?_ _
      refine NoPanic.normal ?_
      obtain ⟨_, _, bw⟩ := HU.out _ ha6
      go_wp2_with fail
      go_ret
      exact ⟨rfl, bw⟩
    · obtain rfl : qb = true := Ib.out rfl
      refine wp_region_noPanic ?_
      refine wp_region_held_drew (S := fun W => Below W7.heap.size W7 W) (by kernel_rfl) hB fun hS => ?_
      refine take_to (i := 0) (v := ?_) 30 rfl rfl (by kernel_rfl) (by kernel_rfl) (by kernel_rfl) (fun _ _ _ h => h) (Or.inl ⟨by rfl, ?_⟩) hS ?_
      rotate_left
      · intro W hW
        obtain ⟨⟨⟨c00, c01, c02, c10, c11, c12⟩, ⟨d0, d1, d2⟩, e0, e1, e2⟩, _, _⟩ := HU.out W hW
        go_simp
        try with_reducible rfl
      simp only [List.setIfInBounds_toArray, List.set_cons_zero, List.set_cons_succ]
      refine take_to (i := 1) (v := ?_) 31 rfl rfl (by kernel_rfl) (by kernel_rfl) (by kernel_rfl) (fun _ _ _ h => h) (Or.inl ⟨by rfl, ?_⟩) hS ?_
      rotate_left
      · intro W hW
        obtain ⟨⟨⟨c00, c01, c02, c10, c11, c12⟩, ⟨d0, d1, d2⟩, e0, e1, e2⟩, _, _⟩ := HU.out W hW
        go_simp
        try with_reducible rfl
      simp only [List.setIfInBounds_toArray, List.set_cons_zero, List.set_cons_succ]
      refine take_to (i := 3) (v := ?_) 33 rfl rfl (by kernel_rfl) (by kernel_rfl) (by kernel_rfl) (fun _ _ _ h => h) (Or.inl ⟨by rfl, ?_⟩) hS ?_
      rotate_left
      · intro W hW
        obtain ⟨⟨⟨c00, c01, c02, c10, c11, c12⟩, ⟨d0, d1, d2⟩, e0, e1, e2⟩, _, _⟩ := HU.out W hW
        go_simp
        try with_reducible rfl
      simp only [List.setIfInBounds_toArray, List.set_cons_zero, List.set_cons_succ]
      refine take_to (i := 4) (v := ?_) 34 rfl rfl (by kernel_rfl) (by kernel_rfl) (by kernel_rfl) (fun _ _ _ h => h) (Or.inl ⟨by rfl, ?_⟩) hS ?_
      rotate_left
      · intro W hW
        obtain ⟨⟨⟨c00, c01, c02, c10, c11, c12⟩, ⟨d0, d1, d2⟩, e0, e1, e2⟩, _, _⟩ := HU.out W hW
        go_simp
        try with_reducible rfl
      simp only [List.setIfInBounds_toArray, List.set_cons_zero, List.set_cons_succ]
      refine wpAnyH_ready (rs := [2]) (by kernel_rfl) (by simp) ?_
      refine AllReadyH.cons rfl (fun K hK => ?_) AllReadyH.nil
      go_simp
      obtain ⟨_, ⟨hri, hrj⟩, bw⟩ := HU.out _ hB
      refine (sees2_is true Hqa _ (Sm.of hri HPr.out) (Sm.of (hy.below bw).opened HP1.out)).mono ?_
      rintro e v0 ⟨rfl, ha0⟩
      replace ha0 := ext_trans hB ha0
      clear bw hri hrj
      refine hK.out _ _ ha0 fun hS => ?_
      clear hK K
      refine wpAnyH_ready (rs := [5]) (by kernel_rfl) (by simp) ?_
      refine AllReadyH.cons rfl (fun K hK => ?_) AllReadyH.nil
      go_simp
      obtain ⟨_, ⟨hri, hrj⟩, bw⟩ := HU.out _ ha0
      refine (sees2_is true Ha2 _ (Sm.of hri HPr.out) (⟨hrj, HYS.out.1, HYS.out.2.1, Srt.nil, by show r2.n1 ≤ _; omega, by show r2.n2 ≤ _; omega, Nat.zero_le _⟩ : Sm r2.opened _)).mono ?_
      rintro e v1 ⟨rfl, ha1⟩
      replace ha1 := ext_trans ha0 ha1
      clear bw hri hrj
      refine hK.out _ _ ha1 fun hS => ?_
      clear hK K
      refine take_to (i := 6) (v := ?_) 36 rfl rfl (by kernel_rfl) (by kernel_rfl) (by kernel_rfl) (fun _ _ _ h => h) (Or.inl ⟨by rfl, ?_⟩) hS ?_
      rotate_left
      · intro W hW
        obtain ⟨⟨⟨c00, c01, c02, c10, c11, c12⟩, ⟨d0, d1, d2⟩, e0, e1, e2⟩, _, _⟩ := HU.out W hW
        go_simp
        try with_reducible rfl
      simp only [List.setIfInBounds_toArray, List.set_cons_zero, List.set_cons_succ]
      refine take_to (i := 7) (v := ?_) 37 rfl rfl (by kernel_rfl) (by kernel_rfl) (by kernel_rfl) (fun _ _ _ h => h) (Or.inl ⟨by rfl, ?_⟩) hS ?_
      rotate_left
      · intro W hW
        obtain ⟨⟨⟨c00, c01, c02, c10, c11, c12⟩, ⟨d0, d1, d2⟩, e0, e1, e2⟩, _, _⟩ := HU.out W hW
        go_simp
        try with_reducible rfl
      simp only [List.setIfInBounds_toArray, List.set_cons_zero, List.set_cons_succ]
      refine take_to (i := 8) (v := ?_) 38 rfl rfl (by kernel_rfl) (by kernel_rfl) (by kernel_rfl) (fun _ _ _ h => h) (Or.inl ⟨by rfl, ?_⟩) hS ?_
      rotate_left
      · intro W hW
        obtain ⟨⟨⟨c00, c01, c02, c10, c11, c12⟩, ⟨d0, d1, d2⟩, e0, e1, e2⟩, _, _⟩ := HU.out W hW
        go_simp
        try with_reducible rfl
      simp only [List.setIfInBounds_toArray, List.set_cons_zero, List.set_cons_succ]
      refine take_to (i := 9) (v := ?_) 39 rfl rfl (by kernel_rfl) (by kernel_rfl) (by kernel_rfl) (fun _ _ _ h => h) (Or.inl ⟨by rfl, ?_⟩) hS ?_
      rotate_left
      · intro W hW
        obtain ⟨⟨⟨c00, c01, c02, c10, c11, c12⟩, ⟨d0, d1, d2⟩, e0, e1, e2⟩, _, _⟩ := HU.out W hW
        go_simp
        try with_reducible rfl
      simp only [List.setIfInBounds_toArray, List.set_cons_zero, List.set_cons_succ]
      refine take_to (i := 11) (v := ?_) 41 rfl rfl (by kernel_rfl) (by kernel_rfl) (by kernel_rfl) (fun _ _ _ h => h) (Or.inl ⟨by rfl, ?_⟩) hS ?_
      rotate_left
      · intro W hW
        obtain ⟨⟨⟨c00, c01, c02, c10, c11, c12⟩, ⟨d0, d1, d2⟩, e0, e1, e2⟩, _, _⟩ := HU.out W hW
        go_simp
        try with_reducible rfl
      simp only [List.setIfInBounds_toArray, List.set_cons_zero, List.set_cons_succ]
      refine take_to (i := 12) (v := ?_) 42 rfl rfl (by kernel_rfl) (by kernel_rfl) (by kernel_rfl) (fun _ _ _ h => h) (Or.inl ⟨by rfl, ?_⟩) hS ?_
      rotate_left
      · intro W hW
        obtain ⟨⟨⟨c00, c01, c02, c10, c11, c12⟩, ⟨d0, d1, d2⟩, e0, e1, e2⟩, _, _⟩ := HU.out W hW
        go_simp
        try with_reducible rfl
      simp only [List.setIfInBounds_toArray, List.set_cons_zero, List.set_cons_succ]
      refine wpAnyH_ready (rs := [10]) (by kernel_rfl) (by simp) ?_
      refine AllReadyH.cons rfl (fun K hK => ?_) AllReadyH.nil
      go_simp
      obtain ⟨_, ⟨hri, hrj⟩, bw⟩ := HU.out _ ha1
      refine (turns2_is true Hqb _ (Sm.of hri HPr.out) (Sm.of (hy.below bw).opened HP1.out)).mono ?_
      rintro e v2 ⟨rfl, ha2⟩
      replace ha2 := ext_trans ha1 ha2
      clear bw hri hrj
      refine hK.out _ _ ha2 fun hS => ?_
      clear hK K
      refine wpAnyH_ready (rs := [13]) (by kernel_rfl) (by simp) ?_
      refine AllReadyH.cons rfl (fun K hK => ?_) AllReadyH.nil
      go_simp
      obtain ⟨_, ⟨hri, hrj⟩, bw⟩ := HU.out _ ha2
      refine (turns2_is true Hb2 _ (Sm.of hri HPr.out) (⟨hrj, HYS.out.1, HYS.out.2.1, Srt.nil, by show r2.n1 ≤ _; omega, by show r2.n2 ≤ _; omega, Nat.zero_le _⟩ : Sm r2.opened _)).mono ?_
      rintro e v3 ⟨rfl, ha3⟩
      replace ha3 := ext_trans ha2 ha3
      clear bw hri hrj
      refine hK.out _ _ ha3 fun hS => ?_
      clear hK K
      refine take_to (i := 14) (v := ?_) 44 rfl rfl (by kernel_rfl) (by kernel_rfl) (by kernel_rfl) (fun _ _ _ h => h) (Or.inl ⟨by rfl, ?_⟩) hS ?_
      rotate_left
      · intro W hW
        obtain ⟨⟨⟨c00, c01, c02, c10, c11, c12⟩, ⟨d0, d1, d2⟩, e0, e1, e2⟩, _, _⟩ := HU.out W hW
        go_simp
        try with_reducible rfl
      simp only [List.setIfInBounds_toArray, List.set_cons_zero, List.set_cons_succ]
      refine take_to (i := 15) (v := ?_) 45 rfl rfl (by kernel_rfl) (by kernel_rfl) (by kernel_rfl) (fun _ _ _ h => h) (Or.inl ⟨by rfl, ?_⟩) hS ?_
      rotate_left
      · intro W hW
        obtain ⟨⟨⟨c00, c01, c02, c10, c11, c12⟩, ⟨d0, d1, d2⟩, e0, e1, e2⟩, _, _⟩ := HU.out W hW
        go_simp
        try with_reducible rfl
      simp only [List.setIfInBounds_toArray, List.set_cons_zero, List.set_cons_succ]
      refine take_to (i := 16) (v := ?_) 46 rfl rfl (by kernel_rfl) (by kernel_rfl) (by kernel_rfl) (fun _ _ _ h => h) (Or.inl ⟨by rfl, ?_⟩) hS ?_
      rotate_left
      · intro W hW
        obtain ⟨⟨⟨c00, c01, c02, c10, c11, c12⟩, ⟨d0, d1, d2⟩, e0, e1, e2⟩, _, _⟩ := HU.out W hW
        go_simp
        try with_reducible rfl
      simp only [List.setIfInBounds_toArray, List.set_cons_zero, List.set_cons_succ]
      refine take_to (i := 17) (v := ?_) 47 rfl rfl (by kernel_rfl) (by kernel_rfl) (by kernel_rfl) (fun _ _ _ h => h) (Or.inl ⟨by rfl, ?_⟩) hS ?_
      rotate_left
      · intro W hW
        obtain ⟨⟨⟨c00, c01, c02, c10, c11, c12⟩, ⟨d0, d1, d2⟩, e0, e1, e2⟩, _, _⟩ := HU.out W hW
        go_simp
        try with_reducible rfl
      simp only [List.setIfInBounds_toArray, List.set_cons_zero, List.set_cons_succ]
      refine take_to (i := 18) (v := ?_) 48 rfl rfl (by kernel_rfl) (by kernel_rfl) (by kernel_rfl) (fun _ _ _ h => h) (Or.inl ⟨by rfl, ?_⟩) hS ?_
      rotate_left
      · intro W hW
        obtain ⟨⟨⟨c00, c01, c02, c10, c11, c12⟩, ⟨d0, d1, d2⟩, e0, e1, e2⟩, _, _⟩ := HU.out W hW
        go_simp
        try with_reducible rfl
      simp only [List.setIfInBounds_toArray, List.set_cons_zero, List.set_cons_succ]
      refine wpAnyH_ready (rs := [19]) (by kernel_rfl) (by simp) ?_
      refine AllReadyH.cons rfl (fun K hK => ?_) AllReadyH.nil
      go_simp
      obtain ⟨_, ⟨hri, hrj⟩, bw⟩ := HU.out _ ha3
      refine (sees2_is true Hqc _ (Sm.of (hx.below bw) HP0.out) (Sm.of (hy.below bw).opened HP1.out)).mono ?_
      rintro e v4 ⟨rfl, ha4⟩
      replace ha4 := ext_trans ha3 ha4
      clear bw hri hrj
      refine hK.out _ _ ha4 fun hS => ?_
      clear hK K
      refine take_to (i := 20) (v := ?_) 50 rfl rfl (by kernel_rfl) (by kernel_rfl) (by kernel_rfl) (fun _ _ _ h => h) (Or.inl ⟨by rfl, ?_⟩) hS ?_
      rotate_left
      · intro W hW
        obtain ⟨⟨⟨c00, c01, c02, c10, c11, c12⟩, ⟨d0, d1, d2⟩, e0, e1, e2⟩, _, _⟩ := HU.out W hW
        go_simp
        try with_reducible rfl
      simp only [List.setIfInBounds_toArray, List.set_cons_zero, List.set_cons_succ]
      refine take_to (i := 21) (v := ?_) 51 rfl rfl (by kernel_rfl) (by kernel_rfl) (by kernel_rfl) (fun _ _ _ h => h) (Or.inl ⟨by rfl, ?_⟩) hS ?_
      rotate_left
      · intro W hW
        obtain ⟨⟨⟨c00, c01, c02, c10, c11, c12⟩, ⟨d0, d1, d2⟩, e0, e1, e2⟩, _, _⟩ := HU.out W hW
        go_simp
        try with_reducible rfl
      simp only [List.setIfInBounds_toArray, List.set_cons_zero, List.set_cons_succ]
      refine take_to (i := 22) (v := ?_) 52 rfl rfl (by kernel_rfl) (by kernel_rfl) (by kernel_rfl) (fun _ _ _ h => h) (Or.inl ⟨by rfl, ?_⟩) hS ?_
      rotate_left
      · intro W hW
        obtain ⟨⟨⟨c00, c01, c02, c10, c11, c12⟩, ⟨d0, d1, d2⟩, e0, e1, e2⟩, _, _⟩ := HU.out W hW
        go_simp
        try with_reducible rfl
      simp only [List.setIfInBounds_toArray, List.set_cons_zero, List.set_cons_succ]
      refine take_to (i := 23) (v := ?_) 53 rfl rfl (by kernel_rfl) (by kernel_rfl) (by kernel_rfl) (fun _ _ _ h => h) (Or.inl ⟨by rfl, ?_⟩) hS ?_
      rotate_left
      · intro W hW
        obtain ⟨⟨⟨c00, c01, c02, c10, c11, c12⟩, ⟨d0, d1, d2⟩, e0, e1, e2⟩, _, _⟩ := HU.out W hW
        go_simp
        try with_reducible rfl
      simp only [List.setIfInBounds_toArray, List.set_cons_zero, List.set_cons_succ]
      refine wpAnyH_ready (rs := [24]) (by kernel_rfl) (by simp) ?_
      refine AllReadyH.cons rfl (fun K hK => ?_) AllReadyH.nil
      go_simp
      obtain ⟨_, ⟨hri, hrj⟩, bw⟩ := HU.out _ ha4
      refine (sees2_is true Hqa _ (Sm.of hri HPr.out) (Sm.of (hy.below bw).opened HP1.out)).mono ?_
      rintro e v5 ⟨rfl, ha5⟩
      replace ha5 := ext_trans ha4 ha5
      clear bw hri hrj
      refine hK.out _ _ ha5 fun hS => ?_
      clear hK K
      refine take_to (i := 25) (v := ?_) 55 rfl rfl (by kernel_rfl) (by kernel_rfl) (by kernel_rfl) (fun _ _ _ h => h) (Or.inl ⟨by rfl, ?_⟩) hS ?_
      rotate_left
      · intro W hW
        obtain ⟨⟨⟨c00, c01, c02, c10, c11, c12⟩, ⟨d0, d1, d2⟩, e0, e1, e2⟩, _, _⟩ := HU.out W hW
        go_simp
        try with_reducible rfl
      simp only [List.setIfInBounds_toArray, List.set_cons_zero, List.set_cons_succ]
      refine take_to (i := 26) (v := ?_) 56 rfl rfl (by kernel_rfl) (by kernel_rfl) (by kernel_rfl) (fun _ _ _ h => h) (Or.inl ⟨by rfl, ?_⟩) hS ?_
      rotate_left
      · intro W hW
        obtain ⟨⟨⟨c00, c01, c02, c10, c11, c12⟩, ⟨d0, d1, d2⟩, e0, e1, e2⟩, _, _⟩ := HU.out W hW
        go_simp
        try with_reducible rfl
      simp only [List.setIfInBounds_toArray, List.set_cons_zero, List.set_cons_succ]
      refine take_to (i := 27) (v := ?_) 57 rfl rfl (by kernel_rfl) (by kernel_rfl) (by kernel_rfl) (fun _ _ _ h => h) (Or.inl ⟨by rfl, ?_⟩) hS ?_
      rotate_left
      · intro W hW
        obtain ⟨⟨⟨c00, c01, c02, c10, c11, c12⟩, ⟨d0, d1, d2⟩, e0, e1, e2⟩, _, _⟩ := HU.out W hW
        go_simp
        try with_reducible rfl
      simp only [List.setIfInBounds_toArray, List.set_cons_zero, List.set_cons_succ]
      refine take_to (i := 28) (v := ?_) 58 rfl rfl (by kernel_rfl) (by kernel_rfl) (by kernel_rfl) (fun _ _ _ h => h) (Or.inl ⟨by rfl, ?_⟩) hS ?_
      rotate_left
      · intro W hW
        obtain ⟨⟨⟨c00, c01, c02, c10, c11, c12⟩, ⟨d0, d1, d2⟩, e0, e1, e2⟩, _, _⟩ := HU.out W hW
        go_simp
        try with_reducible rfl
      simp only [List.setIfInBounds_toArray, List.set_cons_zero, List.set_cons_succ]
      refine take_to (i := 29) (v := ?_) 59 rfl rfl (by kernel_rfl) (by kernel_rfl) (by kernel_rfl) (fun _ _ _ h => h) (Or.inl ⟨by rfl, ?_⟩) hS ?_
      rotate_left
      · intro W hW
        obtain ⟨⟨⟨c00, c01, c02, c10, c11, c12⟩, ⟨d0, d1, d2⟩, e0, e1, e2⟩, _, _⟩ := HU.out W hW
        go_simp
        try with_reducible rfl
      simp only [List.setIfInBounds_toArray, List.set_cons_zero, List.set_cons_succ]
      refine wpAnyH_ready (rs := [30]) (by kernel_rfl) (by simp) ?_
      refine AllReadyH.cons rfl (fun K hK => ?_) AllReadyH.nil
      go_simp
      obtain ⟨_, ⟨hri, hrj⟩, bw⟩ := HU.out _ ha5
      refine (turns2_is true Hqd _ (Sm.of (hx.below bw) HP0.out) (Sm.of (hy.below bw).opened HP1.out)).mono ?_
      rintro e v6 ⟨rfl, ha6⟩
      replace ha6 := ext_trans ha5 ha6
      clear bw hri hrj
      refine hK.out _ _ ha6 fun hS => ?_
      clear hK K
      refine take_to (i := 31) (v := ?_) 61 rfl rfl (by kernel_rfl) (by kernel_rfl) (by kernel_rfl) (fun _ _ _ h => h) (Or.inl ⟨by rfl, ?_⟩) hS ?_
      rotate_left
      · intro W hW
        obtain ⟨⟨⟨c00, c01, c02, c10, c11, c12⟩, ⟨d0, d1, d2⟩, e0, e1, e2⟩, _, _⟩ := HU.out W hW
        go_simp
        try with_reducible rfl
      simp only [List.setIfInBounds_toArray, List.set_cons_zero, List.set_cons_succ]
      refine take_to (i := 32) (v := ?_) 62 rfl rfl (by kernel_rfl) (by kernel_rfl) (by kernel_rfl) (fun _ _ _ h => h) (Or.inl ⟨by rfl, ?_⟩) hS ?_
      rotate_left
      · intro W hW
        obtain ⟨⟨⟨c00, c01, c02, c10, c11, c12⟩, ⟨d0, d1, d2⟩, e0, e1, e2⟩, _, _⟩ := HU.out W hW
        go_simp
        try with_reducible rfl
      simp only [List.setIfInBounds_toArray, List.set_cons_zero, List.set_cons_succ]
      refine take_to (i := 33) (v := ?_) 63 rfl rfl (by kernel_rfl) (by kernel_rfl) (by kernel_rfl) (fun _ _ _ h => h) (Or.inl ⟨by rfl, ?_⟩) hS ?_
      rotate_left
      · intro W hW
        obtain ⟨⟨⟨c00, c01, c02, c10, c11, c12⟩, ⟨d0, d1, d2⟩, e0, e1, e2⟩, _, _⟩ := HU.out W hW
        go_simp
        try with_reducible rfl
      simp only [List.setIfInBounds_toArray, List.set_cons_zero, List.set_cons_succ]
      refine take_to (i := 34) (v := ?_) 64 rfl rfl (by kernel_rfl) (by kernel_rfl) (by kernel_rfl) (fun _ _ _ h => h) (Or.inl ⟨by rfl, ?_⟩) hS ?_
      rotate_left
      · intro W hW
        obtain ⟨⟨⟨c00, c01, c02, c10, c11, c12⟩, ⟨d0, d1, d2⟩, e0, e1, e2⟩, _, _⟩ := HU.out W hW
        go_simp
        try with_reducible rfl
      simp only [List.setIfInBounds_toArray, List.set_cons_zero, List.set_cons_succ]
      refine wpAnyH_ready (rs := [35]) (by kernel_rfl) (by simp) ?_
      refine AllReadyH.cons rfl (fun K hK => ?_) AllReadyH.nil
      go_simp
      obtain ⟨_, ⟨hri, hrj⟩, bw⟩ := HU.out _ ha6
      refine (turns2_is true Hqb _ (Sm.of hri HPr.out) (Sm.of (hy.below bw).opened HP1.out)).mono ?_
      rintro e v7 ⟨rfl, ha7⟩
      replace ha7 := ext_trans ha6 ha7
      clear bw hri hrj
      refine hK.out _ _ ha7 fun hS => ?_
      clear hK K
      refine take_to (i := 36) (v := ?_) 66 rfl rfl (by kernel_rfl) (by kernel_rfl) (by kernel_rfl) (fun _ _ _ h => h) (Or.inl ⟨by rfl, ?_⟩) hS ?_
      rotate_left
      · intro W hW
        obtain ⟨⟨⟨c00, c01, c02, c10, c11, c12⟩, ⟨d0, d1, d2⟩, e0, e1, e2⟩, _, _⟩ := HU.out W hW
        go_simp
        try with_reducible rfl
      simp only [List.setIfInBounds_toArray, List.set_cons_zero, List.set_cons_succ]
      refine take_to (i := 37) (v := ?_) 67 rfl rfl (by kernel_rfl) (by kernel_rfl) (by kernel_rfl) (fun _ _ _ h => h) (Or.inl ⟨by rfl, ?_⟩) hS ?_
      rotate_left
      · intro W hW
        obtain ⟨⟨⟨c00, c01, c02, c10, c11, c12⟩, ⟨d0, d1, d2⟩, e0, e1, e2⟩, _, _⟩ := HU.out W hW
        go_simp
        try with_reducible rfl
      simp only [List.setIfInBounds_toArray, List.set_cons_zero, List.set_cons_succ]
      refine take_to (i := 38) (v := ?_) 6 rfl rfl (by kernel_rfl) (by kernel_rfl) (by kernel_rfl) (fun _ _ _ h => h) (Or.inl ⟨by rfl, ?_⟩) hS ?_
      rotate_left
      · intro W hW
        obtain ⟨⟨⟨c00, c01, c02, c10, c11, c12⟩, ⟨d0, d1, d2⟩, e0, e1, e2⟩, _, _⟩ := HU.out W hW
        go_simp
        try with_reducible rfl
      simp only [List.setIfInBounds_toArray, List.set_cons_zero, List.set_cons_succ]
      refine wpAnyH_done (by kernel_rfl) ?_ _
      refine NoPanic.normal ?_
      obtain ⟨_, _, bw⟩ := HU.out _ ha7
      go_wp2_with fail
      go_ret
      exact ⟨rfl, bw⟩
end Go.Proofs.Ythhpfpihgmhlbaa
