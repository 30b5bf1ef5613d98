/- SetsForms walked: it answers true, and turns nothing that was there. -/
import Derived.Test.YteageheimghdiaaSvBegun
namespace Go.Proofs.Yteageheimghdiaa
open Go.RowKit

theorem may_is {A B C : List Int} (q : Bool) (h : q = true ↔ MayP A B C) : mayB A B C = q := Bool.eq_iff_iff.2 ((mayB_iff A B C).trans h.symm)
theorem may_no {A B C : List Int} (h : ¬ MayP A B C) : mayB A B C = false := may_is false ⟨fun e => absurd e (by decide), fun e => absurd e h⟩
theorem may_f0 : mayB [] [] [] = true := may_is true ⟨fun _ => ⟨⟨Srt.nil, Srt.nil, Srt.nil⟩, ⟨fun z h => by simp at h, fun z h => by simp at h, fun z h => by simp at h⟩, by decide⟩, fun _ => rfl⟩
theorem may_f1 : mayB [3] [4] [] = true := may_is true ⟨fun _ => ⟨⟨srt_one _, srt_one _, Srt.nil⟩, ⟨fun z h k => by simp at h k; omega, fun z _ h => by simp at h, fun z _ h => by simp at h⟩, by decide⟩, fun _ => rfl⟩
theorem may_f2 : mayB [3] [3] [] = false := may_no fun h => h.2.1.1 3 (by simp) (by simp)
theorem may_f3 : mayB [3] [] [3] = false := may_no fun h => h.2.1.2.1 3 (by simp) (by simp)
theorem may_f4 : mayB [] [3] [3] = false := may_no fun h => h.2.1.2.2 3 (by simp) (by simp)
theorem may_f5 : mayB [4, 3] [] [] = false := may_no fun h => by have := h.1.1.head 3 (by simp); omega
theorem may_f6 : mayB [3, 3] [] [] = false := may_no fun h => by have := h.1.1.head 3 (by simp); omega

set_option maxHeartbeats 4000000 in
theorem setsForms_walk (w : World) : Calls Try.prog 6 #[] w fun e w' => e = .returned (.bool true) ∧ Below w.heap.size w w' := by
  go_enter Try.func6, Try.ntmps6
  go_wp2_with fail
  have HA : Hid (∀ W, Below ((w.alloc (Obj.cells #[.int .u16 3] 25)).alloc (Obj.cells #[.int .u16 4] 25)).heap.size ((w.alloc (Obj.cells #[.int .u16 3] 25)).alloc (Obj.cells #[.int .u16 4] 25)) W → RowW W (some ⟨w.heap.size, 0, none⟩) 1 1 [3] ∧ RowW W (some ⟨w.heap.size + 1, 0, none⟩) 1 1 [4] ∧ Below w.heap.size w W) := fun W h =>
    ⟨(roww_lit_at w _ rfl 25 [3] 1 rfl (by omega) (wrd_of _ (by decide))).below (ext_trans (below_alloc _ _) h), (roww_lit_at _ _ (by simp) 25 [4] 1 rfl (by omega) (wrd_of _ (by decide))).below h, ext_trans (two_allocs _ _ _) h⟩
  refine (begun8_true _).mono ?_
  rintro e u0 ⟨rfl, hu0⟩
  go_wp2_with fail
  obtain ⟨ra, rb, _⟩ := HA.out _ hu0
  refine (maySets_any (⟨none, 0, 0, [], none, 0, 0, [], none, 0, 0, []⟩ : Sv) _ ⟨RowW.nil _, RowW.nil _, RowW.nil _⟩).mono ?_
  rintro e u1 ⟨rfl, hu1⟩
  rw [show mayB (⟨none, 0, 0, [], none, 0, 0, [], none, 0, 0, []⟩ : Sv).xs (⟨none, 0, 0, [], none, 0, 0, [], none, 0, 0, []⟩ : Sv).ys (⟨none, 0, 0, [], none, 0, 0, [], none, 0, 0, []⟩ : Sv).zs = _ from may_f0]
  replace hu1 := ext_trans hu0 hu1
  clear hu0 ra rb
  go_wp2_with fail
  obtain ⟨ra, rb, _⟩ := HA.out _ hu1
  refine (maySets_any (⟨some ⟨w.heap.size, 0, none⟩, 1, 1, [3], some ⟨w.heap.size + 1, 0, none⟩, 1, 1, [4], none, 0, 0, []⟩ : Sv) _ ⟨ra, rb, RowW.nil _⟩).mono ?_
  rintro e u2 ⟨rfl, hu2⟩
  rw [show mayB (⟨some ⟨w.heap.size, 0, none⟩, 1, 1, [3], some ⟨w.heap.size + 1, 0, none⟩, 1, 1, [4], none, 0, 0, []⟩ : Sv).xs (⟨some ⟨w.heap.size, 0, none⟩, 1, 1, [3], some ⟨w.heap.size + 1, 0, none⟩, 1, 1, [4], none, 0, 0, []⟩ : Sv).ys (⟨some ⟨w.heap.size, 0, none⟩, 1, 1, [3], some ⟨w.heap.size + 1, 0, none⟩, 1, 1, [4], none, 0, 0, []⟩ : Sv).zs = _ from may_f1]
  replace hu2 := ext_trans hu1 hu2
  clear hu1 ra rb
  go_wp2_with fail
  obtain ⟨ra, rb, _⟩ := HA.out _ hu2
  refine (maySets_any (⟨some ⟨w.heap.size, 0, none⟩, 1, 1, [3], some ⟨w.heap.size, 0, none⟩, 1, 1, [3], none, 0, 0, []⟩ : Sv) _ ⟨ra, ra, RowW.nil _⟩).mono ?_
  rintro e u3 ⟨rfl, hu3⟩
  rw [show mayB (⟨some ⟨w.heap.size, 0, none⟩, 1, 1, [3], some ⟨w.heap.size, 0, none⟩, 1, 1, [3], none, 0, 0, []⟩ : Sv).xs (⟨some ⟨w.heap.size, 0, none⟩, 1, 1, [3], some ⟨w.heap.size, 0, none⟩, 1, 1, [3], none, 0, 0, []⟩ : Sv).ys (⟨some ⟨w.heap.size, 0, none⟩, 1, 1, [3], some ⟨w.heap.size, 0, none⟩, 1, 1, [3], none, 0, 0, []⟩ : Sv).zs = _ from may_f2]
  replace hu3 := ext_trans hu2 hu3
  clear hu2 ra rb
  go_wp2_with fail
  obtain ⟨ra, rb, _⟩ := HA.out _ hu3
  refine (maySets_any (⟨some ⟨w.heap.size, 0, none⟩, 1, 1, [3], none, 0, 0, [], some ⟨w.heap.size, 0, none⟩, 1, 1, [3]⟩ : Sv) _ ⟨ra, RowW.nil _, ra⟩).mono ?_
  rintro e u4 ⟨rfl, hu4⟩
  rw [show mayB (⟨some ⟨w.heap.size, 0, none⟩, 1, 1, [3], none, 0, 0, [], some ⟨w.heap.size, 0, none⟩, 1, 1, [3]⟩ : Sv).xs (⟨some ⟨w.heap.size, 0, none⟩, 1, 1, [3], none, 0, 0, [], some ⟨w.heap.size, 0, none⟩, 1, 1, [3]⟩ : Sv).ys (⟨some ⟨w.heap.size, 0, none⟩, 1, 1, [3], none, 0, 0, [], some ⟨w.heap.size, 0, none⟩, 1, 1, [3]⟩ : Sv).zs = _ from may_f3]
  replace hu4 := ext_trans hu3 hu4
  clear hu3 ra rb
  go_wp2_with fail
  obtain ⟨ra, rb, _⟩ := HA.out _ hu4
  refine (maySets_any (⟨none, 0, 0, [], some ⟨w.heap.size, 0, none⟩, 1, 1, [3], some ⟨w.heap.size, 0, none⟩, 1, 1, [3]⟩ : Sv) _ ⟨RowW.nil _, ra, ra⟩).mono ?_
  rintro e u5 ⟨rfl, hu5⟩
  rw [show mayB (⟨none, 0, 0, [], some ⟨w.heap.size, 0, none⟩, 1, 1, [3], some ⟨w.heap.size, 0, none⟩, 1, 1, [3]⟩ : Sv).xs (⟨none, 0, 0, [], some ⟨w.heap.size, 0, none⟩, 1, 1, [3], some ⟨w.heap.size, 0, none⟩, 1, 1, [3]⟩ : Sv).ys (⟨none, 0, 0, [], some ⟨w.heap.size, 0, none⟩, 1, 1, [3], some ⟨w.heap.size, 0, none⟩, 1, 1, [3]⟩ : Sv).zs = _ from may_f4]
  replace hu5 := ext_trans hu4 hu5
  clear hu4 ra rb
  go_wp2_with fail
  obtain ⟨ra, rb, _⟩ := HA.out _ hu5
  have hv : Below _ _ (u5.alloc (Obj.cells #[.int .u16 4, .int .u16 3] 25)) := ext_trans hu5 (below_alloc _ _)
  have rn := roww_lit_at u5 _ rfl 25 [4, 3] 2 rfl (by omega) (wrd_of _ (by decide))
  clear ra rb
  refine (maySets_any (⟨some ⟨u5.heap.size, 0, none⟩, 2, 2, [4, 3], none, 0, 0, [], none, 0, 0, []⟩ : Sv) _ ⟨rn, RowW.nil _, RowW.nil _⟩).mono ?_
  rintro e u6 ⟨rfl, hu6⟩
  rw [show mayB (⟨some ⟨u5.heap.size, 0, none⟩, 2, 2, [4, 3], none, 0, 0, [], none, 0, 0, []⟩ : Sv).xs (⟨some ⟨u5.heap.size, 0, none⟩, 2, 2, [4, 3], none, 0, 0, [], none, 0, 0, []⟩ : Sv).ys (⟨some ⟨u5.heap.size, 0, none⟩, 2, 2, [4, 3], none, 0, 0, [], none, 0, 0, []⟩ : Sv).zs = _ from may_f5]
  replace hu6 := ext_trans hv hu6
  clear hu5 hv rn
  go_wp2_with fail
  obtain ⟨ra, rb, _⟩ := HA.out _ hu6
  have hv : Below _ _ (u6.alloc (Obj.cells #[.int .u16 3, .int .u16 3] 25)) := ext_trans hu6 (below_alloc _ _)
  have rn := roww_lit_at u6 _ rfl 25 [3, 3] 2 rfl (by omega) (wrd_of _ (by decide))
  clear ra rb
  refine (maySets_any (⟨some ⟨u6.heap.size, 0, none⟩, 2, 2, [3, 3], none, 0, 0, [], none, 0, 0, []⟩ : Sv) _ ⟨rn, RowW.nil _, RowW.nil _⟩).mono ?_
  rintro e u7 ⟨rfl, hu7⟩
  rw [show mayB (⟨some ⟨u6.heap.size, 0, none⟩, 2, 2, [3, 3], none, 0, 0, [], none, 0, 0, []⟩ : Sv).xs (⟨some ⟨u6.heap.size, 0, none⟩, 2, 2, [3, 3], none, 0, 0, [], none, 0, 0, []⟩ : Sv).ys (⟨some ⟨u6.heap.size, 0, none⟩, 2, 2, [3, 3], none, 0, 0, [], none, 0, 0, []⟩ : Sv).zs = _ from may_f6]
  replace hu7 := ext_trans hv hu7
  clear hu6 hv rn
  go_wp2_with fail
  obtain ⟨ra, rb, _⟩ := HA.out _ hu7
  refine (flowsS_any (⟨none, 0, 0, [], some ⟨w.heap.size, 0, none⟩, 1, 1, [3], none, 0, 0, []⟩ : Sv) (⟨none, 0, 0, [], none, 0, 0, [], none, 0, 0, []⟩ : Sv) _ ⟨RowW.nil _, ra, RowW.nil _⟩ ⟨RowW.nil _, RowW.nil _, RowW.nil _⟩ (by simp) (by simp)).mono ?_
  rintro e u8 ⟨rfl, hu8⟩
  rw [show (⟨none, 0, 0, [], some ⟨w.heap.size, 0, none⟩, 1, 1, [3], none, 0, 0, []⟩ : Sv).flows (⟨none, 0, 0, [], none, 0, 0, [], none, 0, 0, []⟩ : Sv) = true by simp [Sv.flows, mrg_nil_left]]
  replace hu8 := ext_trans hu7 hu8
  clear hu7 ra rb
  go_wp2_with fail
  obtain ⟨ra, rb, _⟩ := HA.out _ hu8
  refine (flowsS_any (⟨none, 0, 0, [], none, 0, 0, [], none, 0, 0, []⟩ : Sv) (⟨none, 0, 0, [], some ⟨w.heap.size, 0, none⟩, 1, 1, [3], none, 0, 0, []⟩ : Sv) _ ⟨RowW.nil _, RowW.nil _, RowW.nil _⟩ ⟨RowW.nil _, ra, RowW.nil _⟩ (by simp) (by simp)).mono ?_
  rintro e u9 ⟨rfl, hu9⟩
  rw [show (⟨none, 0, 0, [], none, 0, 0, [], none, 0, 0, []⟩ : Sv).flows (⟨none, 0, 0, [], some ⟨w.heap.size, 0, none⟩, 1, 1, [3], none, 0, 0, []⟩ : Sv) = false by simp [Sv.flows, mrg_nil_right]]
  replace hu9 := ext_trans hu8 hu9
  clear hu8 ra rb
  go_wp2_with fail
  obtain ⟨ra, rb, _⟩ := HA.out _ hu9
  refine (flowsS_any (⟨none, 0, 0, [], none, 0, 0, [], none, 0, 0, []⟩ : Sv) (⟨some ⟨w.heap.size, 0, none⟩, 1, 1, [3], none, 0, 0, [], none, 0, 0, []⟩ : Sv) _ ⟨RowW.nil _, RowW.nil _, RowW.nil _⟩ ⟨ra, RowW.nil _, RowW.nil _⟩ (by simp) (by simp)).mono ?_
  rintro e u10 ⟨rfl, hu10⟩
  rw [show (⟨none, 0, 0, [], none, 0, 0, [], none, 0, 0, []⟩ : Sv).flows (⟨some ⟨w.heap.size, 0, none⟩, 1, 1, [3], none, 0, 0, [], none, 0, 0, []⟩ : Sv) = true by simp [Sv.flows, mrg_nil_left]]
  replace hu10 := ext_trans hu9 hu10
  clear hu9 ra rb
  go_wp2_with fail
  obtain ⟨ra, rb, _⟩ := HA.out _ hu10
  refine (sameSets_any (⟨some ⟨w.heap.size, 0, none⟩, 1, 1, [3], none, 0, 0, [], none, 0, 0, []⟩ : Sv) (⟨none, 0, 0, [], some ⟨w.heap.size, 0, none⟩, 1, 1, [3], none, 0, 0, []⟩ : Sv) _ ⟨ra, RowW.nil _, RowW.nil _⟩ ⟨RowW.nil _, ra, RowW.nil _⟩).mono ?_
  rintro e u11 ⟨rfl, hu11⟩
  rw [show (⟨some ⟨w.heap.size, 0, none⟩, 1, 1, [3], none, 0, 0, [], none, 0, 0, []⟩ : Sv).same (⟨none, 0, 0, [], some ⟨w.heap.size, 0, none⟩, 1, 1, [3], none, 0, 0, []⟩ : Sv) = false by simp [Sv.same]]
  replace hu11 := ext_trans hu10 hu11
  clear hu10 ra rb
  go_wp2_with fail
  go_ret
  exact ⟨rfl, (HA.out _ hu11).2.2⟩
end Go.Proofs.Yteageheimghdiaa
