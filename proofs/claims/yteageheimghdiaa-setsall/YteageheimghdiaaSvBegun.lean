/- That sets does something: what the statements ask first. -/
import Derived.Test.YteageheimghdiaaSvMake
namespace Go.Proofs.Yteageheimghdiaa
open Go.RowKit

@[go_sem] theorem run_field0 (w : World) (v0 v1 v2 : Value) : (Instr.field 24 (.agg #[v0, v1, v2]) 0).run Try.prog w = .ok v0 w := by kernel_rfl
/-- One category in the first set, at block g. -/
def lone (g : Nat) (c : Int) : Sv := ⟨some ⟨g, 0, none⟩, 1, 1, [c], none, 0, 0, [], none, 0, 0, []⟩
theorem lone_in {W : World} {g : Nat} {c : Int} (h : RowW W (some ⟨g, 0, none⟩) 1 1 [c]) : (lone g c).In W := ⟨h, RowW.nil _, RowW.nil _⟩
theorem less_self (c : Int) : mrg true false false [c] [c] = [] := by rw [mrg_eq _ _ _ rfl, mrg_nil_left]; rfl
theorem or_self (c : Int) : mrg true true true [c] [c] = [c] := by rw [mrg_eq _ _ _ rfl, mrg_nil_left]; rfl
theorem may_one : mayB [3] [] [] = true := by
  rw [mayB_iff]
  exact ⟨⟨srt_one _, Srt.nil, Srt.nil⟩, ⟨fun z _ h => by simp at h, fun z _ h => by simp at h, fun z h => by simp at h⟩, by decide⟩
theorem fl_none (g : Nat) : Sv.none.flows (lone g 3) = true := by simp [Sv.flows, Sv.none, lone, mrg_nil_left]
theorem fl_one (g : Nat) : (lone g 3).flows Sv.none = false := by simp [Sv.flows, Sv.none, lone, mrg_nil_right]
theorem sm_one (x : Sv) : x.same x = true := by simp [Sv.same]

set_option maxHeartbeats 4000000 in
theorem begun8_true (w : World) : Calls Try.prog 8 #[] w fun e w' => e = .returned (.bool true) ∧ Below w.heap.size w w' := by
  go_enter Try.func8, Try.ntmps8
  go_wp2_with fail
  obtain ⟨W0, hW0⟩ : ∃ V, V = (w.alloc (Obj.cells #[.int .u16 3] 25)).alloc (Obj.cells #[.slice (some ⟨w.heap.size, 0, none⟩) 1 1, .slice none 0 0, .slice none 0 0] 24) := ⟨_, rfl⟩
  rw [← hW0]
  have HK : Hid (∀ W, Below W0.heap.size W0 W → (W.cell? ⟨w.heap.size + 1, 0, none⟩ = some (.slice (some ⟨w.heap.size, 0, none⟩) 1 1) ∧ W.cell? ⟨w.heap.size + 1, 1, none⟩ = some (.slice none 0 0) ∧ W.cell? ⟨w.heap.size + 1, 2, none⟩ = some (.slice none 0 0)) ∧ (lone w.heap.size 3).In W ∧ Below w.heap.size w W) := fun W h => by
    rw [hW0] at h
    have h0 := heap_new_at (w.alloc (Obj.cells #[.int .u16 3] 25)) (Obj.cells #[.slice (some ⟨w.heap.size, 0, none⟩) 1 1, .slice none 0 0, .slice none 0 0] 24) (w.heap.size + 1) (by simp)
    exact ⟨⟨by rw [h.cell (by simp)]; exact cell_of_heap h0 0 _ rfl, by rw [h.cell (by simp)]; exact cell_of_heap h0 1 _ rfl, by rw [h.cell (by simp)]; exact cell_of_heap h0 2 _ rfl⟩, lone_in ((roww_lit_at w _ rfl 25 [3] 1 rfl (by omega) (wrd_of _ (by decide))).below (ext_trans (below_alloc _ _) h)), ext_trans (two_allocs _ _ _) h⟩
  have hR := Below.refl W0.heap.size W0
  clear hW0
  refine (addS_any (lone w.heap.size 3) 3 (by omega) _ (HK.out _ hR).2.1 (by simp [lone]) (by simp [lone]) (by simp [lone])).mono ?_
  rintro e w1 ⟨r, rfl, hr, ⟨hr1, hr2, hr3⟩, _, hb1⟩
  have hn1 : r.n1 = 0 := by rw [← hr.r1.len, hr1]; exact congrArg List.length (less_self 3)
  have hn3 : r.n3 = 1 := by rw [← hr.r3.len, hr3]; show (mrg true true true [] [3]).length = 1; rw [mrg_nil_left]; rfl
  clear hr1 hr2 hr3 hr
  obtain ⟨⟨c0, c1, c2⟩, _, _⟩ := HK.out _ hb1
  replace c0 := cell_old (Obj.cells #[.slice r.a1 0 r.c1, .slice r.a2 r.n2 r.c2, .slice r.a3 1 r.c3] 24) c0
  replace c1 := cell_old (Obj.cells #[.slice r.a1 0 r.c1, .slice r.a2 r.n2 r.c2, .slice r.a3 1 r.c3] 24) c1
  replace c2 := cell_old (Obj.cells #[.slice r.a1 0 r.c1, .slice r.a2 r.n2 r.c2, .slice r.a3 1 r.c3] 24) c2
  go_wp2_with fail
  clear c0 c1 c2
  obtain ⟨W2, hW2⟩ : ∃ V, V = w1.alloc (Obj.cells #[.slice r.a1 0 r.c1, .slice r.a2 r.n2 r.c2, .slice r.a3 1 r.c3] 24) := ⟨_, rfl⟩
  rw [← hW2]
  have HJ : Hid (∀ W, Below W2.heap.size W2 W → (W.cell? ⟨w.heap.size + 1, 0, none⟩ = some (.slice (some ⟨w.heap.size, 0, none⟩) 1 1) ∧ W.cell? ⟨w.heap.size + 1, 1, none⟩ = some (.slice none 0 0) ∧ W.cell? ⟨w.heap.size + 1, 2, none⟩ = some (.slice none 0 0)) ∧ (W.cell? ⟨w1.heap.size, 0, none⟩ = some (.slice r.a1 0 r.c1) ∧ W.cell? ⟨w1.heap.size, 2, none⟩ = some (.slice r.a3 1 r.c3)) ∧ (lone w.heap.size 3).In W ∧ Below w.heap.size w W) := fun W h => by
    rw [hW2] at h
    obtain ⟨k1, k2, k3⟩ := HK.out W (ext_trans hb1 (ext_trans (below_alloc _ _) h))
    exact ⟨k1, ⟨by rw [h.cell (by simp)]; simp, by rw [h.cell (by simp)]; simp⟩, k2, k3⟩
  have hu0 := Below.refl W2.heap.size W2
  clear hW2 hb1 hR HK
  obtain ⟨⟨c0, c1, c2⟩, ⟨d0, d2⟩, hi, _⟩ := HJ.out _ hu0
  refine (maySets_any (lone w.heap.size 3) _ hi).mono ?_
  rintro e u1 ⟨rfl, hu1⟩
  rw [show mayB (lone w.heap.size 3).xs (lone w.heap.size 3).ys (lone w.heap.size 3).zs = true from may_one]
  clear hi c0 c1 c2 d0 d2
  replace hu1 := ext_trans hu0 hu1
  clear hu0
  obtain ⟨⟨c0, c1, c2⟩, ⟨d0, d2⟩, hi, hfin⟩ := HJ.out _ hu1
  clear hi
  go_wp2_with fail
  clear hfin c0 c1 c2 d0 d2
  obtain ⟨⟨c0, c1, c2⟩, ⟨d0, d2⟩, hi, _⟩ := HJ.out _ hu1
  refine (sameSets_any (lone w.heap.size 3) (lone w.heap.size 3) _ hi hi).mono ?_
  rintro e u2 ⟨rfl, hu2⟩
  rw [sm_one]
  clear hi c0 c1 c2 d0 d2
  replace hu2 := ext_trans hu1 hu2
  clear hu1
  obtain ⟨⟨c0, c1, c2⟩, ⟨d0, d2⟩, hi, hfin⟩ := HJ.out _ hu2
  clear hi
  go_wp2_with fail
  clear hfin c0 c1 c2 d0 d2
  obtain ⟨⟨c0, c1, c2⟩, ⟨d0, d2⟩, hi, _⟩ := HJ.out _ hu2
  refine (flowsS_any Sv.none (lone w.heap.size 3) _ (Sv.none_in _) hi (by simp [lone, Sv.none]) (by simp [lone, Sv.none])).mono ?_
  rintro e u3 ⟨rfl, hu3⟩
  rw [fl_none]
  clear hi c0 c1 c2 d0 d2
  replace hu3 := ext_trans hu2 hu3
  clear hu2
  obtain ⟨⟨c0, c1, c2⟩, ⟨d0, d2⟩, hi, hfin⟩ := HJ.out _ hu3
  clear hi
  go_wp2_with fail
  clear hfin c0 c1 c2 d0 d2
  obtain ⟨⟨c0, c1, c2⟩, ⟨d0, d2⟩, hi, _⟩ := HJ.out _ hu3
  refine (flowsS_any (lone w.heap.size 3) Sv.none _ hi (Sv.none_in _) (by simp [lone, Sv.none]) (by simp [lone, Sv.none])).mono ?_
  rintro e u4 ⟨rfl, hu4⟩
  rw [fl_one]
  clear hi c0 c1 c2 d0 d2
  replace hu4 := ext_trans hu3 hu4
  clear hu3
  obtain ⟨⟨c0, c1, c2⟩, ⟨d0, d2⟩, hi, hfin⟩ := HJ.out _ hu4
  clear hi
  go_wp2_with fail
  clear hfin c0 c1 c2 d0 d2
  obtain ⟨⟨c0, c1, c2⟩, ⟨d0, d2⟩, hi, _⟩ := HJ.out _ hu4
  refine (joinS_any (lone w.heap.size 3) (lone w.heap.size 3) _ hi hi (by simp [lone]) (by simp [lone])).mono ?_
  rintro e u5 ⟨j, rfl, hj, ⟨hj1, _, _⟩, _, hu5⟩
  have hjn : j.n1 = 1 := by rw [← hj.r1.len, hj1]; exact congrArg List.length (or_self 3)
  clear hj hj1
  clear hi c0 c1 c2 d0 d2
  replace hu5 := ext_trans hu4 hu5
  clear hu4
  obtain ⟨⟨c0, c1, c2⟩, ⟨d0, d2⟩, hi, hfin⟩ := HJ.out _ hu5
  clear hi
  go_wp2_with fail
  go_ret
  exact ⟨rfl, hfin⟩
end Go.Proofs.Yteageheimghdiaa
