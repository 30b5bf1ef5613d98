/- May1Forms answers true: the walk. -/
import Derived.Test.YtnenljdcgokneaaM1Begun
namespace Go.Proofs.Ytnenljdcgokneaa
open Go.RowKit

set_option maxRecDepth 100000 in
set_option maxHeartbeats 8000000 in
theorem may1Forms_walk (w : World) : Calls Try.prog 8 #[] w fun e w' => e = .returned (.bool true) ∧ Below w.heap.size w w' := by
  go_enter Try.func8, Try.ntmps8
  go_wp2_with fail
  refine (begun7_true _).mono ?_
  rintro e w1 ⟨rfl, hb1⟩
  go_wp2_with fail
  obtain ⟨W0, hW0⟩ : ∃ x, x = (((((((((w1.alloc (Obj.cells #[.int .u8 2, .slice none 0 0] 24)).alloc (Obj.cells #[.int .u16 3, .int .u8 0] 39)).alloc (Obj.cells #[.int .u8 2, .slice (some ⟨w1.heap.size + 1, 0, none⟩) 1 1] 24)).alloc (Obj.cells #[.int .u16 3, .int .u8 4] 39)).alloc (Obj.cells #[.int .u8 2, .slice (some ⟨w1.heap.size + 1 + 1 + 1, 0, none⟩) 1 1] 24)).alloc (Obj.cells #[.int .u16 3, .int .u8 1] 39)).alloc (Obj.cells #[.int .u8 2, .slice (some ⟨w1.heap.size + 1 + 1 + 1 + 1 + 1, 0, none⟩) 1 1] 24)).alloc (Obj.cells #[.int .u16 3, .int .u8 3] 39)).alloc (Obj.cells #[.int .u8 2, .slice (some ⟨w1.heap.size + 1 + 1 + 1 + 1 + 1 + 1 + 1, 0, none⟩) 1 1] 24)) := ⟨_, rfl⟩
  rw [← hW0]
  have HK : Hid (∀ W, Below W0.heap.size W0 W → W.cell? ⟨w1.heap.size, 0, none⟩ = some (.int .u8 2) ∧ W.cell? ⟨w1.heap.size, 1, none⟩ = some (.slice none 0 0) ∧ W.cell? ⟨w1.heap.size + 1 + 1, 0, none⟩ = some (.int .u8 2) ∧ W.cell? ⟨w1.heap.size + 1 + 1, 1, none⟩ = some (.slice (some ⟨w1.heap.size + 1, 0, none⟩) 1 1) ∧ W.cell? ⟨w1.heap.size + 1 + 1 + 1 + 1, 0, none⟩ = some (.int .u8 2) ∧ W.cell? ⟨w1.heap.size + 1 + 1 + 1 + 1, 1, none⟩ = some (.slice (some ⟨w1.heap.size + 1 + 1 + 1, 0, none⟩) 1 1) ∧ W.cell? ⟨w1.heap.size + 1 + 1 + 1 + 1 + 1 + 1, 0, none⟩ = some (.int .u8 2) ∧ W.cell? ⟨w1.heap.size + 1 + 1 + 1 + 1 + 1 + 1, 1, none⟩ = some (.slice (some ⟨w1.heap.size + 1 + 1 + 1 + 1 + 1, 0, none⟩) 1 1) ∧ W.cell? ⟨w1.heap.size + 1 + 1 + 1 + 1 + 1 + 1 + 1 + 1, 0, none⟩ = some (.int .u8 2) ∧ W.cell? ⟨w1.heap.size + 1 + 1 + 1 + 1 + 1 + 1 + 1 + 1, 1, none⟩ = some (.slice (some ⟨w1.heap.size + 1 + 1 + 1 + 1 + 1 + 1 + 1, 0, none⟩) 1 1) ∧ On W (some ⟨w1.heap.size + 1, 0, none⟩) 1 1 [(3, 0)] 0 ∧ On W (some ⟨w1.heap.size + 1 + 1 + 1, 0, none⟩) 1 1 [(3, 4)] 4 ∧ On W (some ⟨w1.heap.size + 1 + 1 + 1 + 1 + 1, 0, none⟩) 1 1 [(3, 1)] 1 ∧ On W (some ⟨w1.heap.size + 1 + 1 + 1 + 1 + 1 + 1 + 1, 0, none⟩) 1 1 [(3, 3)] 3 ∧ Below w.heap.size w W) := fun W h => by
    rw [hW0] at h
    have h3 := lit_lab (((((((w1.alloc (Obj.cells #[.int .u8 2, .slice none 0 0] 24)).alloc (Obj.cells #[.int .u16 3, .int .u8 0] 39)).alloc (Obj.cells #[.int .u8 2, .slice (some ⟨w1.heap.size + 1, 0, none⟩) 1 1] 24)).alloc (Obj.cells #[.int .u16 3, .int .u8 4] 39)).alloc (Obj.cells #[.int .u8 2, .slice (some ⟨w1.heap.size + 1 + 1 + 1, 0, none⟩) 1 1] 24)).alloc (Obj.cells #[.int .u16 3, .int .u8 1] 39)).alloc (Obj.cells #[.int .u8 2, .slice (some ⟨w1.heap.size + 1 + 1 + 1 + 1 + 1, 0, none⟩) 1 1] 24)) 3 (by omega) (w1.heap.size + 1 + 1 + 1 + 1 + 1 + 1 + 1) (by simp) W h
    have h2 := lit_lab (((((w1.alloc (Obj.cells #[.int .u8 2, .slice none 0 0] 24)).alloc (Obj.cells #[.int .u16 3, .int .u8 0] 39)).alloc (Obj.cells #[.int .u8 2, .slice (some ⟨w1.heap.size + 1, 0, none⟩) 1 1] 24)).alloc (Obj.cells #[.int .u16 3, .int .u8 4] 39)).alloc (Obj.cells #[.int .u8 2, .slice (some ⟨w1.heap.size + 1 + 1 + 1, 0, none⟩) 1 1] 24)) 1 (by omega) (w1.heap.size + 1 + 1 + 1 + 1 + 1) (by simp) W h3.2.2.2
    have h1 := lit_lab (((w1.alloc (Obj.cells #[.int .u8 2, .slice none 0 0] 24)).alloc (Obj.cells #[.int .u16 3, .int .u8 0] 39)).alloc (Obj.cells #[.int .u8 2, .slice (some ⟨w1.heap.size + 1, 0, none⟩) 1 1] 24)) 4 (by omega) (w1.heap.size + 1 + 1 + 1) (by simp) W h2.2.2.2
    have h0 := lit_lab (w1.alloc (Obj.cells #[.int .u8 2, .slice none 0 0] 24)) 0 (by omega) (w1.heap.size + 1) (by simp) W h1.2.2.2
    have hp := plain_lab w1 w1.heap.size rfl W h0.2.2.2
    exact ⟨hp.1, hp.2.1, h0.1, h0.2.1, h1.1, h1.2.1, h2.1, h2.2.1, h3.1, h3.2.1, h0.2.2.1, h1.2.2.1, h2.2.2.1, h3.2.2.1, ext_trans hb1 hp.2.2⟩
  have hR := Below.refl W0.heap.size W0
  clear hW0 hb1
  obtain ⟨p0, p1, q0, q1, r0, r1, s0, s1, t0, t1, star, seen, sure, two, _⟩ := HK.out _ hR
  refine (sees_on 0 4 true (by decide) star seen).mono ?_
  rintro e u0 ⟨rfl, hu0⟩
  clear star seen sure two p0 p1 q0 q1 r0 r1 s0 s1 t0 t1
  replace hu0 := ext_trans hR hu0
  obtain ⟨p0, p1, q0, q1, r0, r1, s0, s1, t0, t1, star, seen, sure, two, hfin⟩ := HK.out _ hu0
  clear star seen sure two
  go_wp2_with fail
  clear p0 p1 q0 q1 r0 r1 s0 s1 t0 t1
  clear hfin
  obtain ⟨p0, p1, q0, q1, r0, r1, s0, s1, t0, t1, star, seen, sure, two, _⟩ := HK.out _ hu0
  refine (turns_on 0 1 true (by decide) star sure).mono ?_
  rintro e u1 ⟨rfl, hu1⟩
  clear star seen sure two p0 p1 q0 q1 r0 r1 s0 s1 t0 t1
  replace hu1 := ext_trans hu0 hu1
  clear hu0
  obtain ⟨p0, p1, q0, q1, r0, r1, s0, s1, t0, t1, star, seen, sure, two, hfin⟩ := HK.out _ hu1
  clear star seen sure two
  go_wp2_with fail
  clear p0 p1 q0 q1 r0 r1 s0 s1 t0 t1
  clear hfin
  obtain ⟨p0, p1, q0, q1, r0, r1, s0, s1, t0, t1, star, seen, sure, two, _⟩ := HK.out _ hu1
  refine (sees_on 2 1 true (by decide) (on_nil _) sure).mono ?_
  rintro e u2 ⟨rfl, hu2⟩
  clear star seen sure two p0 p1 q0 q1 r0 r1 s0 s1 t0 t1
  replace hu2 := ext_trans hu1 hu2
  clear hu1
  obtain ⟨p0, p1, q0, q1, r0, r1, s0, s1, t0, t1, star, seen, sure, two, hfin⟩ := HK.out _ hu2
  clear star seen sure two
  go_wp2_with fail
  clear p0 p1 q0 q1 r0 r1 s0 s1 t0 t1
  clear hfin
  obtain ⟨p0, p1, q0, q1, r0, r1, s0, s1, t0, t1, star, seen, sure, two, _⟩ := HK.out _ hu2
  refine (turns_on 2 1 false (by decide) (on_nil _) sure).mono ?_
  rintro e u3 ⟨rfl, hu3⟩
  clear star seen sure two p0 p1 q0 q1 r0 r1 s0 s1 t0 t1
  replace hu3 := ext_trans hu2 hu3
  clear hu2
  obtain ⟨p0, p1, q0, q1, r0, r1, s0, s1, t0, t1, star, seen, sure, two, hfin⟩ := HK.out _ hu3
  clear star seen sure two
  go_wp2_with fail
  clear p0 p1 q0 q1 r0 r1 s0 s1 t0 t1
  clear hfin
  obtain ⟨p0, p1, q0, q1, r0, r1, s0, s1, t0, t1, star, seen, sure, two, _⟩ := HK.out _ hu3
  refine (turns_on 1 2 true (by decide) sure (on_nil _)).mono ?_
  rintro e u4 ⟨rfl, hu4⟩
  clear star seen sure two p0 p1 q0 q1 r0 r1 s0 s1 t0 t1
  replace hu4 := ext_trans hu3 hu4
  clear hu3
  obtain ⟨p0, p1, q0, q1, r0, r1, s0, s1, t0, t1, star, seen, sure, two, hfin⟩ := HK.out _ hu4
  clear star seen sure two
  go_wp2_with fail
  clear p0 p1 q0 q1 r0 r1 s0 s1 t0 t1
  clear hfin
  obtain ⟨p0, p1, q0, q1, r0, r1, s0, s1, t0, t1, star, seen, sure, two, _⟩ := HK.out _ hu4
  refine (sees_on 1 2 false (by decide) sure (on_nil _)).mono ?_
  rintro e u5 ⟨rfl, hu5⟩
  clear star seen sure two p0 p1 q0 q1 r0 r1 s0 s1 t0 t1
  replace hu5 := ext_trans hu4 hu5
  clear hu4
  obtain ⟨p0, p1, q0, q1, r0, r1, s0, s1, t0, t1, star, seen, sure, two, hfin⟩ := HK.out _ hu5
  clear star seen sure two
  go_wp2_with fail
  clear p0 p1 q0 q1 r0 r1 s0 s1 t0 t1
  clear hfin
  obtain ⟨p0, p1, q0, q1, r0, r1, s0, s1, t0, t1, star, seen, sure, two, _⟩ := HK.out _ hu5
  refine (sees_on 3 2 true (by decide) two (on_nil _)).mono ?_
  rintro e u6 ⟨rfl, hu6⟩
  clear star seen sure two p0 p1 q0 q1 r0 r1 s0 s1 t0 t1
  replace hu6 := ext_trans hu5 hu6
  clear hu5
  obtain ⟨p0, p1, q0, q1, r0, r1, s0, s1, t0, t1, star, seen, sure, two, hfin⟩ := HK.out _ hu6
  clear star seen sure two
  go_wp2_with fail
  clear p0 p1 q0 q1 r0 r1 s0 s1 t0 t1
  clear hfin
  obtain ⟨p0, p1, q0, q1, r0, r1, s0, s1, t0, t1, star, seen, sure, two, _⟩ := HK.out _ hu6
  refine (sees_on 3 4 false (by decide) two seen).mono ?_
  rintro e u7 ⟨rfl, hu7⟩
  clear star seen sure two p0 p1 q0 q1 r0 r1 s0 s1 t0 t1
  replace hu7 := ext_trans hu6 hu7
  clear hu6
  obtain ⟨p0, p1, q0, q1, r0, r1, s0, s1, t0, t1, star, seen, sure, two, hfin⟩ := HK.out _ hu7
  clear star seen sure two
  go_wp2_with fail
  clear p0 p1 q0 q1 r0 r1 s0 s1 t0 t1
  clear hfin
  obtain ⟨p0, p1, q0, q1, r0, r1, s0, s1, t0, t1, star, seen, sure, two, _⟩ := HK.out _ hu7
  refine (turns_on 3 4 true (by decide) two seen).mono ?_
  rintro e u8 ⟨rfl, hu8⟩
  clear star seen sure two p0 p1 q0 q1 r0 r1 s0 s1 t0 t1
  replace hu8 := ext_trans hu7 hu8
  clear hu7
  obtain ⟨p0, p1, q0, q1, r0, r1, s0, s1, t0, t1, star, seen, sure, two, hfin⟩ := HK.out _ hu8
  clear star seen sure two
  go_wp2_with fail
  clear p0 p1 q0 q1 r0 r1 s0 s1 t0 t1
  clear hfin
  obtain ⟨p0, p1, q0, q1, r0, r1, s0, s1, t0, t1, star, seen, sure, two, _⟩ := HK.out _ hu8
  refine (names_on false (by decide) two).mono ?_
  rintro e u9 ⟨rfl, hu9⟩
  clear star seen sure two p0 p1 q0 q1 r0 r1 s0 s1 t0 t1
  replace hu9 := ext_trans hu8 hu9
  clear hu8
  obtain ⟨p0, p1, q0, q1, r0, r1, s0, s1, t0, t1, star, seen, sure, two, hfin⟩ := HK.out _ hu9
  clear star seen sure two
  go_wp2_with fail
  clear p0 p1 q0 q1 r0 r1 s0 s1 t0 t1
  clear hfin
  obtain ⟨p0, p1, q0, q1, r0, r1, s0, s1, t0, t1, star, seen, sure, two, _⟩ := HK.out _ hu9
  refine (names_any 3 none 0 0 [] _ (RowG.nil _ _)).mono ?_
  rintro e u10 ⟨rfl, hu10⟩
  rw [show nameB 3 [] = false by decide]
  clear star seen sure two p0 p1 q0 q1 r0 r1 s0 s1 t0 t1
  replace hu10 := ext_trans hu9 hu10
  clear hu9
  obtain ⟨p0, p1, q0, q1, r0, r1, s0, s1, t0, t1, star, seen, sure, two, hfin⟩ := HK.out _ hu10
  clear star seen sure two
  go_wp2_with fail
  clear p0 p1 q0 q1 r0 r1 s0 s1 t0 t1
  clear hfin
  obtain ⟨p0, p1, q0, q1, r0, r1, s0, s1, t0, t1, star, seen, sure, two, _⟩ := HK.out _ hu10
  refine (names_on true (by decide) star).mono ?_
  rintro e u11 ⟨rfl, hu11⟩
  clear star seen sure two p0 p1 q0 q1 r0 r1 s0 s1 t0 t1
  replace hu11 := ext_trans hu10 hu11
  clear hu10
  obtain ⟨p0, p1, q0, q1, r0, r1, s0, s1, t0, t1, star, seen, sure, two, hfin⟩ := HK.out _ hu11
  clear star seen sure two
  go_wp2_with fail
  clear p0 p1 q0 q1 r0 r1 s0 s1 t0 t1
  clear hfin
  obtain ⟨p0, p1, q0, q1, r0, r1, s0, s1, t0, t1, star, seen, sure, two, _⟩ := HK.out _ hu11
  refine (rises_on 2 0 5 (by decide) (on_nil _) star).mono ?_
  rintro e u12 ⟨rfl, hu12⟩
  clear star seen sure two p0 p1 q0 q1 r0 r1 s0 s1 t0 t1
  replace hu12 := ext_trans hu11 hu12
  clear hu11
  obtain ⟨p0, p1, q0, q1, r0, r1, s0, s1, t0, t1, star, seen, sure, two, hfin⟩ := HK.out _ hu12
  clear star seen sure two
  go_wp2_with fail
  clear p0 p1 q0 q1 r0 r1 s0 s1 t0 t1
  clear hfin
  obtain ⟨p0, p1, q0, q1, r0, r1, s0, s1, t0, t1, star, seen, sure, two, _⟩ := HK.out _ hu12
  refine (rises_on 0 0 0 (by decide) star star).mono ?_
  rintro e u13 ⟨rfl, hu13⟩
  clear star seen sure two p0 p1 q0 q1 r0 r1 s0 s1 t0 t1
  replace hu13 := ext_trans hu12 hu13
  clear hu12
  obtain ⟨p0, p1, q0, q1, r0, r1, s0, s1, t0, t1, star, seen, sure, two, hfin⟩ := HK.out _ hu13
  clear star seen sure two
  go_wp2_with fail
  clear p0 p1 q0 q1 r0 r1 s0 s1 t0 t1
  clear hfin
  obtain ⟨p0, p1, q0, q1, r0, r1, s0, s1, t0, t1, star, seen, sure, two, _⟩ := HK.out _ hu13
  refine (rises_on 0 1 0 (by decide) star sure).mono ?_
  rintro e u14 ⟨rfl, hu14⟩
  clear star seen sure two p0 p1 q0 q1 r0 r1 s0 s1 t0 t1
  replace hu14 := ext_trans hu13 hu14
  clear hu13
  obtain ⟨p0, p1, q0, q1, r0, r1, s0, s1, t0, t1, star, seen, sure, two, hfin⟩ := HK.out _ hu14
  clear star seen sure two
  go_wp2_with fail
  clear p0 p1 q0 q1 r0 r1 s0 s1 t0 t1
  clear hfin
  obtain ⟨p0, p1, q0, q1, r0, r1, s0, s1, t0, t1, star, seen, sure, two, _⟩ := HK.out _ hu14
  refine (rises_on 4 1 6 (by decide) seen sure).mono ?_
  rintro e u15 ⟨rfl, hu15⟩
  clear star seen sure two p0 p1 q0 q1 r0 r1 s0 s1 t0 t1
  replace hu15 := ext_trans hu14 hu15
  clear hu14
  obtain ⟨p0, p1, q0, q1, r0, r1, s0, s1, t0, t1, star, seen, sure, two, hfin⟩ := HK.out _ hu15
  clear star seen sure two
  go_wp2_with fail
  clear p0 p1 q0 q1 r0 r1 s0 s1 t0 t1
  clear hfin
  obtain ⟨p0, p1, q0, q1, r0, r1, s0, s1, t0, t1, star, seen, sure, two, _⟩ := HK.out _ hu15
  refine (rises_on 2 3 4 (by decide) (on_nil _) two).mono ?_
  rintro e u16 ⟨rfl, hu16⟩
  clear star seen sure two p0 p1 q0 q1 r0 r1 s0 s1 t0 t1
  replace hu16 := ext_trans hu15 hu16
  clear hu15
  obtain ⟨p0, p1, q0, q1, r0, r1, s0, s1, t0, t1, star, seen, sure, two, hfin⟩ := HK.out _ hu16
  clear star seen sure two
  go_wp2_with fail
  clear p0 p1 q0 q1 r0 r1 s0 s1 t0 t1
  clear hfin
  obtain ⟨p0, p1, q0, q1, r0, r1, s0, s1, t0, t1, star, seen, sure, two, _⟩ := HK.out _ hu16
  refine (rises_on 3 4 0 (by decide) two seen).mono ?_
  rintro e u17 ⟨rfl, hu17⟩
  clear star seen sure two p0 p1 q0 q1 r0 r1 s0 s1 t0 t1
  replace hu17 := ext_trans hu16 hu17
  clear hu16
  obtain ⟨p0, p1, q0, q1, r0, r1, s0, s1, t0, t1, star, seen, sure, two, hfin⟩ := HK.out _ hu17
  clear star seen sure two
  go_wp2_with fail
  clear p0 p1 q0 q1 r0 r1 s0 s1 t0 t1
  clear hfin
  obtain ⟨p0, p1, q0, q1, r0, r1, s0, s1, t0, t1, star, seen, sure, two, _⟩ := HK.out _ hu17
  refine (makes_on 0 0 5 (by decide) star star).mono ?_
  rintro e u18 ⟨rfl, hu18⟩
  clear star seen sure two p0 p1 q0 q1 r0 r1 s0 s1 t0 t1
  replace hu18 := ext_trans hu17 hu18
  clear hu17
  obtain ⟨p0, p1, q0, q1, r0, r1, s0, s1, t0, t1, star, seen, sure, two, hfin⟩ := HK.out _ hu18
  clear star seen sure two
  go_wp2_with fail
  clear p0 p1 q0 q1 r0 r1 s0 s1 t0 t1
  clear hfin
  obtain ⟨p0, p1, q0, q1, r0, r1, s0, s1, t0, t1, star, seen, sure, two, _⟩ := HK.out _ hu18
  refine (makes_on 2 3 4 (by decide) (on_nil _) two).mono ?_
  rintro e u19 ⟨rfl, hu19⟩
  clear star seen sure two p0 p1 q0 q1 r0 r1 s0 s1 t0 t1
  replace hu19 := ext_trans hu18 hu19
  clear hu18
  obtain ⟨p0, p1, q0, q1, r0, r1, s0, s1, t0, t1, star, seen, sure, two, hfin⟩ := HK.out _ hu19
  clear star seen sure two
  go_wp2_with fail
  clear p0 p1 q0 q1 r0 r1 s0 s1 t0 t1
  clear hfin
  obtain ⟨p0, p1, q0, q1, r0, r1, s0, s1, t0, t1, star, seen, sure, two, _⟩ := HK.out _ hu19
  refine (makes_on 2 1 6 (by decide) (on_nil _) sure).mono ?_
  rintro e u20 ⟨rfl, hu20⟩
  clear star seen sure two p0 p1 q0 q1 r0 r1 s0 s1 t0 t1
  replace hu20 := ext_trans hu19 hu20
  clear hu19
  obtain ⟨p0, p1, q0, q1, r0, r1, s0, s1, t0, t1, star, seen, sure, two, hfin⟩ := HK.out _ hu20
  clear star seen sure two
  go_wp2_with fail
  clear p0 p1 q0 q1 r0 r1 s0 s1 t0 t1
  clear hfin
  obtain ⟨p0, p1, q0, q1, r0, r1, s0, s1, t0, t1, star, seen, sure, two, _⟩ := HK.out _ hu20
  refine (makes_on 0 1 0 (by decide) star sure).mono ?_
  rintro e u21 ⟨rfl, hu21⟩
  clear star seen sure two p0 p1 q0 q1 r0 r1 s0 s1 t0 t1
  replace hu21 := ext_trans hu20 hu21
  clear hu20
  obtain ⟨p0, p1, q0, q1, r0, r1, s0, s1, t0, t1, star, seen, sure, two, hfin⟩ := HK.out _ hu21
  clear star seen sure two
  go_wp2_with fail
  clear p0 p1 q0 q1 r0 r1 s0 s1 t0 t1
  go_ret
  exact ⟨rfl, hfin⟩
end Go.Proofs.Ytnenljdcgokneaa
