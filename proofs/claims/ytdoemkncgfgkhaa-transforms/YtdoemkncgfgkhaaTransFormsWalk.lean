/- TransForms walked: it answers true, and turns nothing that was there. -/
import Derived.Test.YtdoemkncgfgkhaaTr2
namespace Go.Proofs.Ytdoemkncgfgkhaa
open Go.RowKit
set_option maxRecDepth 100000

theorem three_ok : ∀ p ∈ ([(1, 4), (2, 1), (3, 0)] : List (Int × Int)), (0 ≤ p.1 ∧ p.1 < 65536) ∧ (0 ≤ p.2 ∧ p.2 < 256) := by decide
theorem lit_three (w : World) : ∀ W, Below ((w.alloc (Obj.cells #[.int .u16 1, .int .u8 4, .int .u16 2, .int .u8 1, .int .u16 3, .int .u8 0] 40)).alloc (Obj.cells #[.int .u8 2, .slice (some ⟨w.heap.size, 0, none⟩) 3 3] 24)).heap.size ((w.alloc (Obj.cells #[.int .u16 1, .int .u8 4, .int .u16 2, .int .u8 1, .int .u16 3, .int .u8 0] 40)).alloc (Obj.cells #[.int .u8 2, .slice (some ⟨w.heap.size, 0, none⟩) 3 3] 24)) W → ((W.cell? ⟨w.heap.size + 1, 0, none⟩ = some (.int .u8 2) ∧ W.cell? ⟨w.heap.size + 1, 1, none⟩ = some (.slice (some ⟨w.heap.size, 0, none⟩) 3 3)) ∧ RowG PE W (some ⟨w.heap.size, 0, none⟩) 3 3 [(1, 4), (2, 1), (3, 0)]) ∧ Below w.heap.size w W := fun W h =>
  ⟨⟨⟨by rw [h.cell (by simp)]; simp, by rw [h.cell (by simp)]; simp⟩, ((owng_lit PE w 40 [(1, 4), (2, 1), (3, 0)] #[.int .u16 1, .int .u8 4, .int .u16 2, .int .u8 1, .int .u16 3, .int .u8 0] rfl 3 rfl (by omega) three_ok w.heap.size w.heap.size rfl (Nat.le_refl _)).row.below (below_alloc _ _)).below h⟩, ext_trans (two_allocs _ _ _) h⟩
theorem lb_three {w : World} {a : Option Addr} (h : RowG PE w a 3 3 [(1, 4), (2, 1), (3, 0)]) : Lb w 2 a 3 3 [(1, 4), (2, 1), (3, 0)] := ⟨h, ⟨by omega, by decide⟩, by unfold UpL; decide, by omega⟩
theorem bk_all : Bk [1] [2] [3] [(1, 4), (2, 1), (3, 0)] := by
  have h := Bk.of (ps := [(1, 4), (2, 1), (3, 0)]) ⟨by unfold UpL; decide, by decide⟩ (by decide)
  have e1 : starsL 4 [((1 : Int), (4 : Int)), (2, 1), (3, 0)] = [1] := by decide
  have e2 : starsL 1 [((1 : Int), (4 : Int)), (2, 1), (3, 0)] = [2] := by decide
  have e3 : starsL 0 [((1 : Int), (4 : Int)), (2, 1), (3, 0)] = [3] := by decide
  rwa [e1, e2, e3] at h
theorem may_all : MayP [1] [2] [3] := ⟨⟨srt_one _, srt_one _, srt_one _⟩, ⟨fun z h k => by simp at h k; omega, fun z h k => by simp at h k; omega, fun z h k => by simp at h k; omega⟩, by decide⟩
set_option maxHeartbeats 8000000 in
theorem transForms_walk (w : World) : Calls Try.prog 8 #[] w fun e w' => e = .returned (.bool true) ∧ Below w.heap.size w w' := by
  go_enter Try.func8, Try.ntmps8
  go_wp2_with fail
  refine (begun11_true _).mono ?_
  rintro e w1 ⟨rfl, hb1⟩
  have HC : Hid _ := lit_three w1
  go_wp2_with fail
  obtain ⟨W0, hW0⟩ : ∃ V, V = (w1.alloc (Obj.cells #[.int .u16 1, .int .u8 4, .int .u16 2, .int .u8 1, .int .u16 3, .int .u8 0] 40)).alloc (Obj.cells #[.int .u8 2, .slice (some ⟨w1.heap.size, 0, none⟩) 3 3] 24) := ⟨_, rfl⟩
  rw [← hW0] at HC ⊢
  clear hW0
  have h0 := Below.refl W0.heap.size W0
  obtain ⟨⟨⟨k0, k1⟩, hrow⟩, bw⟩ := HC.out _ h0
  refine (split_any 2 _ 3 3 _ _ (lb_three hrow)).mono ?_
  rintro e v1 ⟨r, E, rfl, hr, HS1, hv1⟩
  replace hv1 := ext_trans h0 hv1
  obtain ⟨rfl, hl1, hl2, hl3⟩ := HS1.out.back bk_all may_all
  have HL : Hid (r.xs = [1] ∧ r.ys = [2] ∧ r.zs = [3]) := ⟨hl1, hl2, hl3⟩
  clear hl1 hl2 hl3 HS1
  clear k0 k1 hrow bw
  have HC2 := more_sv r HC hr hv1
  obtain ⟨⟨⟨⟨k0, k1⟩, hrow⟩, ⟨t0, t1, t2⟩, hr1⟩, bw⟩ := HC2.out _ (Below.refl _ _)
  go_wp2_with fail
  clear k0 k1 hrow t0 t1 t2 hr1 bw
  obtain ⟨V1, hV1⟩ : ∃ V, V = v1.alloc (Obj.cells #[.slice r.a1 r.n1 r.c1, .slice r.a2 r.n2 r.c2, .slice r.a3 r.n3 r.c3] 27) := ⟨_, rfl⟩
  rw [← hV1] at HC2 ⊢
  clear hV1 hr hv1 h0 HC
  have hV1 := Below.refl V1.heap.size V1
  refine (split_any 1 none 0 0 [] _ (lb_nil _ 1 (by omega))).mono ?_
  rintro e v2 ⟨r2, E2, rfl, hr2, HS2, hv2⟩
  replace hv2 := ext_trans hV1 hv2
  obtain ⟨rfl, -⟩ := HS2.out.no (by decide)
  clear HS2
  have HC3 := more_sv r2 HC2 hr2 hv2
  go_wp2_with fail
  obtain ⟨V2, hV2⟩ : ∃ V, V = (v2.alloc (Obj.cells #[.slice r2.a1 r2.n1 r2.c1, .slice r2.a2 r2.n2 r2.c2, .slice r2.a3 r2.n3 r2.c3] 27)).alloc (Obj.cells #[.int .u16 1, .int .u8 3] 40) := ⟨_, rfl⟩
  have hb2 : Below (v2.alloc (Obj.cells #[.slice r2.a1 r2.n1 r2.c1, .slice r2.a2 r2.n2 r2.c2, .slice r2.a3 r2.n3 r2.c3] 27)).heap.size (v2.alloc (Obj.cells #[.slice r2.a1 r2.n1 r2.c1, .slice r2.a2 r2.n2 r2.c2, .slice r2.a3 r2.n3 r2.c3] 27)) V2 := hV2 ▸ below_alloc _ _
  have hrow2 : RowG PE V2 (some ⟨v2.heap.size + 1, 0, none⟩) 1 1 [(1, 3)] := by
    rw [hV2]
    exact (owng_lit PE (v2.alloc (Obj.cells #[.slice r2.a1 r2.n1 r2.c1, .slice r2.a2 r2.n2 r2.c2, .slice r2.a3 r2.n3 r2.c3] 27)) 40 [(1, 3)] #[.int .u16 1, .int .u8 3] rfl 1 rfl (by omega) (fun p hp => by simp at hp; subst hp; exact ⟨by decide, by decide⟩) _ (v2.heap.size + 1) (by simp) (Nat.le_refl _)).row
  rw [← hV2]
  clear hV2 hr2
  refine (split_any 2 _ 1 1 _ _ ⟨hrow2, ⟨by omega, by decide⟩, List.pairwise_singleton _ _, by omega⟩).mono ?_
  rintro e v3 ⟨r3, E3, rfl, hr3, HS3, hv3⟩
  replace hv3 := ext_trans hb2 hv3
  obtain ⟨rfl, -⟩ := HS3.out.no (by decide)
  clear HS3 hrow2 hb2
  have HC4 := more_sv r3 HC3 hr3 hv3
  go_wp2_with fail
  obtain ⟨V3, hV3⟩ : ∃ V, V = v3.alloc (Obj.cells #[.slice r3.a1 r3.n1 r3.c1, .slice r3.a2 r3.n2 r3.c2, .slice r3.a3 r3.n3 r3.c3] 27) := ⟨_, rfl⟩
  rw [← hV3] at HC4 ⊢
  clear hV3 hr3 hv3 HC3 hv2 HC2 hV1
  have hV3 := Below.refl V3.heap.size V3
  refine (split_any 2 none 0 0 [] _ (lb_nil _ 2 (by omega))).mono ?_
  rintro e v4 ⟨z, E4, rfl, hz, HS4, hv4⟩
  replace hv4 := ext_trans hV3 hv4
  obtain ⟨rfl, hz1, hz2, hz3⟩ := HS4.out.ok (by decide)
  have HZ : Hid (z.n1 = 0 ∧ z.n2 = 0 ∧ z.n3 = 0) := ⟨by rw [← hz.r1.len, hz1]; rfl, by rw [← hz.r2.len, hz2]; rfl, by rw [← hz.r3.len, hz3]; rfl⟩
  clear hz1 hz2 hz3 HS4
  have HC5 := more_sv z HC4 hz hv4
  obtain ⟨⟨⟨⟨⟨⟨⟨k0, k1⟩, hrow⟩, ⟨t0, t1, t2⟩, hr1⟩, -, -⟩, -, -⟩, ⟨u0, u1, u2⟩, hz1⟩, bw⟩ := HC5.out _ (Below.refl _ _)
  clear hv4 hV3 HC4
  go_wp2_with fail
  clear k0 k1 hrow t0 t1 t2 hr1 u0 u1 u2 hz1 bw
  obtain ⟨V4, hV4⟩ : ∃ V, V = v4.alloc (Obj.cells #[.slice z.a1 z.n1 z.c1, .slice z.a2 z.n2 z.c2, .slice z.a3 z.n3 z.c3] 27) := ⟨_, rfl⟩
  rw [← hV4] at HC5 ⊢
  clear hV4 hz
  have hV4 := Below.refl V4.heap.size V4
  obtain ⟨⟨⟨⟨⟨⟨⟨k0, k1⟩, hrow⟩, ⟨t0, t1, t2⟩, hr1⟩, -, -⟩, -, -⟩, ⟨u0, u1, u2⟩, hz1⟩, bw⟩ := HC5.out _ hV4
  clear u0 u1 u2 hrow k0 k1 bw
  obtain ⟨a1, n1, c1, l1, a2, n2, c2, l2, a3, n3, c3, l3⟩ := r
  obtain ⟨rfl, rfl, rfl⟩ := HL.out
  obtain rfl : 1 = n1 := hr1.r1.len
  obtain rfl : 1 = n2 := hr1.r2.len
  obtain rfl : 1 = n3 := hr1.r3.len
  obtain ⟨C1, b1, o1, rfl, hC1, -, y1⟩ := hr1.r1.at' 0 (show 0 < 1 by omega)
  obtain ⟨C2, b2, o2, rfl, hC2, -, y2⟩ := hr1.r2.at' 0 (show 0 < 1 by omega)
  obtain ⟨C3, b3, o3, rfl, hC3, -, y3⟩ := hr1.r3.at' 0 (show 0 < 1 by omega)
  obtain rfl : 1 = C1 := by simpa using hC1
  obtain rfl : 2 = C2 := by simpa using hC2
  obtain rfl : 3 = C3 := by simpa using hC3
  clear hC1 hC2 hC3 HL t0 t1 t2
  rw [Nat.add_zero] at y1 y2 y3
  have hB0 : Below V4.heap.size V4 V4.drew := ext_drew _
  have hr1' := hr1.below hB0
  obtain ⟨z1, z2, z3⟩ := HZ.out
  refine wp_region_noPanic ?_
  refine wp_region_held_drew (S := fun W => Below V4.heap.size V4 W) (by kernel_rfl) hB0 fun hS => ?_
  refine take_to (i := 0) (v := ?_) 39 rfl rfl (by kernel_rfl) (by kernel_rfl) (by kernel_rfl) (fun _ _ _ h => h) (Or.inl ⟨by rfl, ?_⟩) hS ?_
  rotate_left
  · intro W hW
    obtain ⟨⟨⟨⟨⟨⟨⟨k0, k1⟩, hrow⟩, ⟨t0, t1, t2⟩, hr1⟩, -, -⟩, -, -⟩, ⟨u0, u1, u2⟩, hz1⟩, _⟩ := HC5.out W hW; dsimp only at t0 t1 t2; have x1 := (hW.cell (lt_of_cell y1)).trans y1; have x2 := (hW.cell (lt_of_cell y2)).trans y2; have x3 := (hW.cell (lt_of_cell y3)).trans y3
    go_simp
    try with_reducible rfl
  simp only [List.setIfInBounds_toArray, List.set_cons_zero, List.set_cons_succ]
  refine take_to (i := 1) (v := ?_) 40 rfl rfl (by kernel_rfl) (by kernel_rfl) (by kernel_rfl) (fun _ _ _ h => h) (Or.inl ⟨by rfl, ?_⟩) hS ?_
  rotate_left
  · intro W hW
    obtain ⟨⟨⟨⟨⟨⟨⟨k0, k1⟩, hrow⟩, ⟨t0, t1, t2⟩, hr1⟩, -, -⟩, -, -⟩, ⟨u0, u1, u2⟩, hz1⟩, _⟩ := HC5.out W hW; dsimp only at t0 t1 t2; have x1 := (hW.cell (lt_of_cell y1)).trans y1; have x2 := (hW.cell (lt_of_cell y2)).trans y2; have x3 := (hW.cell (lt_of_cell y3)).trans y3
    go_simp
    try with_reducible rfl
  simp only [List.setIfInBounds_toArray, List.set_cons_zero, List.set_cons_succ]
  refine take_to (i := 2) (v := ?_) 41 rfl rfl (by kernel_rfl) (by kernel_rfl) (by kernel_rfl) (fun _ _ _ h => h) (Or.inl ⟨by rfl, ?_⟩) hS ?_
  rotate_left
  · intro W hW
    obtain ⟨⟨⟨⟨⟨⟨⟨k0, k1⟩, hrow⟩, ⟨t0, t1, t2⟩, hr1⟩, -, -⟩, -, -⟩, ⟨u0, u1, u2⟩, hz1⟩, _⟩ := HC5.out W hW; dsimp only at t0 t1 t2; have x1 := (hW.cell (lt_of_cell y1)).trans y1; have x2 := (hW.cell (lt_of_cell y2)).trans y2; have x3 := (hW.cell (lt_of_cell y3)).trans y3
    go_simp
    try with_reducible rfl
  simp only [List.setIfInBounds_toArray, List.set_cons_zero, List.set_cons_succ]
  refine take_to (i := 3) (v := ?_) 42 rfl rfl (by kernel_rfl) (by kernel_rfl) (by kernel_rfl) (fun _ _ _ h => h) (Or.inl ⟨by rfl, ?_⟩) hS ?_
  rotate_left
  · intro W hW
    obtain ⟨⟨⟨⟨⟨⟨⟨k0, k1⟩, hrow⟩, ⟨t0, t1, t2⟩, hr1⟩, -, -⟩, -, -⟩, ⟨u0, u1, u2⟩, hz1⟩, _⟩ := HC5.out W hW; dsimp only at t0 t1 t2; have x1 := (hW.cell (lt_of_cell y1)).trans y1; have x2 := (hW.cell (lt_of_cell y2)).trans y2; have x3 := (hW.cell (lt_of_cell y3)).trans y3
    go_simp
    try with_reducible rfl
  simp only [List.setIfInBounds_toArray, List.set_cons_zero, List.set_cons_succ]
  refine take_to (i := 4) (v := ?_) 43 rfl rfl (by kernel_rfl) (by kernel_rfl) (by kernel_rfl) (fun _ _ _ h => h) (Or.inl ⟨by rfl, ?_⟩) hS ?_
  rotate_left
  · intro W hW
    obtain ⟨⟨⟨⟨⟨⟨⟨k0, k1⟩, hrow⟩, ⟨t0, t1, t2⟩, hr1⟩, -, -⟩, -, -⟩, ⟨u0, u1, u2⟩, hz1⟩, _⟩ := HC5.out W hW; dsimp only at t0 t1 t2; have x1 := (hW.cell (lt_of_cell y1)).trans y1; have x2 := (hW.cell (lt_of_cell y2)).trans y2; have x3 := (hW.cell (lt_of_cell y3)).trans y3
    go_simp
    try with_reducible rfl
  simp only [List.setIfInBounds_toArray, List.set_cons_zero, List.set_cons_succ]
  refine take_to (i := 5) (v := ?_) 44 rfl rfl (by kernel_rfl) (by kernel_rfl) (by kernel_rfl) (fun _ _ _ h => h) (Or.inl ⟨by rfl, ?_⟩) hS ?_
  rotate_left
  · intro W hW
    obtain ⟨⟨⟨⟨⟨⟨⟨k0, k1⟩, hrow⟩, ⟨t0, t1, t2⟩, hr1⟩, -, -⟩, -, -⟩, ⟨u0, u1, u2⟩, hz1⟩, _⟩ := HC5.out W hW; dsimp only at t0 t1 t2; have x1 := (hW.cell (lt_of_cell y1)).trans y1; have x2 := (hW.cell (lt_of_cell y2)).trans y2; have x3 := (hW.cell (lt_of_cell y3)).trans y3
    go_simp
    try with_reducible rfl
  simp only [List.setIfInBounds_toArray, List.set_cons_zero, List.set_cons_succ]
  refine take_to (i := 6) (v := ?_) 45 rfl rfl (by kernel_rfl) (by kernel_rfl) (by kernel_rfl) (fun _ _ _ h => h) (Or.inl ⟨by rfl, ?_⟩) hS ?_
  rotate_left
  · intro W hW
    obtain ⟨⟨⟨⟨⟨⟨⟨k0, k1⟩, hrow⟩, ⟨t0, t1, t2⟩, hr1⟩, -, -⟩, -, -⟩, ⟨u0, u1, u2⟩, hz1⟩, _⟩ := HC5.out W hW; dsimp only at t0 t1 t2; have x1 := (hW.cell (lt_of_cell y1)).trans y1; have x2 := (hW.cell (lt_of_cell y2)).trans y2; have x3 := (hW.cell (lt_of_cell y3)).trans y3
    go_simp
    try with_reducible rfl
  simp only [List.setIfInBounds_toArray, List.set_cons_zero, List.set_cons_succ]
  refine take_to (i := 7) (v := ?_) 46 rfl rfl (by kernel_rfl) (by kernel_rfl) (by kernel_rfl) (fun _ _ _ h => h) (Or.inl ⟨by rfl, ?_⟩) hS ?_
  rotate_left
  · intro W hW
    obtain ⟨⟨⟨⟨⟨⟨⟨k0, k1⟩, hrow⟩, ⟨t0, t1, t2⟩, hr1⟩, -, -⟩, -, -⟩, ⟨u0, u1, u2⟩, hz1⟩, _⟩ := HC5.out W hW; dsimp only at t0 t1 t2; have x1 := (hW.cell (lt_of_cell y1)).trans y1; have x2 := (hW.cell (lt_of_cell y2)).trans y2; have x3 := (hW.cell (lt_of_cell y3)).trans y3
    go_simp
    try with_reducible rfl
  simp only [List.setIfInBounds_toArray, List.set_cons_zero, List.set_cons_succ]
  refine take_to (i := 8) (v := ?_) 47 rfl rfl (by kernel_rfl) (by kernel_rfl) (by kernel_rfl) (fun _ _ _ h => h) (Or.inl ⟨by rfl, ?_⟩) hS ?_
  rotate_left
  · intro W hW
    obtain ⟨⟨⟨⟨⟨⟨⟨k0, k1⟩, hrow⟩, ⟨t0, t1, t2⟩, hr1⟩, -, -⟩, -, -⟩, ⟨u0, u1, u2⟩, hz1⟩, _⟩ := HC5.out W hW; dsimp only at t0 t1 t2; have x1 := (hW.cell (lt_of_cell y1)).trans y1; have x2 := (hW.cell (lt_of_cell y2)).trans y2; have x3 := (hW.cell (lt_of_cell y3)).trans y3
    go_simp
    try with_reducible rfl
  simp only [List.setIfInBounds_toArray, List.set_cons_zero, List.set_cons_succ]
  refine take_to (i := 9) (v := ?_) 48 rfl rfl (by kernel_rfl) (by kernel_rfl) (by kernel_rfl) (fun _ _ _ h => h) (Or.inl ⟨by rfl, ?_⟩) hS ?_
  rotate_left
  · intro W hW
    obtain ⟨⟨⟨⟨⟨⟨⟨k0, k1⟩, hrow⟩, ⟨t0, t1, t2⟩, hr1⟩, -, -⟩, -, -⟩, ⟨u0, u1, u2⟩, hz1⟩, _⟩ := HC5.out W hW; dsimp only at t0 t1 t2; have x1 := (hW.cell (lt_of_cell y1)).trans y1; have x2 := (hW.cell (lt_of_cell y2)).trans y2; have x3 := (hW.cell (lt_of_cell y3)).trans y3
    go_simp
    try with_reducible rfl
  simp only [List.setIfInBounds_toArray, List.set_cons_zero, List.set_cons_succ]
  refine take_to (i := 10) (v := ?_) 49 rfl rfl (by kernel_rfl) (by kernel_rfl) (by kernel_rfl) (fun _ _ _ h => h) (Or.inl ⟨by rfl, ?_⟩) hS ?_
  rotate_left
  · intro W hW
    obtain ⟨⟨⟨⟨⟨⟨⟨k0, k1⟩, hrow⟩, ⟨t0, t1, t2⟩, hr1⟩, -, -⟩, -, -⟩, ⟨u0, u1, u2⟩, hz1⟩, _⟩ := HC5.out W hW; dsimp only at t0 t1 t2; have x1 := (hW.cell (lt_of_cell y1)).trans y1; have x2 := (hW.cell (lt_of_cell y2)).trans y2; have x3 := (hW.cell (lt_of_cell y3)).trans y3
    go_simp
    try with_reducible rfl
  simp only [List.setIfInBounds_toArray, List.set_cons_zero, List.set_cons_succ]
  refine take_to (i := 11) (v := ?_) 50 rfl rfl (by kernel_rfl) (by kernel_rfl) (by kernel_rfl) (fun _ _ _ h => h) (Or.inl ⟨by rfl, ?_⟩) hS ?_
  rotate_left
  · intro W hW
    obtain ⟨⟨⟨⟨⟨⟨⟨k0, k1⟩, hrow⟩, ⟨t0, t1, t2⟩, hr1⟩, -, -⟩, -, -⟩, ⟨u0, u1, u2⟩, hz1⟩, _⟩ := HC5.out W hW; dsimp only at t0 t1 t2; have x1 := (hW.cell (lt_of_cell y1)).trans y1; have x2 := (hW.cell (lt_of_cell y2)).trans y2; have x3 := (hW.cell (lt_of_cell y3)).trans y3
    go_simp
    try with_reducible rfl
  simp only [List.setIfInBounds_toArray, List.set_cons_zero, List.set_cons_succ]
  refine take_to (i := 12) (v := ?_) 51 rfl rfl (by kernel_rfl) (by kernel_rfl) (by kernel_rfl) (fun _ _ _ h => h) (Or.inl ⟨by rfl, ?_⟩) hS ?_
  rotate_left
  · intro W hW
    obtain ⟨⟨⟨⟨⟨⟨⟨k0, k1⟩, hrow⟩, ⟨t0, t1, t2⟩, hr1⟩, -, -⟩, -, -⟩, ⟨u0, u1, u2⟩, hz1⟩, _⟩ := HC5.out W hW; dsimp only at t0 t1 t2; have x1 := (hW.cell (lt_of_cell y1)).trans y1; have x2 := (hW.cell (lt_of_cell y2)).trans y2; have x3 := (hW.cell (lt_of_cell y3)).trans y3
    go_simp
    try with_reducible rfl
  simp only [List.setIfInBounds_toArray, List.set_cons_zero, List.set_cons_succ]
  refine take_to (i := 13) (v := ?_) 52 rfl rfl (by kernel_rfl) (by kernel_rfl) (by kernel_rfl) (fun _ _ _ h => h) (Or.inl ⟨by rfl, ?_⟩) hS ?_
  rotate_left
  · intro W hW
    obtain ⟨⟨⟨⟨⟨⟨⟨k0, k1⟩, hrow⟩, ⟨t0, t1, t2⟩, hr1⟩, -, -⟩, -, -⟩, ⟨u0, u1, u2⟩, hz1⟩, _⟩ := HC5.out W hW; dsimp only at t0 t1 t2; have x1 := (hW.cell (lt_of_cell y1)).trans y1; have x2 := (hW.cell (lt_of_cell y2)).trans y2; have x3 := (hW.cell (lt_of_cell y3)).trans y3
    go_simp
    try with_reducible rfl
  simp only [List.setIfInBounds_toArray, List.set_cons_zero, List.set_cons_succ]
  refine take_to (i := 14) (v := ?_) 53 rfl rfl (by kernel_rfl) (by kernel_rfl) (by kernel_rfl) (fun _ _ _ h => h) (Or.inl ⟨by rfl, ?_⟩) hS ?_
  rotate_left
  · intro W hW
    obtain ⟨⟨⟨⟨⟨⟨⟨k0, k1⟩, hrow⟩, ⟨t0, t1, t2⟩, hr1⟩, -, -⟩, -, -⟩, ⟨u0, u1, u2⟩, hz1⟩, _⟩ := HC5.out W hW; dsimp only at t0 t1 t2; have x1 := (hW.cell (lt_of_cell y1)).trans y1; have x2 := (hW.cell (lt_of_cell y2)).trans y2; have x3 := (hW.cell (lt_of_cell y3)).trans y3
    go_simp
    try with_reducible rfl
  simp only [List.setIfInBounds_toArray, List.set_cons_zero, List.set_cons_succ]
  refine take_to (i := 15) (v := ?_) 54 rfl rfl (by kernel_rfl) (by kernel_rfl) (by kernel_rfl) (fun _ _ _ h => h) (Or.inl ⟨by rfl, ?_⟩) hS ?_
  rotate_left
  · intro W hW
    obtain ⟨⟨⟨⟨⟨⟨⟨k0, k1⟩, hrow⟩, ⟨t0, t1, t2⟩, hr1⟩, -, -⟩, -, -⟩, ⟨u0, u1, u2⟩, hz1⟩, _⟩ := HC5.out W hW; dsimp only at t0 t1 t2; have x1 := (hW.cell (lt_of_cell y1)).trans y1; have x2 := (hW.cell (lt_of_cell y2)).trans y2; have x3 := (hW.cell (lt_of_cell y3)).trans y3
    go_simp
    try with_reducible rfl
  simp only [List.setIfInBounds_toArray, List.set_cons_zero, List.set_cons_succ]
  refine take_to (i := 16) (v := ?_) 55 rfl rfl (by kernel_rfl) (by kernel_rfl) (by kernel_rfl) (fun _ _ _ h => h) (Or.inl ⟨by rfl, ?_⟩) hS ?_
  rotate_left
  · intro W hW
    obtain ⟨⟨⟨⟨⟨⟨⟨k0, k1⟩, hrow⟩, ⟨t0, t1, t2⟩, hr1⟩, -, -⟩, -, -⟩, ⟨u0, u1, u2⟩, hz1⟩, _⟩ := HC5.out W hW; dsimp only at t0 t1 t2; have x1 := (hW.cell (lt_of_cell y1)).trans y1; have x2 := (hW.cell (lt_of_cell y2)).trans y2; have x3 := (hW.cell (lt_of_cell y3)).trans y3
    go_simp
    try with_reducible rfl
  simp only [List.setIfInBounds_toArray, List.set_cons_zero, List.set_cons_succ]
  refine take_to (i := 17) (v := ?_) 56 rfl rfl (by kernel_rfl) (by kernel_rfl) (by kernel_rfl) (fun _ _ _ h => h) (Or.inl ⟨by rfl, ?_⟩) hS ?_
  rotate_left
  · intro W hW
    obtain ⟨⟨⟨⟨⟨⟨⟨k0, k1⟩, hrow⟩, ⟨t0, t1, t2⟩, hr1⟩, -, -⟩, -, -⟩, ⟨u0, u1, u2⟩, hz1⟩, _⟩ := HC5.out W hW; dsimp only at t0 t1 t2; have x1 := (hW.cell (lt_of_cell y1)).trans y1; have x2 := (hW.cell (lt_of_cell y2)).trans y2; have x3 := (hW.cell (lt_of_cell y3)).trans y3
    go_simp
    try with_reducible rfl
  simp only [List.setIfInBounds_toArray, List.set_cons_zero, List.set_cons_succ]
  refine take_to (i := 18) (v := ?_) 57 rfl rfl (by kernel_rfl) (by kernel_rfl) (by kernel_rfl) (fun _ _ _ h => h) (Or.inl ⟨by rfl, ?_⟩) hS ?_
  rotate_left
  · intro W hW
    obtain ⟨⟨⟨⟨⟨⟨⟨k0, k1⟩, hrow⟩, ⟨t0, t1, t2⟩, hr1⟩, -, -⟩, -, -⟩, ⟨u0, u1, u2⟩, hz1⟩, _⟩ := HC5.out W hW; dsimp only at t0 t1 t2; have x1 := (hW.cell (lt_of_cell y1)).trans y1; have x2 := (hW.cell (lt_of_cell y2)).trans y2; have x3 := (hW.cell (lt_of_cell y3)).trans y3
    go_simp
    try with_reducible rfl
  simp only [List.setIfInBounds_toArray, List.set_cons_zero, List.set_cons_succ]
  refine take_to (i := 19) (v := ?_) 58 rfl rfl (by kernel_rfl) (by kernel_rfl) (by kernel_rfl) (fun _ _ _ h => h) (Or.inl ⟨by rfl, ?_⟩) hS ?_
  rotate_left
  · intro W hW
    obtain ⟨⟨⟨⟨⟨⟨⟨k0, k1⟩, hrow⟩, ⟨t0, t1, t2⟩, hr1⟩, -, -⟩, -, -⟩, ⟨u0, u1, u2⟩, hz1⟩, _⟩ := HC5.out W hW; dsimp only at t0 t1 t2; have x1 := (hW.cell (lt_of_cell y1)).trans y1; have x2 := (hW.cell (lt_of_cell y2)).trans y2; have x3 := (hW.cell (lt_of_cell y3)).trans y3
    go_simp
    try with_reducible rfl
  simp only [List.setIfInBounds_toArray, List.set_cons_zero, List.set_cons_succ]
  refine take_to (i := 20) (v := ?_) 59 rfl rfl (by kernel_rfl) (by kernel_rfl) (by kernel_rfl) (fun _ _ _ h => h) (Or.inl ⟨by rfl, ?_⟩) hS ?_
  rotate_left
  · intro W hW
    obtain ⟨⟨⟨⟨⟨⟨⟨k0, k1⟩, hrow⟩, ⟨t0, t1, t2⟩, hr1⟩, -, -⟩, -, -⟩, ⟨u0, u1, u2⟩, hz1⟩, _⟩ := HC5.out W hW; dsimp only at t0 t1 t2; have x1 := (hW.cell (lt_of_cell y1)).trans y1; have x2 := (hW.cell (lt_of_cell y2)).trans y2; have x3 := (hW.cell (lt_of_cell y3)).trans y3
    go_simp
    try with_reducible rfl
  simp only [List.setIfInBounds_toArray, List.set_cons_zero, List.set_cons_succ]
  refine take_to (i := 21) (v := ?_) 60 rfl rfl (by kernel_rfl) (by kernel_rfl) (by kernel_rfl) (fun _ _ _ h => h) (Or.inl ⟨by rfl, ?_⟩) hS ?_
  rotate_left
  · intro W hW
    obtain ⟨⟨⟨⟨⟨⟨⟨k0, k1⟩, hrow⟩, ⟨t0, t1, t2⟩, hr1⟩, -, -⟩, -, -⟩, ⟨u0, u1, u2⟩, hz1⟩, _⟩ := HC5.out W hW; dsimp only at t0 t1 t2; have x1 := (hW.cell (lt_of_cell y1)).trans y1; have x2 := (hW.cell (lt_of_cell y2)).trans y2; have x3 := (hW.cell (lt_of_cell y3)).trans y3
    go_simp
    try with_reducible rfl
  simp only [List.setIfInBounds_toArray, List.set_cons_zero, List.set_cons_succ]
  refine take_to (i := 22) (v := ?_) 61 rfl rfl (by kernel_rfl) (by kernel_rfl) (by kernel_rfl) (fun _ _ _ h => h) (Or.inl ⟨by rfl, ?_⟩) hS ?_
  rotate_left
  · intro W hW
    obtain ⟨⟨⟨⟨⟨⟨⟨k0, k1⟩, hrow⟩, ⟨t0, t1, t2⟩, hr1⟩, -, -⟩, -, -⟩, ⟨u0, u1, u2⟩, hz1⟩, _⟩ := HC5.out W hW; dsimp only at t0 t1 t2; have x1 := (hW.cell (lt_of_cell y1)).trans y1; have x2 := (hW.cell (lt_of_cell y2)).trans y2; have x3 := (hW.cell (lt_of_cell y3)).trans y3
    go_simp
    try with_reducible rfl
  simp only [List.setIfInBounds_toArray, List.set_cons_zero, List.set_cons_succ]
  refine take_to (i := 23) (v := ?_) 62 rfl rfl (by kernel_rfl) (by kernel_rfl) (by kernel_rfl) (fun _ _ _ h => h) (Or.inl ⟨by rfl, ?_⟩) hS ?_
  rotate_left
  · intro W hW
    obtain ⟨⟨⟨⟨⟨⟨⟨k0, k1⟩, hrow⟩, ⟨t0, t1, t2⟩, hr1⟩, -, -⟩, -, -⟩, ⟨u0, u1, u2⟩, hz1⟩, _⟩ := HC5.out W hW; dsimp only at t0 t1 t2; have x1 := (hW.cell (lt_of_cell y1)).trans y1; have x2 := (hW.cell (lt_of_cell y2)).trans y2; have x3 := (hW.cell (lt_of_cell y3)).trans y3
    go_simp
    try with_reducible rfl
  simp only [List.setIfInBounds_toArray, List.set_cons_zero, List.set_cons_succ]
  refine take_to (i := 24) (v := ?_) 63 rfl rfl (by kernel_rfl) (by kernel_rfl) (by kernel_rfl) (fun _ _ _ h => h) (Or.inl ⟨by rfl, ?_⟩) hS ?_
  rotate_left
  · intro W hW
    obtain ⟨⟨⟨⟨⟨⟨⟨k0, k1⟩, hrow⟩, ⟨t0, t1, t2⟩, hr1⟩, -, -⟩, -, -⟩, ⟨u0, u1, u2⟩, hz1⟩, _⟩ := HC5.out W hW; dsimp only at t0 t1 t2; have x1 := (hW.cell (lt_of_cell y1)).trans y1; have x2 := (hW.cell (lt_of_cell y2)).trans y2; have x3 := (hW.cell (lt_of_cell y3)).trans y3
    go_simp
    try with_reducible rfl
  simp only [List.setIfInBounds_toArray, List.set_cons_zero, List.set_cons_succ]
  refine take_to (i := 25) (v := ?_) 64 rfl rfl (by kernel_rfl) (by kernel_rfl) (by kernel_rfl) (fun _ _ _ h => h) (Or.inl ⟨by rfl, ?_⟩) hS ?_
  rotate_left
  · intro W hW
    obtain ⟨⟨⟨⟨⟨⟨⟨k0, k1⟩, hrow⟩, ⟨t0, t1, t2⟩, hr1⟩, -, -⟩, -, -⟩, ⟨u0, u1, u2⟩, hz1⟩, _⟩ := HC5.out W hW; dsimp only at t0 t1 t2; have x1 := (hW.cell (lt_of_cell y1)).trans y1; have x2 := (hW.cell (lt_of_cell y2)).trans y2; have x3 := (hW.cell (lt_of_cell y3)).trans y3
    go_simp
    try with_reducible rfl
  simp only [List.setIfInBounds_toArray, List.set_cons_zero, List.set_cons_succ]
  refine take_to (i := 26) (v := ?_) 65 rfl rfl (by kernel_rfl) (by kernel_rfl) (by kernel_rfl) (fun _ _ _ h => h) (Or.inl ⟨by rfl, ?_⟩) hS ?_
  rotate_left
  · intro W hW
    obtain ⟨⟨⟨⟨⟨⟨⟨k0, k1⟩, hrow⟩, ⟨t0, t1, t2⟩, hr1⟩, -, -⟩, -, -⟩, ⟨u0, u1, u2⟩, hz1⟩, _⟩ := HC5.out W hW; dsimp only at t0 t1 t2; have x1 := (hW.cell (lt_of_cell y1)).trans y1; have x2 := (hW.cell (lt_of_cell y2)).trans y2; have x3 := (hW.cell (lt_of_cell y3)).trans y3
    go_simp
    try with_reducible rfl
  simp only [List.setIfInBounds_toArray, List.set_cons_zero, List.set_cons_succ]
  refine take_to (i := 27) (v := ?_) 66 rfl rfl (by kernel_rfl) (by kernel_rfl) (by kernel_rfl) (fun _ _ _ h => h) (Or.inl ⟨by rfl, ?_⟩) hS ?_
  rotate_left
  · intro W hW
    obtain ⟨⟨⟨⟨⟨⟨⟨k0, k1⟩, hrow⟩, ⟨t0, t1, t2⟩, hr1⟩, -, -⟩, -, -⟩, ⟨u0, u1, u2⟩, hz1⟩, _⟩ := HC5.out W hW; dsimp only at t0 t1 t2; have x1 := (hW.cell (lt_of_cell y1)).trans y1; have x2 := (hW.cell (lt_of_cell y2)).trans y2; have x3 := (hW.cell (lt_of_cell y3)).trans y3
    go_simp
    try with_reducible rfl
  simp only [List.setIfInBounds_toArray, List.set_cons_zero, List.set_cons_succ]
  refine take_to (i := 28) (v := ?_) 67 rfl rfl (by kernel_rfl) (by kernel_rfl) (by kernel_rfl) (fun _ _ _ h => h) (Or.inl ⟨by rfl, ?_⟩) hS ?_
  rotate_left
  · intro W hW
    obtain ⟨⟨⟨⟨⟨⟨⟨k0, k1⟩, hrow⟩, ⟨t0, t1, t2⟩, hr1⟩, -, -⟩, -, -⟩, ⟨u0, u1, u2⟩, hz1⟩, _⟩ := HC5.out W hW; dsimp only at t0 t1 t2; have x1 := (hW.cell (lt_of_cell y1)).trans y1; have x2 := (hW.cell (lt_of_cell y2)).trans y2; have x3 := (hW.cell (lt_of_cell y3)).trans y3
    go_simp
    try with_reducible rfl
  simp only [List.setIfInBounds_toArray, List.set_cons_zero, List.set_cons_succ]
  refine take_to (i := 29) (v := ?_) 68 rfl rfl (by kernel_rfl) (by kernel_rfl) (by kernel_rfl) (fun _ _ _ h => h) (Or.inl ⟨by rfl, ?_⟩) hS ?_
  rotate_left
  · intro W hW
    obtain ⟨⟨⟨⟨⟨⟨⟨k0, k1⟩, hrow⟩, ⟨t0, t1, t2⟩, hr1⟩, -, -⟩, -, -⟩, ⟨u0, u1, u2⟩, hz1⟩, _⟩ := HC5.out W hW; dsimp only at t0 t1 t2; have x1 := (hW.cell (lt_of_cell y1)).trans y1; have x2 := (hW.cell (lt_of_cell y2)).trans y2; have x3 := (hW.cell (lt_of_cell y3)).trans y3
    go_simp
    try with_reducible rfl
  simp only [List.setIfInBounds_toArray, List.set_cons_zero, List.set_cons_succ]
  refine take_to (i := 30) (v := ?_) 69 rfl rfl (by kernel_rfl) (by kernel_rfl) (by kernel_rfl) (fun _ _ _ h => h) (Or.inl ⟨by rfl, ?_⟩) hS ?_
  rotate_left
  · intro W hW
    obtain ⟨⟨⟨⟨⟨⟨⟨k0, k1⟩, hrow⟩, ⟨t0, t1, t2⟩, hr1⟩, -, -⟩, -, -⟩, ⟨u0, u1, u2⟩, hz1⟩, _⟩ := HC5.out W hW; dsimp only at t0 t1 t2; have x1 := (hW.cell (lt_of_cell y1)).trans y1; have x2 := (hW.cell (lt_of_cell y2)).trans y2; have x3 := (hW.cell (lt_of_cell y3)).trans y3
    go_simp
    try with_reducible rfl
  simp only [List.setIfInBounds_toArray, List.set_cons_zero, List.set_cons_succ]
  refine take_to (i := 31) (v := ?_) 70 rfl rfl (by kernel_rfl) (by kernel_rfl) (by kernel_rfl) (fun _ _ _ h => h) (Or.inl ⟨by rfl, ?_⟩) hS ?_
  rotate_left
  · intro W hW
    obtain ⟨⟨⟨⟨⟨⟨⟨k0, k1⟩, hrow⟩, ⟨t0, t1, t2⟩, hr1⟩, -, -⟩, -, -⟩, ⟨u0, u1, u2⟩, hz1⟩, _⟩ := HC5.out W hW; dsimp only at t0 t1 t2; have x1 := (hW.cell (lt_of_cell y1)).trans y1; have x2 := (hW.cell (lt_of_cell y2)).trans y2; have x3 := (hW.cell (lt_of_cell y3)).trans y3
    go_simp
    try with_reducible rfl
  simp only [List.setIfInBounds_toArray, List.set_cons_zero, List.set_cons_succ]
  refine take_to (i := 32) (v := ?_) 71 rfl rfl (by kernel_rfl) (by kernel_rfl) (by kernel_rfl) (fun _ _ _ h => h) (Or.inl ⟨by rfl, ?_⟩) hS ?_
  rotate_left
  · intro W hW
    obtain ⟨⟨⟨⟨⟨⟨⟨k0, k1⟩, hrow⟩, ⟨t0, t1, t2⟩, hr1⟩, -, -⟩, -, -⟩, ⟨u0, u1, u2⟩, hz1⟩, _⟩ := HC5.out W hW; dsimp only at t0 t1 t2; have x1 := (hW.cell (lt_of_cell y1)).trans y1; have x2 := (hW.cell (lt_of_cell y2)).trans y2; have x3 := (hW.cell (lt_of_cell y3)).trans y3
    go_simp
    try with_reducible rfl
  simp only [List.setIfInBounds_toArray, List.set_cons_zero, List.set_cons_succ]
  refine take_to (i := 33) (v := ?_) 72 rfl rfl (by kernel_rfl) (by kernel_rfl) (by kernel_rfl) (fun _ _ _ h => h) (Or.inl ⟨by rfl, ?_⟩) hS ?_
  rotate_left
  · intro W hW
    obtain ⟨⟨⟨⟨⟨⟨⟨k0, k1⟩, hrow⟩, ⟨t0, t1, t2⟩, hr1⟩, -, -⟩, -, -⟩, ⟨u0, u1, u2⟩, hz1⟩, _⟩ := HC5.out W hW; dsimp only at t0 t1 t2; have x1 := (hW.cell (lt_of_cell y1)).trans y1; have x2 := (hW.cell (lt_of_cell y2)).trans y2; have x3 := (hW.cell (lt_of_cell y3)).trans y3
    go_simp
    try with_reducible rfl
  simp only [List.setIfInBounds_toArray, List.set_cons_zero, List.set_cons_succ]
  refine take_to (i := 34) (v := ?_) 73 rfl rfl (by kernel_rfl) (by kernel_rfl) (by kernel_rfl) (fun _ _ _ h => h) (Or.inl ⟨by rfl, ?_⟩) hS ?_
  rotate_left
  · intro W hW
    obtain ⟨⟨⟨⟨⟨⟨⟨k0, k1⟩, hrow⟩, ⟨t0, t1, t2⟩, hr1⟩, -, -⟩, -, -⟩, ⟨u0, u1, u2⟩, hz1⟩, _⟩ := HC5.out W hW; dsimp only at t0 t1 t2; have x1 := (hW.cell (lt_of_cell y1)).trans y1; have x2 := (hW.cell (lt_of_cell y2)).trans y2; have x3 := (hW.cell (lt_of_cell y3)).trans y3
    go_simp
    try with_reducible rfl
  simp only [List.setIfInBounds_toArray, List.set_cons_zero, List.set_cons_succ]
  refine take_to (i := 35) (v := ?_) 74 rfl rfl (by kernel_rfl) (by kernel_rfl) (by kernel_rfl) (fun _ _ _ h => h) (Or.inl ⟨by rfl, ?_⟩) hS ?_
  rotate_left
  · intro W hW
    obtain ⟨⟨⟨⟨⟨⟨⟨k0, k1⟩, hrow⟩, ⟨t0, t1, t2⟩, hr1⟩, -, -⟩, -, -⟩, ⟨u0, u1, u2⟩, hz1⟩, _⟩ := HC5.out W hW; dsimp only at t0 t1 t2; have x1 := (hW.cell (lt_of_cell y1)).trans y1; have x2 := (hW.cell (lt_of_cell y2)).trans y2; have x3 := (hW.cell (lt_of_cell y3)).trans y3
    go_simp
    try with_reducible rfl
  simp only [List.setIfInBounds_toArray, List.set_cons_zero, List.set_cons_succ]
  refine take_to (i := 36) (v := ?_) 75 rfl rfl (by kernel_rfl) (by kernel_rfl) (by kernel_rfl) (fun _ _ _ h => h) (Or.inl ⟨by rfl, ?_⟩) hS ?_
  rotate_left
  · intro W hW
    obtain ⟨⟨⟨⟨⟨⟨⟨k0, k1⟩, hrow⟩, ⟨t0, t1, t2⟩, hr1⟩, -, -⟩, -, -⟩, ⟨u0, u1, u2⟩, hz1⟩, _⟩ := HC5.out W hW; dsimp only at t0 t1 t2; have x1 := (hW.cell (lt_of_cell y1)).trans y1; have x2 := (hW.cell (lt_of_cell y2)).trans y2; have x3 := (hW.cell (lt_of_cell y3)).trans y3
    go_simp
    try with_reducible rfl
  simp only [List.setIfInBounds_toArray, List.set_cons_zero, List.set_cons_succ]
  refine take_to (i := 37) (v := ?_) 76 rfl rfl (by kernel_rfl) (by kernel_rfl) (by kernel_rfl) (fun _ _ _ h => h) (Or.inl ⟨by rfl, ?_⟩) hS ?_
  rotate_left
  · intro W hW
    obtain ⟨⟨⟨⟨⟨⟨⟨k0, k1⟩, hrow⟩, ⟨t0, t1, t2⟩, hr1⟩, -, -⟩, -, -⟩, ⟨u0, u1, u2⟩, hz1⟩, _⟩ := HC5.out W hW; dsimp only at t0 t1 t2; have x1 := (hW.cell (lt_of_cell y1)).trans y1; have x2 := (hW.cell (lt_of_cell y2)).trans y2; have x3 := (hW.cell (lt_of_cell y3)).trans y3
    go_simp
    try with_reducible rfl
  simp only [List.setIfInBounds_toArray, List.set_cons_zero, List.set_cons_succ]
  refine take_to (i := 38) (v := ?_) 77 rfl rfl (by kernel_rfl) (by kernel_rfl) (by kernel_rfl) (fun _ _ _ h => h) (Or.inl ⟨by rfl, ?_⟩) hS ?_
  rotate_left
  · intro W hW
    obtain ⟨⟨⟨⟨⟨⟨⟨k0, k1⟩, hrow⟩, ⟨t0, t1, t2⟩, hr1⟩, -, -⟩, -, -⟩, ⟨u0, u1, u2⟩, hz1⟩, _⟩ := HC5.out W hW; dsimp only at t0 t1 t2; have x1 := (hW.cell (lt_of_cell y1)).trans y1; have x2 := (hW.cell (lt_of_cell y2)).trans y2; have x3 := (hW.cell (lt_of_cell y3)).trans y3
    go_simp
    try with_reducible rfl
  simp only [List.setIfInBounds_toArray, List.set_cons_zero, List.set_cons_succ]
  refine take_to (i := 39) (v := ?_) 78 rfl rfl (by kernel_rfl) (by kernel_rfl) (by kernel_rfl) (fun _ _ _ h => h) (Or.inl ⟨by rfl, ?_⟩) hS ?_
  rotate_left
  · intro W hW
    obtain ⟨⟨⟨⟨⟨⟨⟨k0, k1⟩, hrow⟩, ⟨t0, t1, t2⟩, hr1⟩, -, -⟩, -, -⟩, ⟨u0, u1, u2⟩, hz1⟩, _⟩ := HC5.out W hW; dsimp only at t0 t1 t2; have x1 := (hW.cell (lt_of_cell y1)).trans y1; have x2 := (hW.cell (lt_of_cell y2)).trans y2; have x3 := (hW.cell (lt_of_cell y3)).trans y3
    go_simp
    try with_reducible rfl
  simp only [List.setIfInBounds_toArray, List.set_cons_zero, List.set_cons_succ]
  refine take_to (i := 40) (v := ?_) 79 rfl rfl (by kernel_rfl) (by kernel_rfl) (by kernel_rfl) (fun _ _ _ h => h) (Or.inl ⟨by rfl, ?_⟩) hS ?_
  rotate_left
  · intro W hW
    obtain ⟨⟨⟨⟨⟨⟨⟨k0, k1⟩, hrow⟩, ⟨t0, t1, t2⟩, hr1⟩, -, -⟩, -, -⟩, ⟨u0, u1, u2⟩, hz1⟩, _⟩ := HC5.out W hW; dsimp only at t0 t1 t2; have x1 := (hW.cell (lt_of_cell y1)).trans y1; have x2 := (hW.cell (lt_of_cell y2)).trans y2; have x3 := (hW.cell (lt_of_cell y3)).trans y3
    go_simp
    try with_reducible rfl
  simp only [List.setIfInBounds_toArray, List.set_cons_zero, List.set_cons_succ]
  refine take_to (i := 41) (v := ?_) 80 rfl rfl (by kernel_rfl) (by kernel_rfl) (by kernel_rfl) (fun _ _ _ h => h) (Or.inl ⟨by rfl, ?_⟩) hS ?_
  rotate_left
  · intro W hW
    obtain ⟨⟨⟨⟨⟨⟨⟨k0, k1⟩, hrow⟩, ⟨t0, t1, t2⟩, hr1⟩, -, -⟩, -, -⟩, ⟨u0, u1, u2⟩, hz1⟩, _⟩ := HC5.out W hW; dsimp only at t0 t1 t2; have x1 := (hW.cell (lt_of_cell y1)).trans y1; have x2 := (hW.cell (lt_of_cell y2)).trans y2; have x3 := (hW.cell (lt_of_cell y3)).trans y3
    go_simp
    try with_reducible rfl
  simp only [List.setIfInBounds_toArray, List.set_cons_zero, List.set_cons_succ]
  refine take_to (i := 42) (v := ?_) 81 rfl rfl (by kernel_rfl) (by kernel_rfl) (by kernel_rfl) (fun _ _ _ h => h) (Or.inl ⟨by rfl, ?_⟩) hS ?_
  rotate_left
  · intro W hW
    obtain ⟨⟨⟨⟨⟨⟨⟨k0, k1⟩, hrow⟩, ⟨t0, t1, t2⟩, hr1⟩, -, -⟩, -, -⟩, ⟨u0, u1, u2⟩, hz1⟩, _⟩ := HC5.out W hW; dsimp only at t0 t1 t2; have x1 := (hW.cell (lt_of_cell y1)).trans y1; have x2 := (hW.cell (lt_of_cell y2)).trans y2; have x3 := (hW.cell (lt_of_cell y3)).trans y3
    go_simp
    try with_reducible rfl
  simp only [List.setIfInBounds_toArray, List.set_cons_zero, List.set_cons_succ]
  refine take_to (i := 43) (v := ?_) 82 rfl rfl (by kernel_rfl) (by kernel_rfl) (by kernel_rfl) (fun _ _ _ h => h) (Or.inl ⟨by rfl, ?_⟩) hS ?_
  rotate_left
  · intro W hW
    obtain ⟨⟨⟨⟨⟨⟨⟨k0, k1⟩, hrow⟩, ⟨t0, t1, t2⟩, hr1⟩, -, -⟩, -, -⟩, ⟨u0, u1, u2⟩, hz1⟩, _⟩ := HC5.out W hW; dsimp only at t0 t1 t2; have x1 := (hW.cell (lt_of_cell y1)).trans y1; have x2 := (hW.cell (lt_of_cell y2)).trans y2; have x3 := (hW.cell (lt_of_cell y3)).trans y3
    go_simp
    try with_reducible rfl
  simp only [List.setIfInBounds_toArray, List.set_cons_zero, List.set_cons_succ]
  refine take_to (i := 44) (v := ?_) 83 rfl rfl (by kernel_rfl) (by kernel_rfl) (by kernel_rfl) (fun _ _ _ h => h) (Or.inl ⟨by rfl, ?_⟩) hS ?_
  rotate_left
  · intro W hW
    obtain ⟨⟨⟨⟨⟨⟨⟨k0, k1⟩, hrow⟩, ⟨t0, t1, t2⟩, hr1⟩, -, -⟩, -, -⟩, ⟨u0, u1, u2⟩, hz1⟩, _⟩ := HC5.out W hW; dsimp only at t0 t1 t2; have x1 := (hW.cell (lt_of_cell y1)).trans y1; have x2 := (hW.cell (lt_of_cell y2)).trans y2; have x3 := (hW.cell (lt_of_cell y3)).trans y3
    go_simp
    try with_reducible rfl
  simp only [List.setIfInBounds_toArray, List.set_cons_zero, List.set_cons_succ]
  refine take_to (i := 45) (v := ?_) 84 rfl rfl (by kernel_rfl) (by kernel_rfl) (by kernel_rfl) (fun _ _ _ h => h) (Or.inl ⟨by rfl, ?_⟩) hS ?_
  rotate_left
  · intro W hW
    obtain ⟨⟨⟨⟨⟨⟨⟨k0, k1⟩, hrow⟩, ⟨t0, t1, t2⟩, hr1⟩, -, -⟩, -, -⟩, ⟨u0, u1, u2⟩, hz1⟩, _⟩ := HC5.out W hW; dsimp only at t0 t1 t2; have x1 := (hW.cell (lt_of_cell y1)).trans y1; have x2 := (hW.cell (lt_of_cell y2)).trans y2; have x3 := (hW.cell (lt_of_cell y3)).trans y3
    go_simp
    try with_reducible rfl
  simp only [List.setIfInBounds_toArray, List.set_cons_zero, List.set_cons_succ]
  refine take_to (i := 46) (v := ?_) 85 rfl rfl (by kernel_rfl) (by kernel_rfl) (by kernel_rfl) (fun _ _ _ h => h) (Or.inl ⟨by rfl, ?_⟩) hS ?_
  rotate_left
  · intro W hW
    obtain ⟨⟨⟨⟨⟨⟨⟨k0, k1⟩, hrow⟩, ⟨t0, t1, t2⟩, hr1⟩, -, -⟩, -, -⟩, ⟨u0, u1, u2⟩, hz1⟩, _⟩ := HC5.out W hW; dsimp only at t0 t1 t2; have x1 := (hW.cell (lt_of_cell y1)).trans y1; have x2 := (hW.cell (lt_of_cell y2)).trans y2; have x3 := (hW.cell (lt_of_cell y3)).trans y3
    go_simp
    try with_reducible rfl
  simp only [List.setIfInBounds_toArray, List.set_cons_zero, List.set_cons_succ]
  refine take_to (i := 47) (v := ?_) 86 rfl rfl (by kernel_rfl) (by kernel_rfl) (by kernel_rfl) (fun _ _ _ h => h) (Or.inl ⟨by rfl, ?_⟩) hS ?_
  rotate_left
  · intro W hW
    obtain ⟨⟨⟨⟨⟨⟨⟨k0, k1⟩, hrow⟩, ⟨t0, t1, t2⟩, hr1⟩, -, -⟩, -, -⟩, ⟨u0, u1, u2⟩, hz1⟩, _⟩ := HC5.out W hW; dsimp only at t0 t1 t2; have x1 := (hW.cell (lt_of_cell y1)).trans y1; have x2 := (hW.cell (lt_of_cell y2)).trans y2; have x3 := (hW.cell (lt_of_cell y3)).trans y3
    go_simp
    try with_reducible rfl
  simp only [List.setIfInBounds_toArray, List.set_cons_zero, List.set_cons_succ]
  refine take_to (i := 48) (v := ?_) 87 rfl rfl (by kernel_rfl) (by kernel_rfl) (by kernel_rfl) (fun _ _ _ h => h) (Or.inl ⟨by rfl, ?_⟩) hS ?_
  rotate_left
  · intro W hW
    obtain ⟨⟨⟨⟨⟨⟨⟨k0, k1⟩, hrow⟩, ⟨t0, t1, t2⟩, hr1⟩, -, -⟩, -, -⟩, ⟨u0, u1, u2⟩, hz1⟩, _⟩ := HC5.out W hW; dsimp only at t0 t1 t2; have x1 := (hW.cell (lt_of_cell y1)).trans y1; have x2 := (hW.cell (lt_of_cell y2)).trans y2; have x3 := (hW.cell (lt_of_cell y3)).trans y3
    go_simp
    try with_reducible rfl
  simp only [List.setIfInBounds_toArray, List.set_cons_zero, List.set_cons_succ]
  refine take_to (i := 49) (v := ?_) 88 rfl rfl (by kernel_rfl) (by kernel_rfl) (by kernel_rfl) (fun _ _ _ h => h) (Or.inl ⟨by rfl, ?_⟩) hS ?_
  rotate_left
  · intro W hW
    obtain ⟨⟨⟨⟨⟨⟨⟨k0, k1⟩, hrow⟩, ⟨t0, t1, t2⟩, hr1⟩, -, -⟩, -, -⟩, ⟨u0, u1, u2⟩, hz1⟩, _⟩ := HC5.out W hW; dsimp only at t0 t1 t2; have x1 := (hW.cell (lt_of_cell y1)).trans y1; have x2 := (hW.cell (lt_of_cell y2)).trans y2; have x3 := (hW.cell (lt_of_cell y3)).trans y3
    go_simp
    try with_reducible rfl
  simp only [List.setIfInBounds_toArray, List.set_cons_zero, List.set_cons_succ]
  refine take_to (i := 50) (v := ?_) 89 rfl rfl (by kernel_rfl) (by kernel_rfl) (by kernel_rfl) (fun _ _ _ h => h) (Or.inl ⟨by rfl, ?_⟩) hS ?_
  rotate_left
  · intro W hW
    obtain ⟨⟨⟨⟨⟨⟨⟨k0, k1⟩, hrow⟩, ⟨t0, t1, t2⟩, hr1⟩, -, -⟩, -, -⟩, ⟨u0, u1, u2⟩, hz1⟩, _⟩ := HC5.out W hW; dsimp only at t0 t1 t2; have x1 := (hW.cell (lt_of_cell y1)).trans y1; have x2 := (hW.cell (lt_of_cell y2)).trans y2; have x3 := (hW.cell (lt_of_cell y3)).trans y3
    go_simp
    try with_reducible rfl
  simp only [List.setIfInBounds_toArray, List.set_cons_zero, List.set_cons_succ]
  refine take_to (i := 51) (v := ?_) 90 rfl rfl (by kernel_rfl) (by kernel_rfl) (by kernel_rfl) (fun _ _ _ h => h) (Or.inl ⟨by rfl, ?_⟩) hS ?_
  rotate_left
  · intro W hW
    obtain ⟨⟨⟨⟨⟨⟨⟨k0, k1⟩, hrow⟩, ⟨t0, t1, t2⟩, hr1⟩, -, -⟩, -, -⟩, ⟨u0, u1, u2⟩, hz1⟩, _⟩ := HC5.out W hW; dsimp only at t0 t1 t2; have x1 := (hW.cell (lt_of_cell y1)).trans y1; have x2 := (hW.cell (lt_of_cell y2)).trans y2; have x3 := (hW.cell (lt_of_cell y3)).trans y3
    go_simp
    try with_reducible rfl
  simp only [List.setIfInBounds_toArray, List.set_cons_zero, List.set_cons_succ]
  refine take_to (i := 52) (v := ?_) 91 rfl rfl (by kernel_rfl) (by kernel_rfl) (by kernel_rfl) (fun _ _ _ h => h) (Or.inl ⟨by rfl, ?_⟩) hS ?_
  rotate_left
  · intro W hW
    obtain ⟨⟨⟨⟨⟨⟨⟨k0, k1⟩, hrow⟩, ⟨t0, t1, t2⟩, hr1⟩, -, -⟩, -, -⟩, ⟨u0, u1, u2⟩, hz1⟩, _⟩ := HC5.out W hW; dsimp only at t0 t1 t2; have x1 := (hW.cell (lt_of_cell y1)).trans y1; have x2 := (hW.cell (lt_of_cell y2)).trans y2; have x3 := (hW.cell (lt_of_cell y3)).trans y3
    go_simp
    try with_reducible rfl
  simp only [List.setIfInBounds_toArray, List.set_cons_zero, List.set_cons_succ]
  refine take_to (i := 53) (v := ?_) 92 rfl rfl (by kernel_rfl) (by kernel_rfl) (by kernel_rfl) (fun _ _ _ h => h) (Or.inl ⟨by rfl, ?_⟩) hS ?_
  rotate_left
  · intro W hW
    obtain ⟨⟨⟨⟨⟨⟨⟨k0, k1⟩, hrow⟩, ⟨t0, t1, t2⟩, hr1⟩, -, -⟩, -, -⟩, ⟨u0, u1, u2⟩, hz1⟩, _⟩ := HC5.out W hW; dsimp only at t0 t1 t2; have x1 := (hW.cell (lt_of_cell y1)).trans y1; have x2 := (hW.cell (lt_of_cell y2)).trans y2; have x3 := (hW.cell (lt_of_cell y3)).trans y3
    go_simp
    try with_reducible rfl
  simp only [List.setIfInBounds_toArray, List.set_cons_zero, List.set_cons_succ]
  refine take_to (i := 54) (v := ?_) 93 rfl rfl (by kernel_rfl) (by kernel_rfl) (by kernel_rfl) (fun _ _ _ h => h) (Or.inl ⟨by rfl, ?_⟩) hS ?_
  rotate_left
  · intro W hW
    obtain ⟨⟨⟨⟨⟨⟨⟨k0, k1⟩, hrow⟩, ⟨t0, t1, t2⟩, hr1⟩, -, -⟩, -, -⟩, ⟨u0, u1, u2⟩, hz1⟩, _⟩ := HC5.out W hW; dsimp only at t0 t1 t2; have x1 := (hW.cell (lt_of_cell y1)).trans y1; have x2 := (hW.cell (lt_of_cell y2)).trans y2; have x3 := (hW.cell (lt_of_cell y3)).trans y3
    go_simp
    try with_reducible rfl
  simp only [List.setIfInBounds_toArray, List.set_cons_zero, List.set_cons_succ]
  refine take_to (i := 55) (v := ?_) 94 rfl rfl (by kernel_rfl) (by kernel_rfl) (by kernel_rfl) (fun _ _ _ h => h) (Or.inl ⟨by rfl, ?_⟩) hS ?_
  rotate_left
  · intro W hW
    obtain ⟨⟨⟨⟨⟨⟨⟨k0, k1⟩, hrow⟩, ⟨t0, t1, t2⟩, hr1⟩, -, -⟩, -, -⟩, ⟨u0, u1, u2⟩, hz1⟩, _⟩ := HC5.out W hW; dsimp only at t0 t1 t2; have x1 := (hW.cell (lt_of_cell y1)).trans y1; have x2 := (hW.cell (lt_of_cell y2)).trans y2; have x3 := (hW.cell (lt_of_cell y3)).trans y3
    go_simp
    try with_reducible rfl
  simp only [List.setIfInBounds_toArray, List.set_cons_zero, List.set_cons_succ]
  refine take_to (i := 56) (v := ?_) 95 rfl rfl (by kernel_rfl) (by kernel_rfl) (by kernel_rfl) (fun _ _ _ h => h) (Or.inl ⟨by rfl, ?_⟩) hS ?_
  rotate_left
  · intro W hW
    obtain ⟨⟨⟨⟨⟨⟨⟨k0, k1⟩, hrow⟩, ⟨t0, t1, t2⟩, hr1⟩, -, -⟩, -, -⟩, ⟨u0, u1, u2⟩, hz1⟩, _⟩ := HC5.out W hW; dsimp only at t0 t1 t2; have x1 := (hW.cell (lt_of_cell y1)).trans y1; have x2 := (hW.cell (lt_of_cell y2)).trans y2; have x3 := (hW.cell (lt_of_cell y3)).trans y3
    go_simp
    try with_reducible rfl
  simp only [List.setIfInBounds_toArray, List.set_cons_zero, List.set_cons_succ]
  refine take_to (i := 57) (v := ?_) 96 rfl rfl (by kernel_rfl) (by kernel_rfl) (by kernel_rfl) (fun _ _ _ h => h) (Or.inl ⟨by rfl, ?_⟩) hS ?_
  rotate_left
  · intro W hW
    obtain ⟨⟨⟨⟨⟨⟨⟨k0, k1⟩, hrow⟩, ⟨t0, t1, t2⟩, hr1⟩, -, -⟩, -, -⟩, ⟨u0, u1, u2⟩, hz1⟩, _⟩ := HC5.out W hW; dsimp only at t0 t1 t2; have x1 := (hW.cell (lt_of_cell y1)).trans y1; have x2 := (hW.cell (lt_of_cell y2)).trans y2; have x3 := (hW.cell (lt_of_cell y3)).trans y3
    go_simp
    try with_reducible rfl
  simp only [List.setIfInBounds_toArray, List.set_cons_zero, List.set_cons_succ]
  refine take_to (i := 58) (v := ?_) 97 rfl rfl (by kernel_rfl) (by kernel_rfl) (by kernel_rfl) (fun _ _ _ h => h) (Or.inl ⟨by rfl, ?_⟩) hS ?_
  rotate_left
  · intro W hW
    obtain ⟨⟨⟨⟨⟨⟨⟨k0, k1⟩, hrow⟩, ⟨t0, t1, t2⟩, hr1⟩, -, -⟩, -, -⟩, ⟨u0, u1, u2⟩, hz1⟩, _⟩ := HC5.out W hW; dsimp only at t0 t1 t2; have x1 := (hW.cell (lt_of_cell y1)).trans y1; have x2 := (hW.cell (lt_of_cell y2)).trans y2; have x3 := (hW.cell (lt_of_cell y3)).trans y3
    go_simp
    try with_reducible rfl
  simp only [List.setIfInBounds_toArray, List.set_cons_zero, List.set_cons_succ]
  refine take_to (i := 59) (v := ?_) 98 rfl rfl (by kernel_rfl) (by kernel_rfl) (by kernel_rfl) (fun _ _ _ h => h) (Or.inl ⟨by rfl, ?_⟩) hS ?_
  rotate_left
  · intro W hW
    obtain ⟨⟨⟨⟨⟨⟨⟨k0, k1⟩, hrow⟩, ⟨t0, t1, t2⟩, hr1⟩, -, -⟩, -, -⟩, ⟨u0, u1, u2⟩, hz1⟩, _⟩ := HC5.out W hW; dsimp only at t0 t1 t2; have x1 := (hW.cell (lt_of_cell y1)).trans y1; have x2 := (hW.cell (lt_of_cell y2)).trans y2; have x3 := (hW.cell (lt_of_cell y3)).trans y3
    go_simp
    try with_reducible rfl
  simp only [List.setIfInBounds_toArray, List.set_cons_zero, List.set_cons_succ]
  refine take_to (i := 60) (v := ?_) 99 rfl rfl (by kernel_rfl) (by kernel_rfl) (by kernel_rfl) (fun _ _ _ h => h) (Or.inl ⟨by rfl, ?_⟩) hS ?_
  rotate_left
  · intro W hW
    obtain ⟨⟨⟨⟨⟨⟨⟨k0, k1⟩, hrow⟩, ⟨t0, t1, t2⟩, hr1⟩, -, -⟩, -, -⟩, ⟨u0, u1, u2⟩, hz1⟩, _⟩ := HC5.out W hW; dsimp only at t0 t1 t2; have x1 := (hW.cell (lt_of_cell y1)).trans y1; have x2 := (hW.cell (lt_of_cell y2)).trans y2; have x3 := (hW.cell (lt_of_cell y3)).trans y3
    go_simp
    try with_reducible rfl
  simp only [List.setIfInBounds_toArray, List.set_cons_zero, List.set_cons_succ]
  refine take_to (i := 61) (v := ?_) 100 rfl rfl (by kernel_rfl) (by kernel_rfl) (by kernel_rfl) (fun _ _ _ h => h) (Or.inl ⟨by rfl, ?_⟩) hS ?_
  rotate_left
  · intro W hW
    obtain ⟨⟨⟨⟨⟨⟨⟨k0, k1⟩, hrow⟩, ⟨t0, t1, t2⟩, hr1⟩, -, -⟩, -, -⟩, ⟨u0, u1, u2⟩, hz1⟩, _⟩ := HC5.out W hW; dsimp only at t0 t1 t2; have x1 := (hW.cell (lt_of_cell y1)).trans y1; have x2 := (hW.cell (lt_of_cell y2)).trans y2; have x3 := (hW.cell (lt_of_cell y3)).trans y3
    go_simp
    try with_reducible rfl
  simp only [List.setIfInBounds_toArray, List.set_cons_zero, List.set_cons_succ]
  refine take_to (i := 62) (v := ?_) 101 rfl rfl (by kernel_rfl) (by kernel_rfl) (by kernel_rfl) (fun _ _ _ h => h) (Or.inl ⟨by rfl, ?_⟩) hS ?_
  rotate_left
  · intro W hW
    obtain ⟨⟨⟨⟨⟨⟨⟨k0, k1⟩, hrow⟩, ⟨t0, t1, t2⟩, hr1⟩, -, -⟩, -, -⟩, ⟨u0, u1, u2⟩, hz1⟩, _⟩ := HC5.out W hW; dsimp only at t0 t1 t2; have x1 := (hW.cell (lt_of_cell y1)).trans y1; have x2 := (hW.cell (lt_of_cell y2)).trans y2; have x3 := (hW.cell (lt_of_cell y3)).trans y3
    go_simp
    try with_reducible rfl
  simp only [List.setIfInBounds_toArray, List.set_cons_zero, List.set_cons_succ]
  refine take_to (i := 63) (v := ?_) 102 rfl rfl (by kernel_rfl) (by kernel_rfl) (by kernel_rfl) (fun _ _ _ h => h) (Or.inl ⟨by rfl, ?_⟩) hS ?_
  rotate_left
  · intro W hW
    obtain ⟨⟨⟨⟨⟨⟨⟨k0, k1⟩, hrow⟩, ⟨t0, t1, t2⟩, hr1⟩, -, -⟩, -, -⟩, ⟨u0, u1, u2⟩, hz1⟩, _⟩ := HC5.out W hW; dsimp only at t0 t1 t2; have x1 := (hW.cell (lt_of_cell y1)).trans y1; have x2 := (hW.cell (lt_of_cell y2)).trans y2; have x3 := (hW.cell (lt_of_cell y3)).trans y3
    go_simp
    try with_reducible rfl
  simp only [List.setIfInBounds_toArray, List.set_cons_zero, List.set_cons_succ]
  refine take_to (i := 64) (v := ?_) 103 rfl rfl (by kernel_rfl) (by kernel_rfl) (by kernel_rfl) (fun _ _ _ h => h) (Or.inl ⟨by rfl, ?_⟩) hS ?_
  rotate_left
  · intro W hW
    obtain ⟨⟨⟨⟨⟨⟨⟨k0, k1⟩, hrow⟩, ⟨t0, t1, t2⟩, hr1⟩, -, -⟩, -, -⟩, ⟨u0, u1, u2⟩, hz1⟩, _⟩ := HC5.out W hW; dsimp only at t0 t1 t2; have x1 := (hW.cell (lt_of_cell y1)).trans y1; have x2 := (hW.cell (lt_of_cell y2)).trans y2; have x3 := (hW.cell (lt_of_cell y3)).trans y3
    go_simp
    try with_reducible rfl
  simp only [List.setIfInBounds_toArray, List.set_cons_zero, List.set_cons_succ]
  refine take_to (i := 65) (v := ?_) 104 rfl rfl (by kernel_rfl) (by kernel_rfl) (by kernel_rfl) (fun _ _ _ h => h) (Or.inl ⟨by rfl, ?_⟩) hS ?_
  rotate_left
  · intro W hW
    obtain ⟨⟨⟨⟨⟨⟨⟨k0, k1⟩, hrow⟩, ⟨t0, t1, t2⟩, hr1⟩, -, -⟩, -, -⟩, ⟨u0, u1, u2⟩, hz1⟩, _⟩ := HC5.out W hW; dsimp only at t0 t1 t2; have x1 := (hW.cell (lt_of_cell y1)).trans y1; have x2 := (hW.cell (lt_of_cell y2)).trans y2; have x3 := (hW.cell (lt_of_cell y3)).trans y3
    go_simp
    try with_reducible rfl
  simp only [List.setIfInBounds_toArray, List.set_cons_zero, List.set_cons_succ]
  refine take_to (i := 66) (v := ?_) 105 rfl rfl (by kernel_rfl) (by kernel_rfl) (by kernel_rfl) (fun _ _ _ h => h) (Or.inl ⟨by rfl, ?_⟩) hS ?_
  rotate_left
  · intro W hW
    obtain ⟨⟨⟨⟨⟨⟨⟨k0, k1⟩, hrow⟩, ⟨t0, t1, t2⟩, hr1⟩, -, -⟩, -, -⟩, ⟨u0, u1, u2⟩, hz1⟩, _⟩ := HC5.out W hW; dsimp only at t0 t1 t2; have x1 := (hW.cell (lt_of_cell y1)).trans y1; have x2 := (hW.cell (lt_of_cell y2)).trans y2; have x3 := (hW.cell (lt_of_cell y3)).trans y3
    go_simp
    try with_reducible rfl
  simp only [List.setIfInBounds_toArray, List.set_cons_zero, List.set_cons_succ]
  refine take_to (i := 67) (v := ?_) 106 rfl rfl (by kernel_rfl) (by kernel_rfl) (by kernel_rfl) (fun _ _ _ h => h) (Or.inl ⟨by rfl, ?_⟩) hS ?_
  rotate_left
  · intro W hW
    obtain ⟨⟨⟨⟨⟨⟨⟨k0, k1⟩, hrow⟩, ⟨t0, t1, t2⟩, hr1⟩, -, -⟩, -, -⟩, ⟨u0, u1, u2⟩, hz1⟩, _⟩ := HC5.out W hW; dsimp only at t0 t1 t2; have x1 := (hW.cell (lt_of_cell y1)).trans y1; have x2 := (hW.cell (lt_of_cell y2)).trans y2; have x3 := (hW.cell (lt_of_cell y3)).trans y3
    go_simp
    try with_reducible rfl
  simp only [List.setIfInBounds_toArray, List.set_cons_zero, List.set_cons_succ]
  refine take_to (i := 68) (v := ?_) 107 rfl rfl (by kernel_rfl) (by kernel_rfl) (by kernel_rfl) (fun _ _ _ h => h) (Or.inl ⟨by rfl, ?_⟩) hS ?_
  rotate_left
  · intro W hW
    obtain ⟨⟨⟨⟨⟨⟨⟨k0, k1⟩, hrow⟩, ⟨t0, t1, t2⟩, hr1⟩, -, -⟩, -, -⟩, ⟨u0, u1, u2⟩, hz1⟩, _⟩ := HC5.out W hW; dsimp only at t0 t1 t2; have x1 := (hW.cell (lt_of_cell y1)).trans y1; have x2 := (hW.cell (lt_of_cell y2)).trans y2; have x3 := (hW.cell (lt_of_cell y3)).trans y3
    go_simp
    try with_reducible rfl
  simp only [List.setIfInBounds_toArray, List.set_cons_zero, List.set_cons_succ]
  refine take_to (i := 70) (v := ?_) 109 rfl rfl (by kernel_rfl) (by kernel_rfl) (by kernel_rfl) (fun _ _ _ h => h) (Or.inl ⟨by rfl, ?_⟩) hS ?_
  rotate_left
  · intro W hW
    obtain ⟨⟨⟨⟨⟨⟨⟨k0, k1⟩, hrow⟩, ⟨t0, t1, t2⟩, hr1⟩, -, -⟩, -, -⟩, ⟨u0, u1, u2⟩, hz1⟩, _⟩ := HC5.out W hW; dsimp only at t0 t1 t2; have x1 := (hW.cell (lt_of_cell y1)).trans y1; have x2 := (hW.cell (lt_of_cell y2)).trans y2; have x3 := (hW.cell (lt_of_cell y3)).trans y3
    go_simp
    try with_reducible rfl
  simp only [List.setIfInBounds_toArray, List.set_cons_zero, List.set_cons_succ]
  refine wpAnyH_ready (rs := [69]) (by kernel_rfl) (by simp) ?_
  refine AllReadyH.cons rfl (fun K hK => ?_) AllReadyH.nil
  go_simp
  refine (trBack_is _ _ hr1' may_all).mono ?_
  rintro e x1 ⟨so, k, co, ps, rfl, hlb, HB, hx1⟩
  replace hx1 := ext_trans hB0 hx1
  refine hK.out _ _ hx1 fun hS => ?_
  clear hK K
  refine wpAnyH_ready (rs := [71]) (by kernel_rfl) (by simp) ?_
  refine AllReadyH.cons rfl (fun K hK => ?_) AllReadyH.nil
  go_simp
  obtain ⟨⟨⟨⟨⟨⟨⟨k0, k1⟩, hrow⟩, ⟨t0, t1, t2⟩, hr1⟩, -, -⟩, -, -⟩, ⟨u0, u1, u2⟩, hz1⟩, bw⟩ := HC5.out _ hx1
  refine (refSame_true hlb.row hrow (HB.out.uniq bk_all)).mono ?_
  rintro e x2 ⟨rfl, hx2⟩
  replace hx2 := ext_trans hx1 hx2
  clear t0 t1 t2 u0 u1 u2 k0 k1 hz1 hr1
  refine hK.out _ _ hx2 fun hS => ?_
  clear hK K
  refine take_to (i := 72) (v := ?_) 111 rfl rfl (by kernel_rfl) (by kernel_rfl) (by kernel_rfl) (fun _ _ _ h => h) (Or.inl ⟨by rfl, ?_⟩) hS ?_
  rotate_left
  · intro W hW
    obtain ⟨⟨⟨⟨⟨⟨⟨k0, k1⟩, hrow⟩, ⟨t0, t1, t2⟩, hr1⟩, -, -⟩, -, -⟩, ⟨u0, u1, u2⟩, hz1⟩, _⟩ := HC5.out W hW; dsimp only at t0 t1 t2; have x1 := (hW.cell (lt_of_cell y1)).trans y1; have x2 := (hW.cell (lt_of_cell y2)).trans y2; have x3 := (hW.cell (lt_of_cell y3)).trans y3
    go_simp
    try with_reducible rfl
  simp only [List.setIfInBounds_toArray, List.set_cons_zero, List.set_cons_succ]
  refine take_to (i := 73) (v := ?_) 0 rfl rfl (by kernel_rfl) (by kernel_rfl) (by kernel_rfl) (fun _ _ _ h => h) (Or.inl ⟨by rfl, ?_⟩) hS ?_
  rotate_left
  · intro W hW
    obtain ⟨⟨⟨⟨⟨⟨⟨k0, k1⟩, hrow⟩, ⟨t0, t1, t2⟩, hr1⟩, -, -⟩, -, -⟩, ⟨u0, u1, u2⟩, hz1⟩, _⟩ := HC5.out W hW; dsimp only at t0 t1 t2; have x1 := (hW.cell (lt_of_cell y1)).trans y1; have x2 := (hW.cell (lt_of_cell y2)).trans y2; have x3 := (hW.cell (lt_of_cell y3)).trans y3
    go_simp
    try with_reducible rfl
  simp only [List.setIfInBounds_toArray, List.set_cons_zero]
  refine wpAnyH_done (by kernel_rfl) ?_ _
  refine NoPanic.normal ?_
  go_wp2_with fail
  go_ret
  exact ⟨rfl, ext_trans hb1 (HC5.out _ hx2).2⟩
end Go.Proofs.Ytdoemkncgfgkhaa
