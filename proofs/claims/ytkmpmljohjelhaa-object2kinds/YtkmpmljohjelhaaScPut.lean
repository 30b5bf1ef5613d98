/- What scode.Put and the document's PutSets write: contracts, of labels that may be. -/
import Derived.Test.YtkmpmljohjelhaaSc
import Derived.Test.YtkmpmljohjelhaaSvRead
import Derived.Test.YtkmpmljohjelhaaRegion
namespace Go.Proofs.Ytkmpmljohjelhaa
open Go.RowKit
set_option maxRecDepth 100000

set_option maxHeartbeats 4000000 in
theorem sput_parts (a : Option Addr) (n cap : Nat) (bs : List Int) (x : Sv) (M : Nat) (hM : M = 3 + 2 * (x.n1 + x.n2 + x.n3)) (w : World) (hr : Row w a n cap bs) (hx : x.In w) (hm : mayS x.xs = true ∧ mayS x.ys = true ∧ mayS x.zs = true) (hbd : n ≤ 1000000) :
    Calls Try.prog 17 #[.slice a n cap, .agg #[.slice x.a1 x.n1 x.c1, .slice x.a2 x.n2 x.c2, .slice x.a3 x.n3 x.c3]] w fun e w' => ∃ g c, e = .returned (.slice (some ⟨g, 0, none⟩) (n + M) c) ∧ Own 5 w' w.heap.size g (n + M) c (bs ++ encV x.xs x.ys x.zs) ∧ Below w.heap.size w w' := by
  have HC : Hid _ := one_sv w x
  have HL : Hid (x.xs.length = x.n1 ∧ x.ys.length = x.n2 ∧ x.zs.length = x.n3) := ⟨hx.r1.len, hx.r2.len, hx.r3.len⟩
  have HM : Hid (mayS x.xs = true ∧ mayS x.ys = true ∧ mayS x.zs = true) := hm
  have l1 : x.n1 ≤ 16 := mayS_len HM.out.1 HL.out.1
  have l2 : x.n2 ≤ 16 := mayS_len HM.out.2.1 HL.out.2.1
  have l3 : x.n3 ≤ 16 := mayS_len HM.out.2.2 HL.out.2.2
  have HMM : Hid (n + M = n + (1 + 2 * x.n1) + (1 + 2 * x.n2) + (1 + 2 * x.n3)) := by show _ = _; omega
  clear hm hM
  go_enter Try.func17, Try.ntmps17
  go_wp2_with fail
  have hb0 := Below.refl (w.alloc (Obj.cells #[.slice x.a1 x.n1 x.c1, .slice x.a2 x.n2 x.c2, .slice x.a3 x.n3 x.c3] 28)).heap.size (w.alloc (Obj.cells #[.slice x.a1 x.n1 x.c1, .slice x.a2 x.n2 x.c2, .slice x.a3 x.n3 x.c3] 28))
  obtain ⟨_, _, _, bw0⟩ := HC.out _ hb0
  have hq0 := may_any x.a1 x.n1 x.c1 x.xs _ (hx.r1.below bw0)
  rw [HM.out.1] at hq0
  refine hq0.mono ?_
  rintro e w1 ⟨rfl, hb1⟩
  replace hb1 := ext_trans hb0 hb1
  clear hb0 bw0 hq0
  obtain ⟨s0, s1, s2, bw1⟩ := HC.out _ hb1
  go_wp2_with fail
  clear s0 s1 s2
  have hq1 := may_any x.a2 x.n2 x.c2 x.ys _ (hx.r2.below bw1)
  rw [HM.out.2.1] at hq1
  refine hq1.mono ?_
  rintro e w2 ⟨rfl, hb2⟩
  replace hb2 := ext_trans hb1 hb2
  clear hb1 bw1 hq1
  obtain ⟨s0, s1, s2, bw2⟩ := HC.out _ hb2
  go_wp2_with fail
  clear s0 s1 s2
  have hq2 := may_any x.a3 x.n3 x.c3 x.zs _ (hx.r3.below bw2)
  rw [HM.out.2.2] at hq2
  refine hq2.mono ?_
  rintro e w3 ⟨rfl, hb3⟩
  replace hb3 := ext_trans hb2 hb3
  clear hb2 bw2 hq2
  obtain ⟨s0, s1, s2, bw3⟩ := HC.out _ hb3
  go_wp2_with fail
  clear s0 s1 s2
  have hB0 := ext_trans hb3 (ext_drew w3)
  refine wp_region_noPanic ?_
  refine wp_region_held_drew (S := fun W => Below (w.alloc (Obj.cells #[.slice x.a1 x.n1 x.c1, .slice x.a2 x.n2 x.c2, .slice x.a3 x.n3 x.c3] 28)).heap.size (w.alloc (Obj.cells #[.slice x.a1 x.n1 x.c1, .slice x.a2 x.n2 x.c2, .slice x.a3 x.n3 x.c3] 28)) W) (by kernel_rfl) hB0 fun hS => ?_
  refine take_to (i := 0) (v := ?_) 23 rfl rfl (by kernel_rfl) (by kernel_rfl) (by kernel_rfl) (fun _ _ _ h => h) (Or.inl ⟨by rfl, ?_⟩) hS ?_
  rotate_left
  · intro W hW
    obtain ⟨s0, s1, s2, _⟩ := HC.out W hW
    go_simp
    try with_reducible rfl
  simp only [List.setIfInBounds_toArray, List.set_cons_zero, List.set_cons_succ]
  refine take_to (i := 1) (v := ?_) 24 rfl rfl (by kernel_rfl) (by kernel_rfl) (by kernel_rfl) (fun _ _ _ h => h) (Or.inl ⟨by rfl, ?_⟩) hS ?_
  rotate_left
  · intro W hW
    obtain ⟨s0, s1, s2, _⟩ := HC.out W hW
    go_simp
    try with_reducible rfl
  simp only [List.setIfInBounds_toArray, List.set_cons_zero, List.set_cons_succ]
  refine take_to (i := 2) (v := ?_) 25 rfl rfl (by kernel_rfl) (by kernel_rfl) (by kernel_rfl) (fun _ _ _ h => h) (Or.inl ⟨by rfl, ?_⟩) hS ?_
  rotate_left
  · intro W hW
    obtain ⟨s0, s1, s2, _⟩ := HC.out W hW
    go_simp
    try with_reducible rfl
  simp only [List.setIfInBounds_toArray, List.set_cons_zero, List.set_cons_succ]
  refine take_to (i := 4) (v := ?_) 27 rfl rfl (by kernel_rfl) (by kernel_rfl) (by kernel_rfl) (fun _ _ _ h => h) (Or.inl ⟨by rfl, ?_⟩) hS ?_
  rotate_left
  · intro W hW
    obtain ⟨s0, s1, s2, _⟩ := HC.out W hW
    go_simp
    try with_reducible rfl
  simp only [List.setIfInBounds_toArray, List.set_cons_zero, List.set_cons_succ]
  refine take_to (i := 5) (v := ?_) 28 rfl rfl (by kernel_rfl) (by kernel_rfl) (by kernel_rfl) (fun _ _ _ h => h) (Or.inl ⟨by rfl, ?_⟩) hS ?_
  rotate_left
  · intro W hW
    obtain ⟨s0, s1, s2, _⟩ := HC.out W hW
    go_simp
    try with_reducible rfl
  simp only [List.setIfInBounds_toArray, List.set_cons_zero, List.set_cons_succ]
  refine take_to (i := 7) (v := ?_) 30 rfl rfl (by kernel_rfl) (by kernel_rfl) (by kernel_rfl) (fun _ _ _ h => h) (Or.inl ⟨by rfl, ?_⟩) hS ?_
  rotate_left
  · intro W hW
    obtain ⟨s0, s1, s2, _⟩ := HC.out W hW
    go_simp
    try with_reducible rfl
  simp only [List.setIfInBounds_toArray, List.set_cons_zero, List.set_cons_succ]
  refine take_to (i := 8) (v := ?_) 31 rfl rfl (by kernel_rfl) (by kernel_rfl) (by kernel_rfl) (fun _ _ _ h => h) (Or.inl ⟨by rfl, ?_⟩) hS ?_
  rotate_left
  · intro W hW
    obtain ⟨s0, s1, s2, _⟩ := HC.out W hW
    go_simp
    try with_reducible rfl
  simp only [List.setIfInBounds_toArray, List.set_cons_zero, List.set_cons_succ]
  refine wpAnyH_ready (rs := [3]) (by kernel_rfl) (by simp) ?_
  refine AllReadyH.cons rfl (fun K hK => ?_) AllReadyH.nil
  go_simp
  obtain ⟨_, _, _, bw⟩ := HC.out _ hB0
  refine (putSet_any a x.a1 n cap x.n1 x.c1 bs x.xs _ (hr.below bw) (hx.r1.below bw) HM.out.1 (by omega)).mono ?_
  rintro e v1 ⟨g1, d1, rfl, o1, t1⟩
  have r1 := o1.row
  have z1 := t1.size
  have u1 := ext_trans hB0 t1
  clear bw o1
  refine hK.out _ _ u1 fun hS => ?_
  clear hK K
  refine wpAnyH_ready (rs := [6]) (by kernel_rfl) (by simp) ?_
  refine AllReadyH.cons rfl (fun K hK => ?_) AllReadyH.nil
  go_simp
  obtain ⟨_, _, _, bw⟩ := HC.out _ u1
  refine (putSet_any (some ⟨g1, 0, none⟩) x.a2 (n + (1 + 2 * x.n1)) d1 x.n2 x.c2 (bs ++ (putB x.n1 1 ++ encS x.xs)) x.ys _ r1 (hx.r2.below bw) HM.out.2.1 (by omega)).mono ?_
  rintro e v2 ⟨g2, d2, rfl, o2, t2⟩
  have r2 := o2.row
  have z2 := t2.size
  have u2 := ext_trans u1 t2
  clear bw o2
  refine hK.out _ _ u2 fun hS => ?_
  clear hK K
  refine wpAnyH_ready (rs := [9]) (by kernel_rfl) (by simp) ?_
  refine AllReadyH.cons rfl (fun K hK => ?_) AllReadyH.nil
  go_simp
  obtain ⟨_, _, _, bw⟩ := HC.out _ u2
  refine (putSet_any (some ⟨g2, 0, none⟩) x.a3 (n + (1 + 2 * x.n1) + (1 + 2 * x.n2)) d2 x.n3 x.c3 ((bs ++ (putB x.n1 1 ++ encS x.xs)) ++ (putB x.n2 1 ++ encS x.ys)) x.zs _ r2 (hx.r3.below bw) HM.out.2.2 (by omega)).mono ?_
  rintro e v3 ⟨g3, d3, rfl, o3, t3⟩
  have r3 := o3.row
  have z3 := t3.size
  have u3 := ext_trans u2 t3
  clear bw
  refine hK.out _ _ u3 fun hS => ?_
  clear hK K
  refine take_to (i := 10) (v := ?_) 4 rfl rfl (by kernel_rfl) (by kernel_rfl) (by kernel_rfl) (fun _ _ _ h => h) (Or.inl ⟨by rfl, ?_⟩) hS ?_
  rotate_left
  · intro W hW
    obtain ⟨s0, s1, s2, _⟩ := HC.out W hW
    go_simp
    try with_reducible rfl
  simp only [List.setIfInBounds_toArray, List.set_cons_zero, List.set_cons_succ]
  refine wpAnyH_done (by kernel_rfl) ?_ _
  refine NoPanic.normal ?_
  go_wp2_with fail
  go_ret
  obtain ⟨_, _, _, bw⟩ := HC.out _ u3
  have hz := ext_trans bw3 (ext_trans (ext_drew w3) (ext_trans t1 t2))
  have hz := hz.size
  refine ⟨g3, d3, by rw [HMM.out]; rfl, ?_, bw⟩
  have e : bs ++ encV x.xs x.ys x.zs = bs ++ (putB x.n1 1 ++ encS x.xs) ++ (putB x.n2 1 ++ encS x.ys) ++ (putB x.n3 1 ++ encS x.zs) := by
    rw [encV, encW, encW, encW, HL.out.1, HL.out.2.1, HL.out.2.2]; simp
  rw [HMM.out, e]
  exact o3.mono (by omega)

theorem sput_any (a : Option Addr) (n cap : Nat) (bs : List Int) (x : Sv) (M : Nat) (hM : M = 3 + 2 * (x.n1 + x.n2 + x.n3)) (w : World) (hr : Row w a n cap bs) (hx : x.In w) (hm : mayV x.xs x.ys x.zs = true) (hbd : n ≤ 1000000) :
    Calls Try.prog 17 #[.slice a n cap, .agg #[.slice x.a1 x.n1 x.c1, .slice x.a2 x.n2 x.c2, .slice x.a3 x.n3 x.c3]] w fun e w' => ∃ g c, e = .returned (.slice (some ⟨g, 0, none⟩) (n + M) c) ∧ Own 5 w' w.heap.size g (n + M) c (bs ++ encV x.xs x.ys x.zs) ∧ Below w.heap.size w w' :=
  sput_parts a n cap bs x M hM w hr hx (mayB_parts hm) hbd
set_option maxHeartbeats 4000000 in
theorem refSput_any (a : Option Addr) (n cap : Nat) (bs : List Int) (x : Sv) (M : Nat) (hM : M = 3 + 2 * (x.n1 + x.n2 + x.n3)) (w : World) (hr : Row w a n cap bs) (hx : x.In w) (hm : mayV x.xs x.ys x.zs = true) (hbd : n ≤ 1000000) :
    Calls Try.prog 19 #[.slice a n cap, .agg #[.slice x.a1 x.n1 x.c1, .slice x.a2 x.n2 x.c2, .slice x.a3 x.n3 x.c3]] w fun e w' => ∃ g c, e = .returned (.slice (some ⟨g, 0, none⟩) (n + M) c) ∧ Own 5 w' w.heap.size g (n + M) c (bs ++ encV x.xs x.ys x.zs) ∧ Below w.heap.size w w' := by
  have HC : Hid _ := one_sv w x
  have HL : Hid (x.xs.length = x.n1 ∧ x.ys.length = x.n2 ∧ x.zs.length = x.n3) := ⟨hx.r1.len, hx.r2.len, hx.r3.len⟩
  have HM : Hid (mayS x.xs = true ∧ mayS x.ys = true ∧ mayS x.zs = true) := mayB_parts hm
  have l1 : x.n1 ≤ 16 := mayS_len HM.out.1 HL.out.1
  have l2 : x.n2 ≤ 16 := mayS_len HM.out.2.1 HL.out.2.1
  have l3 : x.n3 ≤ 16 := mayS_len HM.out.2.2 HL.out.2.2
  have HMM : Hid (n + M = n + (1 + 2 * x.n1) + (1 + 2 * x.n2) + (1 + 2 * x.n3)) := by show _ = _; omega
  clear hm hM
  go_enter Try.func19, Try.ntmps19
  go_wp2_with fail
  have hB0 : Below (w.alloc (Obj.cells #[.slice x.a1 x.n1 x.c1, .slice x.a2 x.n2 x.c2, .slice x.a3 x.n3 x.c3] 28)).heap.size (w.alloc (Obj.cells #[.slice x.a1 x.n1 x.c1, .slice x.a2 x.n2 x.c2, .slice x.a3 x.n3 x.c3] 28)) (w.alloc (Obj.cells #[.slice x.a1 x.n1 x.c1, .slice x.a2 x.n2 x.c2, .slice x.a3 x.n3 x.c3] 28)).drew := ext_drew _
  obtain ⟨_, _, _, bw3⟩ := HC.out _ (Below.refl (w.alloc (Obj.cells #[.slice x.a1 x.n1 x.c1, .slice x.a2 x.n2 x.c2, .slice x.a3 x.n3 x.c3] 28)).heap.size (w.alloc (Obj.cells #[.slice x.a1 x.n1 x.c1, .slice x.a2 x.n2 x.c2, .slice x.a3 x.n3 x.c3] 28)))
  refine wp_region_noPanic ?_
  refine wp_region_held_drew (S := fun W => Below (w.alloc (Obj.cells #[.slice x.a1 x.n1 x.c1, .slice x.a2 x.n2 x.c2, .slice x.a3 x.n3 x.c3] 28)).heap.size (w.alloc (Obj.cells #[.slice x.a1 x.n1 x.c1, .slice x.a2 x.n2 x.c2, .slice x.a3 x.n3 x.c3] 28)) W) (by kernel_rfl) hB0 fun hS => ?_
  refine take_to (i := 0) (v := ?_) 5 rfl rfl (by kernel_rfl) (by kernel_rfl) (by kernel_rfl) (fun _ _ _ h => h) (Or.inl ⟨by rfl, ?_⟩) hS ?_
  rotate_left
  · intro W hW
    obtain ⟨s0, s1, s2, _⟩ := HC.out W hW
    go_simp
    try with_reducible rfl
  simp only [List.setIfInBounds_toArray, List.set_cons_zero, List.set_cons_succ]
  refine take_to (i := 1) (v := ?_) 6 rfl rfl (by kernel_rfl) (by kernel_rfl) (by kernel_rfl) (fun _ _ _ h => h) (Or.inl ⟨by rfl, ?_⟩) hS ?_
  rotate_left
  · intro W hW
    obtain ⟨s0, s1, s2, _⟩ := HC.out W hW
    go_simp
    try with_reducible rfl
  simp only [List.setIfInBounds_toArray, List.set_cons_zero, List.set_cons_succ]
  refine take_to (i := 2) (v := ?_) 7 rfl rfl (by kernel_rfl) (by kernel_rfl) (by kernel_rfl) (fun _ _ _ h => h) (Or.inl ⟨by rfl, ?_⟩) hS ?_
  rotate_left
  · intro W hW
    obtain ⟨s0, s1, s2, _⟩ := HC.out W hW
    go_simp
    try with_reducible rfl
  simp only [List.setIfInBounds_toArray, List.set_cons_zero, List.set_cons_succ]
  refine take_to (i := 4) (v := ?_) 9 rfl rfl (by kernel_rfl) (by kernel_rfl) (by kernel_rfl) (fun _ _ _ h => h) (Or.inl ⟨by rfl, ?_⟩) hS ?_
  rotate_left
  · intro W hW
    obtain ⟨s0, s1, s2, _⟩ := HC.out W hW
    go_simp
    try with_reducible rfl
  simp only [List.setIfInBounds_toArray, List.set_cons_zero, List.set_cons_succ]
  refine take_to (i := 5) (v := ?_) 10 rfl rfl (by kernel_rfl) (by kernel_rfl) (by kernel_rfl) (fun _ _ _ h => h) (Or.inl ⟨by rfl, ?_⟩) hS ?_
  rotate_left
  · intro W hW
    obtain ⟨s0, s1, s2, _⟩ := HC.out W hW
    go_simp
    try with_reducible rfl
  simp only [List.setIfInBounds_toArray, List.set_cons_zero, List.set_cons_succ]
  refine take_to (i := 7) (v := ?_) 12 rfl rfl (by kernel_rfl) (by kernel_rfl) (by kernel_rfl) (fun _ _ _ h => h) (Or.inl ⟨by rfl, ?_⟩) hS ?_
  rotate_left
  · intro W hW
    obtain ⟨s0, s1, s2, _⟩ := HC.out W hW
    go_simp
    try with_reducible rfl
  simp only [List.setIfInBounds_toArray, List.set_cons_zero, List.set_cons_succ]
  refine take_to (i := 8) (v := ?_) 13 rfl rfl (by kernel_rfl) (by kernel_rfl) (by kernel_rfl) (fun _ _ _ h => h) (Or.inl ⟨by rfl, ?_⟩) hS ?_
  rotate_left
  · intro W hW
    obtain ⟨s0, s1, s2, _⟩ := HC.out W hW
    go_simp
    try with_reducible rfl
  simp only [List.setIfInBounds_toArray, List.set_cons_zero, List.set_cons_succ]
  refine wpAnyH_ready (rs := [3]) (by kernel_rfl) (by simp) ?_
  refine AllReadyH.cons rfl (fun K hK => ?_) AllReadyH.nil
  go_simp
  obtain ⟨_, _, _, bw⟩ := HC.out _ hB0
  refine (refPutSet_any a x.a1 n cap x.n1 x.c1 bs x.xs _ (hr.below bw) (hx.r1.below bw) (by omega) (by omega)).mono ?_
  rintro e v1 ⟨g1, d1, rfl, o1, t1⟩
  have r1 := o1.row
  have z1 := t1.size
  have u1 := ext_trans hB0 t1
  clear bw o1
  refine hK.out _ _ u1 fun hS => ?_
  clear hK K
  refine wpAnyH_ready (rs := [6]) (by kernel_rfl) (by simp) ?_
  refine AllReadyH.cons rfl (fun K hK => ?_) AllReadyH.nil
  go_simp
  obtain ⟨_, _, _, bw⟩ := HC.out _ u1
  refine (refPutSet_any (some ⟨g1, 0, none⟩) x.a2 (n + (1 + 2 * x.n1)) d1 x.n2 x.c2 (bs ++ (putB x.n1 1 ++ encS x.xs)) x.ys _ r1 (hx.r2.below bw) (by omega) (by omega)).mono ?_
  rintro e v2 ⟨g2, d2, rfl, o2, t2⟩
  have r2 := o2.row
  have z2 := t2.size
  have u2 := ext_trans u1 t2
  clear bw o2
  refine hK.out _ _ u2 fun hS => ?_
  clear hK K
  refine wpAnyH_ready (rs := [9]) (by kernel_rfl) (by simp) ?_
  refine AllReadyH.cons rfl (fun K hK => ?_) AllReadyH.nil
  go_simp
  obtain ⟨_, _, _, bw⟩ := HC.out _ u2
  refine (refPutSet_any (some ⟨g2, 0, none⟩) x.a3 (n + (1 + 2 * x.n1) + (1 + 2 * x.n2)) d2 x.n3 x.c3 ((bs ++ (putB x.n1 1 ++ encS x.xs)) ++ (putB x.n2 1 ++ encS x.ys)) x.zs _ r2 (hx.r3.below bw) (by omega) (by omega)).mono ?_
  rintro e v3 ⟨g3, d3, rfl, o3, t3⟩
  have r3 := o3.row
  have z3 := t3.size
  have u3 := ext_trans u2 t3
  clear bw
  refine hK.out _ _ u3 fun hS => ?_
  clear hK K
  refine take_to (i := 10) (v := ?_) 4 rfl rfl (by kernel_rfl) (by kernel_rfl) (by kernel_rfl) (fun _ _ _ h => h) (Or.inl ⟨by rfl, ?_⟩) hS ?_
  rotate_left
  · intro W hW
    obtain ⟨s0, s1, s2, _⟩ := HC.out W hW
    go_simp
    try with_reducible rfl
  simp only [List.setIfInBounds_toArray, List.set_cons_zero, List.set_cons_succ]
  refine wpAnyH_done (by kernel_rfl) ?_ _
  refine NoPanic.normal ?_
  go_wp2_with fail
  go_ret
  obtain ⟨_, _, _, bw⟩ := HC.out _ u3
  have hz := ext_trans bw3 (ext_trans (ext_drew _) (ext_trans t1 t2))
  have hz := hz.size
  refine ⟨g3, d3, by rw [HMM.out]; rfl, ?_, bw⟩
  have e : bs ++ encV x.xs x.ys x.zs = bs ++ (putB x.n1 1 ++ encS x.xs) ++ (putB x.n2 1 ++ encS x.ys) ++ (putB x.n3 1 ++ encS x.zs) := by
    rw [encV, encW, encW, encW, HL.out.1, HL.out.2.1, HL.out.2.2]; simp
  rw [HMM.out, e]
  exact o3.mono (by omega)
end Go.Proofs.Ytkmpmljohjelhaa
