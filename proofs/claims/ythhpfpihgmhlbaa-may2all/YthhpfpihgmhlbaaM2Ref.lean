/- Who may, by sets, as the document says it by levels: contracts. -/
import Derived.Test.YthhpfpihgmhlbaaBkRef
import Derived.Test.YthhpfpihgmhlbaaM2Laws
namespace Go.Proofs.Ythhpfpihgmhlbaa
open Go.RowKit

theorem why_why2 {n st s q f : Bool} (hn : n = true) (hst : st = s) (hf : s = true → f = q) : why n st f = why2 s q := by
  subst hn hst
  cases st
  · rfl
  · rw [hf rfl]; rfl
theorem owns_none {x y : Sv} (h : y.zs = []) : OwnsP x y := fun z hz => by rw [h] at hz; simp at hz

set_option maxHeartbeats 4000000 in
theorem refSees2_is (q : Bool) {x y : Sv} (hq : Hid (q = true ↔ SeesP x y)) (w : World) (hx : x.In w) (hy : y.In w) (px : Hid (MayP x.xs x.ys x.zs)) (py : Hid (MayP y.xs y.ys y.zs)) (h0 : Hid (y.zs = [])) :
    Calls Try.prog 15 #[.agg #[.slice x.a1 x.n1 x.c1, .slice x.a2 x.n2 x.c2, .slice x.a3 x.n3 x.c3], .agg #[.slice y.a1 y.n1 y.c1, .slice y.a2 y.n2 y.c2, .slice y.a3 y.n3 y.c3]] w fun e w' => e = .returned (.bool q) ∧ Below w.heap.size w w' := by
  have HC : Hid _ := two_sv w x y
  go_enter Try.func15, Try.ntmps15
  go_wp2_with fail
  obtain ⟨W1, hW1⟩ : ∃ V, V = (w.alloc (Obj.cells #[.slice x.a1 x.n1 x.c1, .slice x.a2 x.n2 x.c2, .slice x.a3 x.n3 x.c3] 24)).alloc (Obj.cells #[.slice y.a1 y.n1 y.c1, .slice y.a2 y.n2 y.c2, .slice y.a3 y.n3 y.c3] 24) := ⟨_, rfl⟩
  rw [← hW1] at HC ⊢
  clear hW1
  have hB0 : Below W1.heap.size W1 W1.drew := ext_drew _
  refine wp_region_noPanic ?_
  refine wp_region_held_drew (S := fun W => Below W1.heap.size W1 W) (by kernel_rfl) hB0 fun hS => ?_
  refine take_to (i := 0) (v := ?_) 5 rfl rfl (by kernel_rfl) (by kernel_rfl) (by kernel_rfl) (fun _ _ _ h => h) (Or.inl ⟨by rfl, ?_⟩) hS ?_
  rotate_left
  · intro W hW
    obtain ⟨s0, s1, s2, s3, s4, s5, _⟩ := HC.out W hW
    go_simp
    try with_reducible rfl
  simp only [List.setIfInBounds_toArray, List.set_cons_zero, List.set_cons_succ]
  refine take_to (i := 2) (v := ?_) 7 rfl rfl (by kernel_rfl) (by kernel_rfl) (by kernel_rfl) (fun _ _ _ h => h) (Or.inl ⟨by rfl, ?_⟩) hS ?_
  rotate_left
  · intro W hW
    obtain ⟨s0, s1, s2, s3, s4, s5, _⟩ := HC.out W hW
    go_simp
    try with_reducible rfl
  simp only [List.setIfInBounds_toArray, List.set_cons_zero, List.set_cons_succ]
  refine wpAnyH_ready (rs := [1]) (by kernel_rfl) (by simp) ?_
  refine AllReadyH.cons rfl (fun K hK => ?_) AllReadyH.nil
  go_simp
  obtain ⟨_, _, _, _, _, _, bw⟩ := HC.out _ hB0
  refine (back_is x _ (hx.below bw) px).mono ?_
  rintro e w1 ⟨so1, k1, co1, ps, rfl, hlb1, HB1, hb1⟩
  replace hb1 := ext_trans hB0 hb1
  clear bw
  refine hK.out _ _ hb1 fun hS => ?_
  clear hK K
  refine wpAnyH_ready (rs := [3]) (by kernel_rfl) (by simp) ?_
  refine AllReadyH.cons rfl (fun K hK => ?_) AllReadyH.nil
  go_simp
  obtain ⟨_, _, _, _, _, _, bw⟩ := HC.out _ hb1
  refine (back_is y _ (hy.below bw) py).mono ?_
  rintro e w2 ⟨so2, k2, co2, qs, rfl, hlb2, HB2, hb2⟩
  replace hlb1 := hlb1.below hb2
  replace hb2 := ext_trans hb1 hb2
  clear bw
  refine hK.out _ _ hb2 fun hS => ?_
  clear hK K
  refine wpAnyH_ready (rs := [4]) (by kernel_rfl) (by simp) ?_
  refine AllReadyH.cons rfl (fun K hK => ?_) AllReadyH.nil
  go_simp
  refine (refSees_is q (show Hid _ from hq.out.trans (HB1.out.sees HB2.out px.out py.out h0.out).symm) _ hlb1 hlb2).mono ?_
  rintro e w3 ⟨rfl, hb3⟩
  replace hb3 := ext_trans hb2 hb3
  refine hK.out _ _ hb3 fun hS => ?_
  clear hK K
  refine take_to (i := 5) (v := ?_) 4 rfl rfl (by kernel_rfl) (by kernel_rfl) (by kernel_rfl) (fun _ _ _ h => h) (Or.inl ⟨by rfl, ?_⟩) hS ?_
  rotate_left
  · intro W hW
    obtain ⟨s0, s1, s2, s3, s4, s5, _⟩ := HC.out W hW
    go_simp
    try with_reducible rfl
  simp only [List.setIfInBounds_toArray, List.set_cons_zero, List.set_cons_succ]
  refine wpAnyH_done (by kernel_rfl) ?_ _
  refine NoPanic.normal ?_
  go_wp2_with fail
  go_ret
  obtain ⟨_, _, _, _, _, _, bw⟩ := HC.out _ hb3
  exact ⟨rfl, bw⟩

set_option maxHeartbeats 4000000 in
theorem refTurns2_is (q : Bool) {x y : Sv} (hq : Hid (q = true ↔ TurnsP x y)) (w : World) (hx : x.In w) (hy : y.In w) (px : Hid (MayP x.xs x.ys x.zs)) (py : Hid (MayP y.xs y.ys y.zs)) (h0 : Hid (y.zs = [])) :
    Calls Try.prog 17 #[.agg #[.slice x.a1 x.n1 x.c1, .slice x.a2 x.n2 x.c2, .slice x.a3 x.n3 x.c3], .agg #[.slice y.a1 y.n1 y.c1, .slice y.a2 y.n2 y.c2, .slice y.a3 y.n3 y.c3]] w fun e w' => e = .returned (.bool q) ∧ Below w.heap.size w w' := by
  have HC : Hid _ := two_sv w x y
  go_enter Try.func17, Try.ntmps17
  go_wp2_with fail
  obtain ⟨W1, hW1⟩ : ∃ V, V = (w.alloc (Obj.cells #[.slice x.a1 x.n1 x.c1, .slice x.a2 x.n2 x.c2, .slice x.a3 x.n3 x.c3] 24)).alloc (Obj.cells #[.slice y.a1 y.n1 y.c1, .slice y.a2 y.n2 y.c2, .slice y.a3 y.n3 y.c3] 24) := ⟨_, rfl⟩
  rw [← hW1] at HC ⊢
  clear hW1
  have hB0 : Below W1.heap.size W1 W1.drew := ext_drew _
  refine wp_region_noPanic ?_
  refine wp_region_held_drew (S := fun W => Below W1.heap.size W1 W) (by kernel_rfl) hB0 fun hS => ?_
  refine take_to (i := 0) (v := ?_) 5 rfl rfl (by kernel_rfl) (by kernel_rfl) (by kernel_rfl) (fun _ _ _ h => h) (Or.inl ⟨by rfl, ?_⟩) hS ?_
  rotate_left
  · intro W hW
    obtain ⟨s0, s1, s2, s3, s4, s5, _⟩ := HC.out W hW
    go_simp
    try with_reducible rfl
  simp only [List.setIfInBounds_toArray, List.set_cons_zero, List.set_cons_succ]
  refine take_to (i := 2) (v := ?_) 7 rfl rfl (by kernel_rfl) (by kernel_rfl) (by kernel_rfl) (fun _ _ _ h => h) (Or.inl ⟨by rfl, ?_⟩) hS ?_
  rotate_left
  · intro W hW
    obtain ⟨s0, s1, s2, s3, s4, s5, _⟩ := HC.out W hW
    go_simp
    try with_reducible rfl
  simp only [List.setIfInBounds_toArray, List.set_cons_zero, List.set_cons_succ]
  refine wpAnyH_ready (rs := [1]) (by kernel_rfl) (by simp) ?_
  refine AllReadyH.cons rfl (fun K hK => ?_) AllReadyH.nil
  go_simp
  obtain ⟨_, _, _, _, _, _, bw⟩ := HC.out _ hB0
  refine (back_is x _ (hx.below bw) px).mono ?_
  rintro e w1 ⟨so1, k1, co1, ps, rfl, hlb1, HB1, hb1⟩
  replace hb1 := ext_trans hB0 hb1
  clear bw
  refine hK.out _ _ hb1 fun hS => ?_
  clear hK K
  refine wpAnyH_ready (rs := [3]) (by kernel_rfl) (by simp) ?_
  refine AllReadyH.cons rfl (fun K hK => ?_) AllReadyH.nil
  go_simp
  obtain ⟨_, _, _, _, _, _, bw⟩ := HC.out _ hb1
  refine (back_is y _ (hy.below bw) py).mono ?_
  rintro e w2 ⟨so2, k2, co2, qs, rfl, hlb2, HB2, hb2⟩
  replace hlb1 := hlb1.below hb2
  replace hb2 := ext_trans hb1 hb2
  clear bw
  refine hK.out _ _ hb2 fun hS => ?_
  clear hK K
  refine wpAnyH_ready (rs := [4]) (by kernel_rfl) (by simp) ?_
  refine AllReadyH.cons rfl (fun K hK => ?_) AllReadyH.nil
  go_simp
  refine (refTurns_is q (show Hid _ from hq.out.trans ⟨fun h => (HB1.out.flows HB2.out px.out py.out).2 ⟨owns_none h0.out, h⟩, fun h => ((HB1.out.flows HB2.out px.out py.out).1 h).2⟩) _ hlb1 hlb2).mono ?_
  rintro e w3 ⟨rfl, hb3⟩
  replace hb3 := ext_trans hb2 hb3
  refine hK.out _ _ hb3 fun hS => ?_
  clear hK K
  refine take_to (i := 5) (v := ?_) 4 rfl rfl (by kernel_rfl) (by kernel_rfl) (by kernel_rfl) (fun _ _ _ h => h) (Or.inl ⟨by rfl, ?_⟩) hS ?_
  rotate_left
  · intro W hW
    obtain ⟨s0, s1, s2, s3, s4, s5, _⟩ := HC.out W hW
    go_simp
    try with_reducible rfl
  simp only [List.setIfInBounds_toArray, List.set_cons_zero, List.set_cons_succ]
  refine wpAnyH_done (by kernel_rfl) ?_ _
  refine NoPanic.normal ?_
  go_wp2_with fail
  go_ret
  obtain ⟨_, _, _, _, _, _, bw⟩ := HC.out _ hb3
  exact ⟨rfl, bw⟩

set_option maxHeartbeats 4000000 in
theorem refRises2_is (q s : Bool) {x y : Sv} (hq : Hid (q = true ↔ TurnsP x y)) (hs : Hid (s = true ↔ OwnsP x y)) (w : World) (hx : x.In w) (hy : y.In w) (px : Hid (MayP x.xs x.ys x.zs)) (py : Hid (MayP y.xs y.ys y.zs)) :
    Calls Try.prog 11 #[.agg #[.slice x.a1 x.n1 x.c1, .slice x.a2 x.n2 x.c2, .slice x.a3 x.n3 x.c3], .agg #[.slice y.a1 y.n1 y.c1, .slice y.a2 y.n2 y.c2, .slice y.a3 y.n3 y.c3]] w fun e w' => e = .returned (.int .i64 (why2 s q)) ∧ Below w.heap.size w w' := by
  have HC : Hid _ := two_sv w x y
  go_enter Try.func11, Try.ntmps11
  go_wp2_with fail
  obtain ⟨W1, hW1⟩ : ∃ V, V = (w.alloc (Obj.cells #[.slice x.a1 x.n1 x.c1, .slice x.a2 x.n2 x.c2, .slice x.a3 x.n3 x.c3] 24)).alloc (Obj.cells #[.slice y.a1 y.n1 y.c1, .slice y.a2 y.n2 y.c2, .slice y.a3 y.n3 y.c3] 24) := ⟨_, rfl⟩
  rw [← hW1] at HC ⊢
  clear hW1
  have hB0 : Below W1.heap.size W1 W1.drew := ext_drew _
  refine wp_region_noPanic ?_
  refine wp_region_held_drew (S := fun W => Below W1.heap.size W1 W) (by kernel_rfl) hB0 fun hS => ?_
  refine take_to (i := 0) (v := ?_) 5 rfl rfl (by kernel_rfl) (by kernel_rfl) (by kernel_rfl) (fun _ _ _ h => h) (Or.inl ⟨by rfl, ?_⟩) hS ?_
  rotate_left
  · intro W hW
    obtain ⟨s0, s1, s2, s3, s4, s5, _⟩ := HC.out W hW
    go_simp
    try with_reducible rfl
  simp only [List.setIfInBounds_toArray, List.set_cons_zero, List.set_cons_succ]
  refine take_to (i := 2) (v := ?_) 7 rfl rfl (by kernel_rfl) (by kernel_rfl) (by kernel_rfl) (fun _ _ _ h => h) (Or.inl ⟨by rfl, ?_⟩) hS ?_
  rotate_left
  · intro W hW
    obtain ⟨s0, s1, s2, s3, s4, s5, _⟩ := HC.out W hW
    go_simp
    try with_reducible rfl
  simp only [List.setIfInBounds_toArray, List.set_cons_zero, List.set_cons_succ]
  refine wpAnyH_ready (rs := [1]) (by kernel_rfl) (by simp) ?_
  refine AllReadyH.cons rfl (fun K hK => ?_) AllReadyH.nil
  go_simp
  obtain ⟨_, _, _, _, _, _, bw⟩ := HC.out _ hB0
  refine (back_is x _ (hx.below bw) px).mono ?_
  rintro e w1 ⟨so1, k1, co1, ps, rfl, hlb1, HB1, hb1⟩
  replace hb1 := ext_trans hB0 hb1
  clear bw
  refine hK.out _ _ hb1 fun hS => ?_
  clear hK K
  refine wpAnyH_ready (rs := [3]) (by kernel_rfl) (by simp) ?_
  refine AllReadyH.cons rfl (fun K hK => ?_) AllReadyH.nil
  go_simp
  obtain ⟨_, _, _, _, _, _, bw⟩ := HC.out _ hb1
  refine (back_is y _ (hy.below bw) py).mono ?_
  rintro e w2 ⟨so2, k2, co2, qs, rfl, hlb2, HB2, hb2⟩
  replace hlb1 := hlb1.below hb2
  replace hb2 := ext_trans hb1 hb2
  clear bw
  refine hK.out _ _ hb2 fun hS => ?_
  clear hK K
  refine wpAnyH_ready (rs := [4]) (by kernel_rfl) (by simp) ?_
  refine AllReadyH.cons rfl (fun K hK => ?_) AllReadyH.nil
  go_simp
  obtain ⟨f, Hf⟩ := bool_for (FlL 2 ps 2 qs)
  refine (refRises_is f Hf _ hlb1 hlb2).mono ?_
  rintro e w3 ⟨rfl, hb3⟩
  replace hb3 := ext_trans hb2 hb3
  rw [why_why2 HB2.out.names (bool_is (HB1.out.starsB HB2.out) hs.out) fun h => bool_is (Hf.out.trans (HB1.out.flows HB2.out px.out py.out)) (hq.out.trans ⟨fun k => ⟨hs.out.1 h, k⟩, fun k => k.2⟩)]
  refine hK.out _ _ hb3 fun hS => ?_
  clear hK K
  refine take_to (i := 5) (v := ?_) 4 rfl rfl (by kernel_rfl) (by kernel_rfl) (by kernel_rfl) (fun _ _ _ h => h) (Or.inl ⟨by rfl, ?_⟩) hS ?_
  rotate_left
  · intro W hW
    obtain ⟨s0, s1, s2, s3, s4, s5, _⟩ := HC.out W hW
    go_simp
    try with_reducible rfl
  simp only [List.setIfInBounds_toArray, List.set_cons_zero, List.set_cons_succ]
  refine wpAnyH_done (by kernel_rfl) ?_ _
  refine NoPanic.normal ?_
  go_wp2_with fail
  go_ret
  obtain ⟨_, _, _, _, _, _, bw⟩ := HC.out _ hb3
  exact ⟨rfl, bw⟩

set_option maxHeartbeats 4000000 in
theorem refMakes2_is (q s : Bool) {x y : Sv} (hq : Hid (q = true ↔ TurnsP x y)) (hs : Hid (s = true ↔ y.zs = [])) (w : World) (hx : x.In w) (hy : y.In w) (px : Hid (MayP x.xs x.ys x.zs)) (py : Hid (MayP y.xs y.ys y.zs)) :
    Calls Try.prog 13 #[.agg #[.slice x.a1 x.n1 x.c1, .slice x.a2 x.n2 x.c2, .slice x.a3 x.n3 x.c3], .agg #[.slice y.a1 y.n1 y.c1, .slice y.a2 y.n2 y.c2, .slice y.a3 y.n3 y.c3]] w fun e w' => e = .returned (.int .i64 (why2 s q)) ∧ Below w.heap.size w w' := by
  have HC : Hid _ := two_sv w x y
  go_enter Try.func13, Try.ntmps13
  go_wp2_with fail
  obtain ⟨W1, hW1⟩ : ∃ V, V = (w.alloc (Obj.cells #[.slice x.a1 x.n1 x.c1, .slice x.a2 x.n2 x.c2, .slice x.a3 x.n3 x.c3] 24)).alloc (Obj.cells #[.slice y.a1 y.n1 y.c1, .slice y.a2 y.n2 y.c2, .slice y.a3 y.n3 y.c3] 24) := ⟨_, rfl⟩
  rw [← hW1] at HC ⊢
  clear hW1
  have hB0 : Below W1.heap.size W1 W1.drew := ext_drew _
  refine wp_region_noPanic ?_
  refine wp_region_held_drew (S := fun W => Below W1.heap.size W1 W) (by kernel_rfl) hB0 fun hS => ?_
  refine take_to (i := 0) (v := ?_) 5 rfl rfl (by kernel_rfl) (by kernel_rfl) (by kernel_rfl) (fun _ _ _ h => h) (Or.inl ⟨by rfl, ?_⟩) hS ?_
  rotate_left
  · intro W hW
    obtain ⟨s0, s1, s2, s3, s4, s5, _⟩ := HC.out W hW
    go_simp
    try with_reducible rfl
  simp only [List.setIfInBounds_toArray, List.set_cons_zero, List.set_cons_succ]
  refine take_to (i := 2) (v := ?_) 7 rfl rfl (by kernel_rfl) (by kernel_rfl) (by kernel_rfl) (fun _ _ _ h => h) (Or.inl ⟨by rfl, ?_⟩) hS ?_
  rotate_left
  · intro W hW
    obtain ⟨s0, s1, s2, s3, s4, s5, _⟩ := HC.out W hW
    go_simp
    try with_reducible rfl
  simp only [List.setIfInBounds_toArray, List.set_cons_zero, List.set_cons_succ]
  refine wpAnyH_ready (rs := [1]) (by kernel_rfl) (by simp) ?_
  refine AllReadyH.cons rfl (fun K hK => ?_) AllReadyH.nil
  go_simp
  obtain ⟨_, _, _, _, _, _, bw⟩ := HC.out _ hB0
  refine (back_is x _ (hx.below bw) px).mono ?_
  rintro e w1 ⟨so1, k1, co1, ps, rfl, hlb1, HB1, hb1⟩
  replace hb1 := ext_trans hB0 hb1
  clear bw
  refine hK.out _ _ hb1 fun hS => ?_
  clear hK K
  refine wpAnyH_ready (rs := [3]) (by kernel_rfl) (by simp) ?_
  refine AllReadyH.cons rfl (fun K hK => ?_) AllReadyH.nil
  go_simp
  obtain ⟨_, _, _, _, _, _, bw⟩ := HC.out _ hb1
  refine (back_is y _ (hy.below bw) py).mono ?_
  rintro e w2 ⟨so2, k2, co2, qs, rfl, hlb2, HB2, hb2⟩
  replace hlb1 := hlb1.below hb2
  replace hb2 := ext_trans hb1 hb2
  clear bw
  refine hK.out _ _ hb2 fun hS => ?_
  clear hK K
  refine wpAnyH_ready (rs := [4]) (by kernel_rfl) (by simp) ?_
  refine AllReadyH.cons rfl (fun K hK => ?_) AllReadyH.nil
  go_simp
  obtain ⟨f, Hf⟩ := bool_for (FlL 2 ps 2 qs)
  refine (refMakes_is f Hf _ hlb1 hlb2).mono ?_
  rintro e w3 ⟨rfl, hb3⟩
  replace hb3 := ext_trans hb2 hb3
  rw [why_why2 HB2.out.names (bool_is (P := y.zs = []) (by rw [decide_eq_true_eq]; exact HB2.out.none) hs.out) fun h => bool_is (Hf.out.trans (HB1.out.flows HB2.out px.out py.out)) (hq.out.trans ⟨fun k => ⟨owns_none (hs.out.1 h), k⟩, fun k => k.2⟩)]
  refine hK.out _ _ hb3 fun hS => ?_
  clear hK K
  refine take_to (i := 5) (v := ?_) 4 rfl rfl (by kernel_rfl) (by kernel_rfl) (by kernel_rfl) (fun _ _ _ h => h) (Or.inl ⟨by rfl, ?_⟩) hS ?_
  rotate_left
  · intro W hW
    obtain ⟨s0, s1, s2, s3, s4, s5, _⟩ := HC.out W hW
    go_simp
    try with_reducible rfl
  simp only [List.setIfInBounds_toArray, List.set_cons_zero, List.set_cons_succ]
  refine wpAnyH_done (by kernel_rfl) ?_ _
  refine NoPanic.normal ?_
  go_wp2_with fail
  go_ret
  obtain ⟨_, _, _, _, _, _, bw⟩ := HC.out _ hb3
  exact ⟨rfl, bw⟩
end Go.Proofs.Ythhpfpihgmhlbaa
