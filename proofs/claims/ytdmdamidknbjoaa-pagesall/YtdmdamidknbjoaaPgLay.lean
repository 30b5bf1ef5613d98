/- lay: takes as many frames as so many bytes need, and makes the table of them. -/
import Derived.Test.YtdmdamidknbjoaaPgOps
import Derived.Test.YtdmdamidknbjoaaRegion
import Derived.Deep.CutRange
namespace Go.Proofs.Ytdmdamidknbjoaa
open Go.RowKit
set_option maxRecDepth 100000

/-- k frames, fr i each, are taken beside those of A. -/
structure Lay (A A' : Mm) (fr : Nat → Nat) (k K : Nat) : Prop where
  new : ∀ i, i < k → A (fr i) = none ∧ A' (fr i) = some (fun _ => 0)
  old : ∀ x, (∀ i, i < k → x ≠ fr i) → A' x = A x
  inj : ∀ i j, i < k → j < k → fr i = fr j → i = j
  cnt : cnt A' K = cnt A K + k
theorem Lay.zero (A : Mm) (fr : Nat → Nat) (K : Nat) : Lay A A fr 0 K := ⟨fun i hi => by omega, fun _ _ => rfl, fun i j hi => by omega, rfl⟩
theorem Lay.next {A A' : Mm} {fr : Nat → Nat} {k K m : Nat} (h : Lay A A' fr k K) (hm : m < K) (hn : A' m = none) : Lay A (upd A' m (some fun _ => 0)) (upd fr k m) (k + 1) K := by
  have hne : ∀ i, i < k → fr i ≠ m := fun i hi e => by have := (h.new i hi).2; rw [e, hn] at this; cases this
  have hA : A m = none := by rw [← h.old m (fun i hi e => hne i hi e.symm)]; exact hn
  refine ⟨fun i hi => ?_, fun x hx => ?_, fun i j hi hj e => ?_, ?_⟩
  · by_cases e : i = k
    · subst e; rw [upd_same, upd_same]; exact ⟨hA, rfl⟩
    · rw [upd_other _ _ e, upd_other _ _ (hne i (by omega))]; exact h.new i (by omega)
  · have hx1 : x ≠ m := by have := hx k (by omega); rwa [upd_same] at this
    rw [upd_other _ _ hx1]
    exact h.old x (fun i hi => by have := hx i (by omega); rwa [upd_other _ _ (by omega)] at this)
  · by_cases e1 : i = k
    · by_cases e2 : j = k
      · rw [e1, e2]
      · rw [e1, upd_same, upd_other _ _ e2] at e; exact absurd e.symm (hne j (by omega))
    · by_cases e2 : j = k
      · rw [e2, upd_same, upd_other _ _ e1] at e; exact absurd e (hne i (by omega))
      · rw [upd_other _ _ e1, upd_other _ _ e2] at e; exact h.inj i j (by omega) (by omega) e
  · rw [cnt_take hm hn, h.cnt]; omega
theorem least_free {A : Mm} {K : Nat} (h : cnt A K < K) : ∃ m, m < K ∧ (∀ i, i < m → A i ≠ none) ∧ A m = none := by
  obtain ⟨m, h1, h2, h3⟩ := least A K
  by_cases e : m < K
  · exact ⟨m, e, h2, h3 e⟩
  · obtain rfl : m = K := by omega
    rw [cnt_all h2] at h; omega
/-- Where lay stands behind j pages. -/
structure LayR (w wr : World) (S : Nat → Prop) (q p K g r0 rt tb P n : Nat) (A A' : Mm) (b' : Nat → Nat) (S' : Nat → Prop) (fv : Nat → Int) : Prop where
  mem : Mem wr S' p K A' g b'
  row : wr.rowIs tb 3 P (fun i => .int .i64 (fv i))
  vr : wr.heap[r0]? = some cNo
  vt : wr.heap[rt]? = some (.cells #[.slice (some ⟨tb, 0, none⟩) P P, .int .i64 n] 56 (0, 0))
  vq : wr.heap[q]? = w.heap[q]?
  chg : Chg S w wr
  grow : ∀ x, S' x → S x ∨ (w.heap.size ≤ x ∧ x ≠ tb ∧ x ≠ r0 ∧ x ≠ rt)
  keep : ∀ x, S x → S' x
  lt : ∀ x, S x → x < w.heap.size
  nw : (w.heap.size ≤ tb ∧ tb < wr.heap.size) ∧ (w.heap.size ≤ r0 ∧ r0 < wr.heap.size) ∧ (w.heap.size ≤ rt ∧ rt < wr.heap.size) ∧ tb ≠ r0 ∧ tb ≠ rt
  nq : ¬ S q ∧ q < w.heap.size
section
variable {w wr w3 : World} {S S' : Nat → Prop} {q p K g r0 rt tb P n : Nat} {A A' : Mm} {b' : Nat → Nat} {fv : Nat → Int}
theorem LayR.no (h : LayR w wr S q p K g r0 rt tb P n A A' b' S' fv) : ¬ S' tb ∧ ¬ S' r0 ∧ ¬ S' rt ∧ ¬ S' q := by
  obtain ⟨⟨n1, _⟩, ⟨n2, _⟩, ⟨n3, _⟩, _, _⟩ := h.nw
  refine ⟨fun hc => ?_, fun hc => ?_, fun hc => ?_, fun hc => ?_⟩
  · exact (h.grow _ hc).elim (fun e => by have := h.lt _ e; omega) (fun e => e.2.1 rfl)
  · exact (h.grow _ hc).elim (fun e => by have := h.lt _ e; omega) (fun e => e.2.2.1 rfl)
  · exact (h.grow _ hc).elim (fun e => by have := h.lt _ e; omega) (fun e => e.2.2.2 rfl)
  · exact (h.grow _ hc).elim h.nq.1 (fun e => by have := h.nq.2; omega)
theorem LayR.take (h : LayR w wr S q p K g r0 rt tb P n A A' b' S' fv) (m : Nat) (hM : Mem w3 (fun x => S' x ∨ x = wr.heap.size) p K (upd A' m (some fun _ => 0)) g (upd b' m wr.heap.size)) (hC : Chg S' wr.drew w3) :
    LayR w w3 S q p K g r0 rt tb P n A (upd A' m (some fun _ => 0)) (upd b' m wr.heap.size) (fun x => S' x ∨ x = wr.heap.size) fv := by
  obtain ⟨n1, n2, n3, n4⟩ := h.no
  obtain ⟨⟨m1, l1⟩, ⟨m2, l2⟩, ⟨m3, l3⟩, d1, d2⟩ := h.nw
  have hsz := hC.size
  have hsz0 := h.chg.size
  have hsz2 : wr.drew.heap.size = wr.heap.size := rfl
  have hqr : q < wr.heap.size := Nat.lt_of_lt_of_le h.nq.2 h.chg.size
  refine ⟨hM, h.row.of_block (hC.block _ l1 n1), (hC.block _ l2 n2).trans h.vr, (hC.block _ l3 n3).trans h.vt, (hC.block _ hqr n4).trans h.vq, Chg.trans h.chg (show Chg S' wr w3 from ⟨hC.os, hC.tape, hC.output, hC.size, hC.block⟩) (fun x hx => (h.grow x hx).elim .inl (fun e => .inr e.1)), fun x hx => ?_, fun x hx => .inl (h.keep x hx), h.lt, ⟨⟨m1, by omega⟩, ⟨m2, by omega⟩, ⟨m3, by omega⟩, d1, d2⟩, h.nq⟩
  exact hx.elim (h.grow x) (fun e => .inr (by omega))
theorem LayR.spot (h : LayR w wr S q p K g r0 rt tb P n A A' b' S' fv) {i : Nat} (hi : i < P) : wr.cell? ⟨tb, i, none⟩ = some (.int .i64 (fv i)) ∧ wr.frozen? ⟨tb, i, none⟩ = false := ⟨h.row.cell hi, h.row.frozen i⟩
theorem LayR.store (h : LayR w wr S q p K g r0 rt tb P n A A' b' S' fv) (m i : Nat) : LayR w (wr.setCell ⟨tb, i, none⟩ (.int .i64 m)) S q p K g r0 rt tb P n A A' b' S' (upd fv i m) := by
  obtain ⟨n1, n2, n3, n4⟩ := h.no
  obtain ⟨⟨m1, l1⟩, ⟨m2, l2⟩, ⟨m3, l3⟩, d1, d2⟩ := h.nw
  have hc : Chg (fun x => x = tb) wr (wr.setCell ⟨tb, i, none⟩ (.int .i64 m)) := Chg.set _ _ _ _ _ rfl
  have hqr : q < wr.heap.size := Nat.lt_of_lt_of_le h.nq.2 h.chg.size
  refine ⟨h.mem.other hc (fun x hx e => n1 (by rw [← e]; exact hx)), (h.row.set i _).congr fun l _ => ?_, (hc.block _ l2 (fun e => d1 e.symm)).trans h.vr, (hc.block _ l3 (fun e => d2 e.symm)).trans h.vt, (hc.block _ hqr (fun e => by have := h.nq.2; omega)).trans h.vq, Chg.trans h.chg hc (fun x hx => .inr (by omega)), h.grow, h.keep, h.lt, ⟨⟨m1, by simpa [World.setCell] using l1⟩, ⟨m2, by simpa [World.setCell] using l2⟩, ⟨m3, by simpa [World.setCell] using l3⟩, d1, d2⟩, h.nq⟩
  by_cases e : l = i
  · subst e; simp [upd]
  · simp [upd, e]
end
theorem layR_start {w : World} {S : Nat → Prop} {p K g q : Nat} {A : Mm} {b : Nat → Nat} (vm : Option Nat) (hM : Mem w S p K A g b) (hq : w.heap[q]? = some (.cells #[.pointer (some ⟨p, 0, none⟩), .int .i64 K, .map vm] 51 (0, 0))) (hqS : ¬ S q) (n P : Nat) :
    LayR w (((w.alloc (.cells #[.slice none 0 0, .int .i64 0] 56)).alloc (.cells (madeCells #[.int .i64 0] P) 3)).alloc (.cells #[.slice (some ⟨w.heap.size + 1, 0, none⟩) P P, .int .i64 n] 56)) S q p K g w.heap.size (w.heap.size + 1 + 1) (w.heap.size + 1) P n A A b S (fun i => if i < 0 then 0 else 0) := by
  have hql : q < w.heap.size := by
    obtain ⟨hl, _⟩ := Array.getElem?_eq_some_iff.1 hq
    exact hl
  have hb : Below w.heap.size w (((w.alloc (.cells #[.slice none 0 0, .int .i64 0] 56)).alloc (.cells (madeCells #[.int .i64 0] P) 3)).alloc (.cells #[.slice (some ⟨w.heap.size + 1, 0, none⟩) P P, .int .i64 n] 56)) :=
    ((below_alloc _ _).trans (pnew _ _ (by simp))).trans (pnew _ _ (by simp; omega))
  have h1 : ((w.alloc (.cells #[.slice none 0 0, .int .i64 0] 56)).alloc (.cells (madeCells #[.int .i64 0] P) 3)).rowIs (w.heap.size + 1) 3 P (fun _ => .int .i64 0) := by
    have := World.rowIs_made (w.alloc (.cells #[.slice none 0 0, .int .i64 0] 56)) (.int .i64 0) P 3
    simpa using this
  refine ⟨hM.below hb, (h1.alloc _).congr fun i _ => rfl, hold_at _ _ _ _ (hold_at _ _ _ _ (hnew_at w _ _ rfl)), hnew_at _ _ _ (by simp), hb.block _ hql, Chg.of_below hb S, fun x hx => .inl hx, fun x hx => hx, fun x hx => hM.tab.lt x hx, ⟨⟨by omega, by simp⟩, ⟨by omega, by simp; omega⟩, ⟨by omega, by simp⟩, by omega, by omega⟩, hqS, hql⟩
theorem fv_next (fr : Nat → Nat) (j m : Nat) : (upd (fun i => if i < j then (fr i : Int) else 0) j (m : Int)) = fun i => if i < j + 1 then ((upd fr j m i : Nat) : Int) else 0 := by
  funext i
  unfold upd
  by_cases h : i = j
  · rw [if_pos h, if_pos h, if_pos (by omega)]
  · rw [if_neg h, if_neg h]
    show (if i < j then (fr i : Int) else 0) = _
    by_cases h2 : i < j
    · rw [if_pos h2, if_pos (by omega)]
    · rw [if_neg h2, if_neg (by omega)]
theorem infoInt : (Try.prog.info? 3).map (fun i => (i.zero, i.size, i.bytes)) = some (some (.int .i64 0), 1, 8) := by kernel_rfl
set_option maxHeartbeats 1000000 in
theorem lay_any {w : World} {S : Nat → Prop} {p K g q : Nat} {A : Mm} {b : Nat → Nat} (hM : Mem w S p K A g b) (vm : Option Nat) (hq : w.heap[q]? = some (.cells #[.pointer (some ⟨p, 0, none⟩), .int .i64 K, .map vm] 51 (0, 0))) (hqS : ¬ S q) (n : Nat) (hn : n ≤ 64) (hf : cnt A K + pg n ≤ K) :
    Calls Try.prog 20 #[.pointer (some ⟨q, 0, none⟩), .int .i64 n] w fun x w' => ∃ (tb : Nat) (fr : Nat → Nat) (A' : Mm) (b' : Nat → Nat) (S' : Nat → Prop), x = .returned (tabV ⟨n, fun _ => 0, tb, fr⟩) ∧
      Mem w' S' p K A' g b' ∧ w'.rowIs tb 3 (pg n) (fun i => .int .i64 (fr i)) ∧ Lay A A' fr (pg n) K ∧ Chg S w w' ∧ (∀ x, S' x → S x ∨ w.heap.size ≤ x) ∧ (∀ x, S x → S' x) ∧ ¬ S' tb ∧ w.heap.size ≤ tb := by
  have hql : q < w.heap.size := by
    obtain ⟨hl, _⟩ := Array.getElem?_eq_some_iff.1 hq
    exact hl
  have hP := pg_64 hn
  have hmk := run_make_row' (P := Try.prog) 54 3 (.int .i64 0) 8 Try.underlying54 infoInt rfl .i64 .i64 (pg n) (by omega) (by omega)
  go_enter Try.func20, Try.ntmps20
  go_wp2_with fail
  refine (pagesOf_any n (by omega) _).mono ?_
  rintro x w1 ⟨rfl, rfl⟩
  obtain ⟨P, hPn⟩ : ∃ P, pg n = P := ⟨_, rfl⟩
  rw [hPn] at hmk hP hf
  rw [hPn]
  have HP : Hid (pg n = P) := hPn
  clear hPn
  have hR0 := layR_start vm hM hq hqS n P
  go_wp2_with fail
  go_loopw [6, 15] (fun v i wr => ∃ (j : Nat) (fr : Nat → Nat) (A' : Mm) (b' : Nat → Nat) (S' : Nat → Prop), j ≤ P ∧ (∃ z : Value, v = z) ∧ i = .int .i64 j ∧ LayR w wr S q p K g w.heap.size (w.heap.size + 1 + 1) (w.heap.size + 1) P n A A' b' S' (fun i => if i < j then fr i else 0) ∧ Lay A A' fr j K) (fun _ i _ => P - (intOf i).toNat)
  case atStart => exact ⟨0, fun _ => 0, _, _, _, by omega, ⟨_, rfl⟩, rfl, hR0, Lay.zero _ _ _⟩
  case round =>
    obtain ⟨j, fr, A', b', S', hjP, ⟨z, rfl⟩, rfl, hR, hL⟩ := hrel
    clear hR0 hM
    have hRd : Hid (∀ W : World, (W.heap[w.heap.size + 1 + 1]? = some (.cells #[.slice (some ⟨w.heap.size + 1, 0, none⟩) P P, .int .i64 n] 56 (0, 0)) ∧ W.heap[q]? = w.heap[q]?) → W.cell? ⟨w.heap.size + 1 + 1, 0, none⟩ = some (.slice (some ⟨w.heap.size + 1, 0, none⟩) P P) ∧ W.cell? ⟨q, 0, none⟩ = some (.pointer (some ⟨p, 0, none⟩))) :=
      fun W hW => ⟨by simp [World.cell?, hW.1], by simp [World.cell?, hW.2, hq]⟩
    have hSat : Hid (∀ W : World, W.heap[w.heap.size + 1 + 1]? = some (.cells #[.slice (some ⟨w.heap.size + 1, 0, none⟩) P P, .int .i64 n] 56 (0, 0)) → W.heap[q]? = w.heap[q]? → (W.heap[w.heap.size + 1 + 1]? = some (.cells #[.slice (some ⟨w.heap.size + 1, 0, none⟩) P P, .int .i64 n] 56 (0, 0)) ∧ W.heap[q]? = w.heap[q]?)) := fun W h1 h2 => ⟨h1, h2⟩
    by_cases e : j < P
    · have hp : (j : Int) < (P : Int) := by omega
      obtain ⟨m, hm1, hm2, hm3⟩ := least_free (A := A') (K := K) (by rw [hL.cnt]; omega)
      have HL : Hid (Lay A (upd A' m (some fun _ => 0)) (upd fr j m) (j + 1) K) := hL.next hm1 hm3
      clear hL
      go_upto_region 5 with fail
      refine wp_region_noPanic ?_
      refine wp_region_held_drew (S := fun W => W.heap[w.heap.size + 1 + 1]? = some (.cells #[.slice (some ⟨w.heap.size + 1, 0, none⟩) P P, .int .i64 n] 56 (0, 0)) ∧ W.heap[q]? = w.heap[q]?) (by kernel_rfl) (hSat.out _ hR.vt hR.vq) fun hS => ?_
      refine take_to (i := 0) (v := ?_) 19 rfl rfl (by kernel_rfl) (by kernel_rfl) (by kernel_rfl) (fun _ _ _ h => h) (Or.inl ⟨by rfl, ?_⟩) hS ?_
      rotate_left
      · intro W hW
        obtain ⟨s0, s1⟩ := hRd.out W hW
        go_simp
        try with_reducible rfl
      simp only [List.setIfInBounds_toArray, List.set_cons_zero, List.set_cons_succ]
      refine take_to (i := 1) (v := ?_) 20 rfl rfl (by kernel_rfl) (by kernel_rfl) (by kernel_rfl) (fun _ _ _ h => h) (Or.inl ⟨by rfl, ?_⟩) hS ?_
      rotate_left
      · intro W hW
        obtain ⟨s0, s1⟩ := hRd.out W hW
        go_simp
        try with_reducible rfl
      simp only [List.setIfInBounds_toArray, List.set_cons_zero, List.set_cons_succ]
      refine take_to (i := 2) (v := ?_) 21 rfl rfl (by kernel_rfl) (by kernel_rfl) (by kernel_rfl) (fun _ _ _ h => h) (Or.inl ⟨by rfl, ?_⟩) hS ?_
      rotate_left
      · intro W hW
        obtain ⟨s0, s1⟩ := hRd.out W hW
        go_simp
        try with_reducible rfl
      simp only [List.setIfInBounds_toArray, List.set_cons_zero, List.set_cons_succ]
      refine take_to (i := 3) (v := ?_) 22 rfl rfl (by kernel_rfl) (by kernel_rfl) (by kernel_rfl) (fun _ _ _ h => h) (Or.inl ⟨by rfl, ?_⟩) hS ?_
      rotate_left
      · intro W hW
        obtain ⟨s0, s1⟩ := hRd.out W hW
        go_simp
        try with_reducible rfl
      simp only [List.setIfInBounds_toArray, List.set_cons_zero, List.set_cons_succ]
      refine take_to (i := 4) (v := ?_) 23 rfl rfl (by kernel_rfl) (by kernel_rfl) (by kernel_rfl) (fun _ _ _ h => h) (Or.inl ⟨by rfl, ?_⟩) hS ?_
      rotate_left
      · intro W hW
        obtain ⟨s0, s1⟩ := hRd.out W hW
        go_simp
        try with_reducible rfl
      simp only [List.setIfInBounds_toArray, List.set_cons_zero, List.set_cons_succ]
      refine take_to (i := 5) (v := ?_) 24 rfl rfl (by kernel_rfl) (by kernel_rfl) (by kernel_rfl) (fun _ _ _ h => h) (Or.inl ⟨by rfl, ?_⟩) hS ?_
      rotate_left
      · intro W hW
        obtain ⟨s0, s1⟩ := hRd.out W hW
        go_simp
        try with_reducible rfl
      simp only [List.setIfInBounds_toArray, List.set_cons_zero, List.set_cons_succ]
      refine take_to (i := 6) (v := ?_) 25 rfl rfl (by kernel_rfl) (by kernel_rfl) (by kernel_rfl) (fun _ _ _ h => h) (Or.inl ⟨by rfl, ?_⟩) hS ?_
      rotate_left
      · intro W hW
        obtain ⟨s0, s1⟩ := hRd.out W hW
        go_simp
        try with_reducible rfl
      simp only [List.setIfInBounds_toArray, List.set_cons_zero, List.set_cons_succ]
      refine wpAnyH_ready (rs := [7]) (by kernel_rfl) (by simp) ?_
      refine AllReadyH.cons rfl (fun K hK => ?_) AllReadyH.nil
      go_simp
      refine (take_free (hR.mem.kept (w' := wr.drew) (fun _ _ => rfl) (Nat.le_refl _)) m hm1 hm2 hm3).mono ?_
      rintro e w3 ⟨rfl, hM3, hC3⟩
      have hR3 := hR.take m hM3 hC3
      have hS3 := hSat.out w3 hR3.vt hR3.vq
      refine hK.out _ _ hS3 fun hS => ?_
      clear hK K
      refine take_to (i := 8) (v := ?_) 18 rfl rfl (by kernel_rfl) (by kernel_rfl) (by kernel_rfl) (fun _ _ _ h => h) (Or.inl ⟨by rfl, ?_⟩) hS ?_
      rotate_left
      · intro W hW
        obtain ⟨s0, s1⟩ := hRd.out W hW
        go_simp
        try with_reducible rfl
      simp only [List.setIfInBounds_toArray, List.set_cons_zero, List.set_cons_succ]
      refine take_to (i := 9) (v := ?_) 27 rfl rfl (by kernel_rfl) (by kernel_rfl) (by kernel_rfl) (fun _ _ _ h => h) (Or.inl ⟨by rfl, ?_⟩) hS ?_
      rotate_left
      · intro W hW
        obtain ⟨s0, s1⟩ := hRd.out W hW
        go_simp
        try with_reducible rfl
      simp only [List.setIfInBounds_toArray, List.set_cons_zero, List.set_cons_succ]
      refine take_to (i := 10) (v := ?_) 28 rfl rfl (by kernel_rfl) (by kernel_rfl) (by kernel_rfl) (fun _ _ _ h => h) (Or.inl ⟨by rfl, ?_⟩) hS ?_
      rotate_left
      · intro W hW
        obtain ⟨s0, s1⟩ := hRd.out W hW
        go_simp
        try with_reducible rfl
      simp only [List.setIfInBounds_toArray, List.set_cons_zero, List.set_cons_succ]
      refine take_to (i := 11) (v := ?_) 29 rfl rfl (by kernel_rfl) (by kernel_rfl) (by kernel_rfl) (fun _ _ _ h => h) (Or.inl ⟨by rfl, ?_⟩) hS ?_
      rotate_left
      · intro W hW
        obtain ⟨s0, s1⟩ := hRd.out W hW
        go_simp
        try with_reducible rfl
      simp only [List.setIfInBounds_toArray, List.set_cons_zero, List.set_cons_succ]
      obtain ⟨z0, z1⟩ := hR3.spot e
      have hR4 := hR3.store m j
      refine wpAnyH_ready (rs := [12]) (by kernel_rfl) (by simp) ?_
      refine AllReadyH.cons rfl (fun K hK => ?_) AllReadyH.nil
      go_simp
      refine hK.out _ _ (hSat.out _ hR4.vt hR4.vq) fun _ => ?_
      clear hK K
      refine wpAnyH_done (by kernel_rfl) ?_ _
      refine NoPanic.normal ?_
      obtain ⟨w5, hw5⟩ : ∃ w5, w5 = w3.setCell ⟨w.heap.size + 1, j, none⟩ (.int .i64 m) := ⟨_, rfl⟩
      rw [← hw5] at hR4 ⊢
      rw [fv_next] at hR4
      clear hw5 hR3 hR hM3 hC3 hS3 z0 z1 hRd hSat hq hmk
      go_wp2_with fail
      go_roundw
      case rel => exact ⟨j + 1, _, _, _, _, by omega, ⟨_, rfl⟩, by go_num, hR4, HL.out⟩
      case measure => simp [intOf]; omega
    · obtain rfl : P = j := by omega
      obtain ⟨c0, c1, _, _⟩ := var2 hR.vt
      have hvr : wr.heap[w.heap.size]? = some (.cells #[.slice none 0 0, .int .i64 0] 56 (0, 0)) := hR.vr
      obtain ⟨_, _, z0, z1⟩ := var2 hvr
      clear hq hmk
      go_wp2_with fail
      refine bodyPost_ret (ret_tab1 rfl _ _ w.heap.size _ _ rfl (put2_heap hvr _ _)) rfl ?_
      have hc : Chg (fun x => x = w.heap.size) wr (put2 wr w.heap.size (.slice (some ⟨w.heap.size + 1, 0, none⟩) P P) (.int .i64 n)) := Chg.trans (Chg.set (fun x => x = w.heap.size) _ _ _ _ rfl) (Chg.set (fun x => x = w.heap.size) _ _ _ _ rfl) (fun x hx => .inl hx)
      obtain ⟨n1, n2, n3, n4⟩ := hR.no
      refine ⟨w.heap.size + 1, fr, A', b', S', ?_, hR.mem.other hc (fun x hx e => n2 (by rw [← e]; exact hx)), ?_, ?_, Chg.trans hR.chg hc (fun x hx => .inr (by omega)), fun x hx => (hR.grow x hx).imp id (fun h => h.1), hR.keep, n1, by omega⟩
      · show Ending.returned _ = Ending.returned (tabV _)
        unfold tabV
        rw [HP.out]
      · rw [HP.out]
        refine (hR.row.of_block (hc.block _ hR.nw.1.2 (by omega))).congr fun i hi => ?_
        rw [if_pos hi]
      · rw [HP.out]; exact hL
end Go.Proofs.Ytdmdamidknbjoaa
