/- Read: what it answers. -/
import Derived.Test.YtdmdamidknbjoaaPgWrite
namespace Go.Proofs.Ytdmdamidknbjoaa
open Go.RowKit
set_option maxRecDepth 100000

theorem row_lt {w : World} {r : Nat} {t : TypeId} {n : Nat} {f : Nat → Value} (h : w.rowIs r t n f) : r < w.heap.size := by
  obtain ⟨cs, h1, _⟩ := h
  exact (Array.getElem?_eq_some_iff.1 h1).1
/-- Where Read stands behind k bytes. -/
def RAt (w : World) (q : Nat) (i : Int) (e : Ent) (off n : Nat) (a' : Act) (wr : World) : Prop :=
  ∃ (k V r : Nat), a' = { tmps := #[.pointer (some ⟨q, 0, none⟩), .int .u64 i, .int .i64 off, .int .i64 n, slt a' 4, slt a' 5, slt a' 6, slt a' 7, .slice none 0 0, .int .i64 0, .pointer (some ⟨V, 0, none⟩), .int .i64 0, .slice (some ⟨r, 0, none⟩) n n, .int .i64 k, slt a' 14, slt a' 15, slt a' 16, slt a' 17, slt a' 18, slt a' 19, slt a' 20, slt a' 21, slt a' 22, slt a' 23, slt a' 24, slt a' 25, slt a' 26, slt a' 27, slt a' 28, slt a' 29, slt a' 30, slt a' 31, slt a' 32, slt a' 33, slt a' 34, slt a' 35, slt a' 36, slt a' 37, slt a' 38, slt a' 39, slt a' 40, slt a' 41, slt a' 42, slt a' 43, slt a' 44, slt a' 45, slt a' 46, slt a' 47, slt a' 48, slt a' 49, slt a' 50], defers := [] } ∧ k ≤ n ∧
    Below w.heap.size w wr ∧ wr.heap[V]? = some (tabC e) ∧ wr.rowIs r 5 n (fun j => .int .u8 (if j < k then e.f (off + j) else 0)) ∧ w.heap.size ≤ r ∧ ¬ V = r
set_option maxHeartbeats 2000000 in
theorem read_any {w : World} {S S0 : Nat → Prop} {q p K c : Nat} {A : Mm} {g : Nat} {b : Nat → Nat} {m : Option Nat} {E : Int → Option Ent} (hR : Spr w S S0 q p K c A g b m E) (i : Int) (hi : U i) (e : Ent) (he : E i = some e) (off n : Nat) (hn : off + n ≤ e.n) :
    Calls Try.prog 13 #[.pointer (some ⟨q, 0, none⟩), .int .u64 i, .int .i64 off, .int .i64 n] w fun x w' => ∃ r, x = .returned (.tuple #[.slice (some ⟨r, 0, none⟩) n n, .int .i64 0]) ∧ w'.rowIs r 5 n (fun j => .int .u8 (e.f (off + j))) ∧ w.heap.size ≤ r ∧ Below w.heap.size w w' := by
  have h64 := (hR.row i e he).2.2.2
  have HN : Hid (off + n ≤ e.n) := hn
  have hn64 : n ≤ 64 := by omega
  have hlt := hR.lt
  have hmk := run_make_row' (P := Try.prog) 29 5 (.int .u8 0) 1 Try.underlying29 infoByte rfl .i64 .i64 n (by omega) (by omega)
  go_enter Try.func13, Try.ntmps13
  go_wp2_with fail
  refine wp_scope_once 0 (RAt w q i e off n) (fun a' _ => n - (intOf (a'.tmps.getD 13 undef)).toNat) rfl ?_ ?_
  · rintro a' wr ⟨k, V, r, hact, hk, hB, hV, hrow, hr, hVr⟩
    generalize slt a' = s at hact
    subst hact
    by_cases hz : k = n
    · obtain rfl : n = k := hz.symm
      go_wp2_with fail
      simp only [Exit.jump]
      go_ret2
      exact ⟨r, rfl, hrow.congr fun j hj => by rw [if_pos hj], hr, hB⟩
    · have hkl : k < n := by omega
      have hz1 : ((k : Int) == (n : Int)) = false := by simp; omega
      have hp : (k : Int) < (n : Int) := by omega
      obtain ⟨t, ht⟩ : ∃ t, t = off + k := ⟨_, rfl⟩
      have htn : t < e.n := by have := HN.out; omega
      have ht2 : (off : Int) + (k : Int) = (t : Int) := by omega
      have HT2 : Hid (t = off + k) := ht
      have hR := hR.below hB
      obtain ⟨r1, r2, r3, _⟩ := hR.row i _ he
      obtain ⟨F, hF, hFv⟩ := hR.byt i _ t he htn
      have r1d : wr.drew.rowIs e.tb 3 (pg e.n) (fun j => .int .i64 (e.fr j)) := r1
      have hwt : IntKind.i64.wrap (t : Int) = (t : Int) := by rw [IntKind.wrap_i64]; omega
      clear ht
      unfold tabC at hV
      have hrl := row_lt hrow
      have hVl := (Array.getElem?_eq_some_iff.1 hV).1
      have hql : q < wr.heap.size := hR.lt _ hR.sq.1
      have hqr : ¬ q = r := fun hc => by have := hlt _ hR.sq.1; omega
      have hRd : Hid (∀ W : World, (W.heap[q]? = wr.heap[q]? ∧ W.heap[V]? = wr.heap[V]?) → W.cell? ⟨q, 0, none⟩ = some (.pointer (some ⟨p, 0, none⟩)) ∧ W.cell? ⟨V, 0, none⟩ = some (.slice (some ⟨e.tb, 0, none⟩) (pg e.n) (pg e.n)) ∧ W.cell? ⟨V, 1, none⟩ = some (.int .i64 e.n)) := fun W hW => by
        have h1 := hW.2.trans hV
        exact ⟨by simp [World.cell?, hW.1, hR.box], (var2 h1).1, (var2 h1).2.1⟩
      go_upto_region 8 with fail
      refine wp_region_noPanic ?_
      refine wp_region_held_drew (S := fun W => W.heap[q]? = wr.heap[q]? ∧ W.heap[V]? = wr.heap[V]?) (by kernel_rfl) ⟨rfl, rfl⟩ fun hS => ?_
      refine take_to (i := 0) (v := ?_) 32 rfl rfl (by kernel_rfl) (by kernel_rfl) (by kernel_rfl) (fun _ _ _ h => h) (Or.inl ⟨by rfl, ?_⟩) hS ?_
      rotate_left
      · intro W hW
        obtain ⟨s0, s1, s2⟩ := hRd.out W hW
        go_simp
        try with_reducible rfl
      simp only [List.setIfInBounds_toArray, List.set_cons_zero, List.set_cons_succ]
      refine take_to (i := 1) (v := ?_) 33 rfl rfl (by kernel_rfl) (by kernel_rfl) (by kernel_rfl) (fun _ _ _ h => h) (Or.inl ⟨by rfl, ?_⟩) hS ?_
      rotate_left
      · intro W hW
        obtain ⟨s0, s1, s2⟩ := hRd.out W hW
        go_simp
        try with_reducible rfl
      simp only [List.setIfInBounds_toArray, List.set_cons_zero, List.set_cons_succ]
      refine take_to (i := 2) (v := ?_) 34 rfl rfl (by kernel_rfl) (by kernel_rfl) (by kernel_rfl) (fun _ _ _ h => h) (Or.inl ⟨by rfl, ?_⟩) hS ?_
      rotate_left
      · intro W hW
        obtain ⟨s0, s1, s2⟩ := hRd.out W hW
        go_simp
        try with_reducible rfl
      simp only [List.setIfInBounds_toArray, List.set_cons_zero, List.set_cons_succ]
      refine take_to (i := 3) (v := ?_) 35 rfl rfl (by kernel_rfl) (by kernel_rfl) (by kernel_rfl) (fun _ _ _ h => h) (Or.inl ⟨by rfl, ?_⟩) hS ?_
      rotate_left
      · intro W hW
        obtain ⟨s0, s1, s2⟩ := hRd.out W hW
        go_simp
        try with_reducible rfl
      simp only [List.setIfInBounds_toArray, List.set_cons_zero, List.set_cons_succ]
      refine take_to (i := 4) (v := ?_) 36 rfl rfl (by kernel_rfl) (by kernel_rfl) (by kernel_rfl) (fun _ _ _ h => h) (Or.inl ⟨by rfl, ?_⟩) hS ?_
      rotate_left
      · intro W hW
        obtain ⟨s0, s1, s2⟩ := hRd.out W hW
        go_simp
        try with_reducible rfl
      simp only [List.setIfInBounds_toArray, List.set_cons_zero, List.set_cons_succ]
      refine take_to (i := 5) (v := ?_) 37 rfl rfl (by kernel_rfl) (by kernel_rfl) (by kernel_rfl) (fun _ _ _ h => h) (Or.inl ⟨by rfl, ?_⟩) hS ?_
      rotate_left
      · intro W hW
        obtain ⟨s0, s1, s2⟩ := hRd.out W hW
        go_simp
        try with_reducible rfl
      simp only [List.setIfInBounds_toArray, List.set_cons_zero, List.set_cons_succ]
      refine take_to (i := 6) (v := ?_) 38 rfl rfl (by kernel_rfl) (by kernel_rfl) (by kernel_rfl) (fun _ _ _ h => h) (Or.inl ⟨by rfl, ?_⟩) hS ?_
      rotate_left
      · intro W hW
        obtain ⟨s0, s1, s2⟩ := hRd.out W hW
        go_simp
        try with_reducible rfl
      simp only [List.setIfInBounds_toArray, List.set_cons_zero, List.set_cons_succ]
      refine take_to (i := 7) (v := ?_) 39 rfl rfl (by kernel_rfl) (by kernel_rfl) (by kernel_rfl) (fun _ _ _ h => h) (Or.inl ⟨by rfl, ?_⟩) hS ?_
      rotate_left
      · intro W hW
        obtain ⟨s0, s1, s2⟩ := hRd.out W hW
        go_simp
        try with_reducible rfl
      simp only [List.setIfInBounds_toArray, List.set_cons_zero, List.set_cons_succ]
      refine take_to (i := 8) (v := ?_) 40 rfl rfl (by kernel_rfl) (by kernel_rfl) (by kernel_rfl) (fun _ _ _ h => h) (Or.inl ⟨by rfl, ?_⟩) hS ?_
      rotate_left
      · intro W hW
        obtain ⟨s0, s1, s2⟩ := hRd.out W hW
        go_simp
        try with_reducible rfl
      simp only [List.setIfInBounds_toArray, List.set_cons_zero, List.set_cons_succ]
      refine take_to (i := 9) (v := ?_) 41 rfl rfl (by kernel_rfl) (by kernel_rfl) (by kernel_rfl) (fun _ _ _ h => h) (Or.inl ⟨by rfl, ?_⟩) hS ?_
      rotate_left
      · intro W hW
        obtain ⟨s0, s1, s2⟩ := hRd.out W hW
        go_simp
        try with_reducible rfl
      simp only [List.setIfInBounds_toArray, List.set_cons_zero, List.set_cons_succ]
      refine wpAnyH_ready (rs := [10]) (by kernel_rfl) (by simp) ?_
      refine AllReadyH.cons rfl (fun K hK => ?_) AllReadyH.nil
      go_simp
      refine (tplace_any e t htn h64 _ r1d).mono ?_
      rintro x w2 ⟨rfl, hb2⟩
      have hb2' : Below wr.heap.size wr w2 := ⟨hb2.os, hb2.tape, hb2.output, hb2.size, hb2.block⟩
      refine hK.out _ _ ⟨hb2'.block q hql, hb2'.block V hVl⟩ fun hS => ?_
      clear hK K
      refine take_to (i := 11) (v := ?_) 43 rfl rfl (by kernel_rfl) (by kernel_rfl) (by kernel_rfl) (fun _ _ _ h => h) (Or.inl ⟨by rfl, ?_⟩) hS ?_
      rotate_left
      · intro W hW
        obtain ⟨s0, s1, s2⟩ := hRd.out W hW
        go_simp
        try with_reducible rfl
      simp only [List.setIfInBounds_toArray, List.set_cons_zero, List.set_cons_succ]
      refine take_to (i := 12) (v := ?_) 44 rfl rfl (by kernel_rfl) (by kernel_rfl) (by kernel_rfl) (fun _ _ _ h => h) (Or.inl ⟨by rfl, ?_⟩) hS ?_
      rotate_left
      · intro W hW
        obtain ⟨s0, s1, s2⟩ := hRd.out W hW
        go_simp
        try with_reducible rfl
      simp only [List.setIfInBounds_toArray, List.set_cons_zero, List.set_cons_succ]
      refine wpAnyH_ready (rs := [13]) (by kernel_rfl) (by simp) ?_
      refine AllReadyH.cons rfl (fun K hK => ?_) AllReadyH.nil
      go_simp
      refine (load_ok (hR.below hb2').mem _ _ F hF (Nat.mod_lt _ (by omega))).mono ?_
      rintro x w3 ⟨rfl, rfl⟩
      rw [hFv]
      refine hK.out _ _ hS fun hS => ?_
      clear hK K
      refine take_to (i := 14) (v := ?_) 31 rfl rfl (by kernel_rfl) (by kernel_rfl) (by kernel_rfl) (fun _ _ _ h => h) (Or.inl ⟨by rfl, ?_⟩) hS ?_
      rotate_left
      · intro W hW
        obtain ⟨s0, s1, s2⟩ := hRd.out W hW
        go_simp
        try with_reducible rfl
      simp only [List.setIfInBounds_toArray, List.set_cons_zero, List.set_cons_succ]
      refine take_to (i := 15) (v := ?_) 46 rfl rfl (by kernel_rfl) (by kernel_rfl) (by kernel_rfl) (fun _ _ _ h => h) (Or.inl ⟨by rfl, ?_⟩) hS ?_
      rotate_left
      · intro W hW
        obtain ⟨s0, s1, s2⟩ := hRd.out W hW
        go_simp
        try with_reducible rfl
      simp only [List.setIfInBounds_toArray, List.set_cons_zero, List.set_cons_succ]
      refine take_to (i := 16) (v := ?_) 47 rfl rfl (by kernel_rfl) (by kernel_rfl) (by kernel_rfl) (fun _ _ _ h => h) (Or.inl ⟨by rfl, ?_⟩) hS ?_
      rotate_left
      · intro W hW
        obtain ⟨s0, s1, s2⟩ := hRd.out W hW
        go_simp
        try with_reducible rfl
      simp only [List.setIfInBounds_toArray, List.set_cons_zero, List.set_cons_succ]
      refine take_to (i := 17) (v := ?_) 48 rfl rfl (by kernel_rfl) (by kernel_rfl) (by kernel_rfl) (fun _ _ _ h => h) (Or.inl ⟨by rfl, ?_⟩) hS ?_
      rotate_left
      · intro W hW
        obtain ⟨s0, s1, s2⟩ := hRd.out W hW
        go_simp
        try with_reducible rfl
      simp only [List.setIfInBounds_toArray, List.set_cons_zero, List.set_cons_succ]
      have hrow3 := hrow.of_block (hb2'.block r hrl)
      have z0 := hrow3.cell hkl
      have z1 := hrow3.frozen k
      refine wpAnyH_ready (rs := [18]) (by kernel_rfl) (by simp) ?_
      refine AllReadyH.cons rfl (fun K hK => ?_) AllReadyH.nil
      go_simp
      refine hK.out _ _ ⟨(Below.heap_setCell _ _ _ _ hqr).trans hS.1, (Below.heap_setCell _ _ _ _ hVr).trans hS.2⟩ fun _ => ?_
      clear hK K
      refine wpAnyH_done (by kernel_rfl) ?_ _
      refine NoPanic.normal ?_
      have hend := hrow3.set k (.int .u8 (e.f t))
      have hb4 : Below w.heap.size w (w3.setCell ⟨r, k, none⟩ (.int .u8 (e.f t))) := (hB.trans (hb2'.mono hB.size)).setCell hr _
      have hV4 : (w3.setCell ⟨r, k, none⟩ (.int .u8 (e.f t))).heap[V]? = some (tabC e) := ((Below.heap_setCell _ _ _ _ hVr).trans (hb2'.block V hVl)).trans hV
      clear hR hRd hrow hrow3 hb2 hb2' hV hS
      go_wp2_with fail
      go_step3
      refine ⟨rfl, ⟨k + 1, V, r, rfl, by omega, hb4, hV4, hend.congr fun j hj => ?_, hr, hVr⟩, ?_⟩
      · by_cases hjk : j = k
        · rw [if_pos hjk, if_pos (by omega), hjk, HT2.out]
        · rw [if_neg hjk]
          by_cases hj2 : j < k
          · rw [if_pos hj2, if_pos (by omega)]
          · rw [if_neg hj2, if_neg (by omega)]
      · simp [intOf]
        omega
  · intro hpass
    go_wp2_with fail
    refine (span_ok hR i hi e he off n hn).mono ?_
    rintro x w2 ⟨rfl, hb2⟩
    clear hR
    unfold tabV
    go_wp2_with fail
    go_step3
    rename_i hK
    refine hK _ _ ?_
    have hb3 := hb2.trans (pnew w2 (tabC e) hb2.size)
    have hb4 := hb3.trans (pnew (w2.alloc (tabC e)) (.cells (madeCells #[.int .u8 0] n) 5) hb3.size)
    refine hpass.out _ _ ⟨0, w2.heap.size, w2.heap.size + 1, rfl, Nat.zero_le _, hb4, hold_at _ _ _ _ (hnew_at w2 (tabC e) _ rfl), ?_, by have := hb2.size; omega, by omega⟩
    have := World.rowIs_made (w2.alloc (tabC e)) (.int .u8 0) n 5
    simpa [tabC] using this
theorem read_nil (i off n : Int) (w : World) :
    Calls Try.prog 13 #[.pointer none, .int .u64 i, .int .i64 off, .int .i64 n] w fun x w' => x = .returned (.tuple #[.slice none 0 0, .int .i64 1]) ∧ Below w.heap.size w w' := by
  go_enter Try.func13, Try.ntmps13
  go_wp2_with fail
  refine wp_scope_once 0 (fun _ _ => False) (fun _ _ => 0) rfl ?_ ?_
  · intro _ _ hc
    exact hc.elim
  · intro _
    go_wp2_with fail
    refine (span_nil i off n _).mono ?_
    rintro x w2 ⟨rfl, hb2⟩
    unfold noTab
    go_wp2_with fail
    simp only [Exit.jump]
    go_ret2
    exact ⟨rfl, hb2.trans (pnew _ _ hb2.size)⟩
theorem read_none {w : World} {S S0 : Nat → Prop} {q p K c : Nat} {A : Mm} {g : Nat} {b : Nat → Nat} {m : Option Nat} {E : Int → Option Ent} (h : Spr w S S0 q p K c A g b m E) (i : Int) (hi : U i) (he : E i = none) (off n : Int) :
    Calls Try.prog 13 #[.pointer (some ⟨q, 0, none⟩), .int .u64 i, .int .i64 off, .int .i64 n] w fun x w' => x = .returned (.tuple #[.slice none 0 0, .int .i64 7]) ∧ Below w.heap.size w w' := by
  go_enter Try.func13, Try.ntmps13
  go_wp2_with fail
  refine wp_scope_once 0 (fun _ _ => False) (fun _ _ => 0) rfl ?_ ?_
  · intro _ _ hc
    exact hc.elim
  · intro _
    go_wp2_with fail
    refine (span_none h i hi he off n).mono ?_
    rintro x w2 ⟨rfl, hb2⟩
    unfold noTab
    go_wp2_with fail
    simp only [Exit.jump]
    go_ret2
    exact ⟨rfl, hb2.trans (pnew _ _ hb2.size)⟩
theorem read_range {w : World} {S S0 : Nat → Prop} {q p K c : Nat} {A : Mm} {g : Nat} {b : Nat → Nat} {m : Option Nat} {E : Int → Option Ent} (h : Spr w S S0 q p K c A g b m E) (i : Int) (hi : U i) (e : Ent) (he : E i = some e) (off n : Int) (ho : -9223372036854775808 ≤ off ∧ off < 9223372036854775808) (hn : off < 0 ∨ n < 0 ∨ (e.n : Int) < off + n) :
    Calls Try.prog 13 #[.pointer (some ⟨q, 0, none⟩), .int .u64 i, .int .i64 off, .int .i64 n] w fun x w' => x = .returned (.tuple #[.slice none 0 0, .int .i64 11]) ∧ Below w.heap.size w w' := by
  go_enter Try.func13, Try.ntmps13
  go_wp2_with fail
  refine wp_scope_once 0 (fun _ _ => False) (fun _ _ => 0) rfl ?_ ?_
  · intro _ _ hc
    exact hc.elim
  · intro _
    go_wp2_with fail
    refine (span_range h i hi e he off n ho hn).mono ?_
    rintro x w2 ⟨rfl, hb2⟩
    unfold noTab
    go_wp2_with fail
    simp only [Exit.jump]
    go_ret2
    exact ⟨rfl, hb2.trans (pnew _ _ hb2.size)⟩
end Go.Proofs.Ytdmdamidknbjoaa
