/- The law's own helpers: whether so many bytes are there, and whether the space says what the lists say. -/
import Derived.Test.YtdmdamidknbjoaaPgList
import Derived.Test.YtdmdamidknbjoaaRegion
import Derived.Deep.CutRange
namespace Go.Proofs.Ytdmdamidknbjoaa
open Go.RowKit
set_option maxRecDepth 100000

section
variable {W w w' : World} {q K c free : Nat} {ls : List Nm} {ia da : Option Addr} {ic dc : Nat}
theorem if_u8 (f : Nat → Int) (v : Int) (j x : Nat) : (Value.int .u8 (if x = j then v else f x)) = (if x = j then Value.int .u8 v else Value.int .u8 (f x)) := by split <;> rfl
theorem within_none (z off n : Int) (hz : z < 0) (a : Option Addr) (l cap : Nat) (w : World) : Calls Try.prog 12 #[.int .i64 z, .slice a l cap, .int .i64 off, .int .i64 n] w fun x w' => x = .returned (.int .i64 7) ∧ w' = w := by
  go_enter Try.func12, Try.ntmps12
  go_wp2_with fail
  go_ret
  exact ⟨rfl, rfl⟩
theorem within_ok (h : Md W w q K c free ls ia da ic dc) {k : Nat} {e : Nm} (hk : ls[k]? = some e) (off n : Nat) (hn : off + n ≤ e.n) : Calls Try.prog 12 #[.int .i64 k, .slice da ls.length dc, .int .i64 off, .int .i64 n] w fun x w' => x = .returned (.int .i64 0) ∧ w' = w := by
  obtain ⟨ib, ob, db, od, rfl, rfl, _, c0⟩ := h.at hk
  have hkl : k < ls.length := (List.getElem?_eq_some_iff.1 hk).1
  have hll := h.len
  have h64 := (h.row (List.mem_of_getElem? hk)).2.1
  clear h
  have y0 : decide ((k : Int) < 0) = false := by simp
  have y1 : decide ((off : Int) < 0) = false := by simp
  have y2 : decide ((n : Int) < 0) = false := by simp
  have y3 : decide ((e.n : Int) < (off : Int)) = false := by simp; omega
  have y4 : decide ((e.n : Int) - (off : Int) < (n : Int)) = false := by simp; omega
  have y5 : (k : Int) < (ls.length : Int) := by omega
  go_enter Try.func12, Try.ntmps12
  go_wp2_with fail
  go_ret
  exact ⟨rfl, rfl⟩
theorem within_range (h : Md W w q K c free ls ia da ic dc) {k : Nat} {e : Nm} (hk : ls[k]? = some e) (off n : Int) (ho : -9223372036854775808 ≤ off ∧ off < 9223372036854775808) (hn : off < 0 ∨ n < 0 ∨ (e.n : Int) < off + n) : Calls Try.prog 12 #[.int .i64 k, .slice da ls.length dc, .int .i64 off, .int .i64 n] w fun x w' => x = .returned (.int .i64 11) ∧ w' = w := by
  obtain ⟨ib, ob, db, od, rfl, rfl, _, c0⟩ := h.at hk
  have hkl : k < ls.length := (List.getElem?_eq_some_iff.1 hk).1
  have hll := h.len
  have h64 := (h.row (List.mem_of_getElem? hk)).2.1
  clear h
  have y0 : decide ((k : Int) < 0) = false := by simp
  have y5 : (k : Int) < (ls.length : Int) := by omega
  by_cases g1 : off < 0
  · go_enter Try.func12, Try.ntmps12
    go_wp2_with fail
    go_ret
    exact ⟨rfl, rfl⟩
  · have y1 : decide (off < 0) = false := by simpa using g1
    by_cases g2 : n < 0
    · clear g1
      go_enter Try.func12, Try.ntmps12
      go_wp2_with fail
      go_ret
      exact ⟨rfl, rfl⟩
    · have y2 : decide (n < 0) = false := by simpa using g2
      by_cases g3 : (e.n : Int) < off
      · clear g1 g2 hn
        go_enter Try.func12, Try.ntmps12
        go_wp2_with fail
        go_ret
        exact ⟨rfl, rfl⟩
      · have y3 : decide ((e.n : Int) < off) = false := by simpa using g3
        have y4 : (e.n : Int) - off < n := by omega
        have y6 : 0 ≤ off := by omega
        have y7 : off ≤ (e.n : Int) := by omega
        clear g1 g2 g3 hn
        go_enter Try.func12, Try.ntmps12
        go_wp2_with fail
        go_ret
        exact ⟨rfl, rfl⟩
set_option maxHeartbeats 4000000 in
set_option maxRecDepth 100000 in
theorem same_true (h : Md W w q K c free ls ia da ic dc) : Calls Try.prog 14 #[.pointer (some ⟨q, 0, none⟩), .slice ia ls.length ic, .slice da ls.length dc, .int .i64 free] w fun x w' => x = .returned (.bool true) ∧ Below w.heap.size w w' := by
  have hll := h.len
  obtain ⟨l, hl⟩ : ∃ l, l = ls.length := ⟨_, rfl⟩
  rw [← hl] at hll ⊢
  have HL : Hid (l = ls.length) := hl
  clear hl
  go_enter Try.func14, Try.ntmps14
  go_wp2_with fail
  go_loopw [9, 10, 11, 12, 13, 14] (fun i s10 s11 s12 s13 s14 wr => ∃ k : Nat, k ≤ l ∧ i = .int .i64 k ∧ (∃ z : Value, s10 = z) ∧ (∃ z : Value, s11 = z) ∧ (∃ z : Value, s12 = z) ∧ (∃ z : Value, s13 = z) ∧ (∃ z : Value, s14 = z) ∧ Below w.heap.size w wr ∧ Md W wr q K c free ls ia da ic dc) (fun i _ _ _ _ _ _ => l - (intOf i).toNat)
  case atStart => exact ⟨0, by omega, rfl, ⟨_, rfl⟩, ⟨_, rfl⟩, ⟨_, rfl⟩, ⟨_, rfl⟩, ⟨_, rfl⟩, Below.refl _ _, h⟩
  case round =>
    obtain ⟨k, hk, rfl, ⟨z10, rfl⟩, ⟨z11, rfl⟩, ⟨z12, rfl⟩, ⟨z13, rfl⟩, ⟨z14, rfl⟩, hbw, hp⟩ := hrel
    clear h
    by_cases e1 : k < l
    · have hkl : (k : Int) < (l : Int) := by omega
      obtain ⟨e, hke⟩ : ∃ e, ls[k]? = some e := ⟨_, List.getElem?_eq_getElem (show k < ls.length by rw [← HL.out]; exact e1)⟩
      have he := List.mem_of_getElem? hke
      obtain ⟨ib, ob, db, od, rfl, rfl, ci, cd⟩ := hp.at hke
      obtain ⟨w0, rfl⟩ : ∃ w0, w0 = wr := ⟨_, rfl⟩
      have hRd : Hid (∀ W' : World, Below w0.heap.size w0 W' → W'.cell? ⟨ib, ob + k, none⟩ = some (.int .u64 e.id) ∧ W'.cell? ⟨db, od + k, none⟩ = some (.slice (some ⟨e.db, 0, none⟩) e.n e.n)) := fun W' hb => ⟨(hb.cell (lt_of_cell ci)).trans ci, (hb.cell (lt_of_cell cd)).trans cd⟩
      go_upto_region 4 with fail
      refine wp_region_noPanic ?_
      refine wp_region_held_drew (S := fun W' => Below w0.heap.size w0 W') (by kernel_rfl) (ext_drew w0) fun hS => ?_
      refine take_to (i := 0) (v := ?_) 22 rfl rfl (by kernel_rfl) (by kernel_rfl) (by kernel_rfl) (fun _ _ _ h => h) (Or.inl ⟨by rfl, ?_⟩) hS ?_
      rotate_left
      · intro W hW
        obtain ⟨s0, s1⟩ := hRd.out W hW
        go_simp
        try with_reducible rfl
      simp only [List.setIfInBounds_toArray, List.set_cons_zero, List.set_cons_succ]
      refine take_to (i := 1) (v := ?_) 23 rfl rfl (by kernel_rfl) (by kernel_rfl) (by kernel_rfl) (fun _ _ _ h => h) (Or.inl ⟨by rfl, ?_⟩) hS ?_
      rotate_left
      · intro W hW
        obtain ⟨s0, s1⟩ := hRd.out W hW
        go_simp
        try with_reducible rfl
      simp only [List.setIfInBounds_toArray, List.set_cons_zero, List.set_cons_succ]
      refine take_to (i := 2) (v := ?_) 24 rfl rfl (by kernel_rfl) (by kernel_rfl) (by kernel_rfl) (fun _ _ _ h => h) (Or.inl ⟨by rfl, ?_⟩) hS ?_
      rotate_left
      · intro W hW
        obtain ⟨s0, s1⟩ := hRd.out W hW
        go_simp
        try with_reducible rfl
      simp only [List.setIfInBounds_toArray, List.set_cons_zero, List.set_cons_succ]
      refine take_to (i := 3) (v := ?_) 25 rfl rfl (by kernel_rfl) (by kernel_rfl) (by kernel_rfl) (fun _ _ _ h => h) (Or.inl ⟨by rfl, ?_⟩) hS ?_
      rotate_left
      · intro W hW
        obtain ⟨s0, s1⟩ := hRd.out W hW
        go_simp
        try with_reducible rfl
      simp only [List.setIfInBounds_toArray, List.set_cons_zero, List.set_cons_succ]
      refine take_to (i := 4) (v := ?_) 26 rfl rfl (by kernel_rfl) (by kernel_rfl) (by kernel_rfl) (fun _ _ _ h => h) (Or.inl ⟨by rfl, ?_⟩) hS ?_
      rotate_left
      · intro W hW
        obtain ⟨s0, s1⟩ := hRd.out W hW
        go_simp
        try with_reducible rfl
      simp only [List.setIfInBounds_toArray, List.set_cons_zero, List.set_cons_succ]
      refine take_to (i := 5) (v := ?_) 27 rfl rfl (by kernel_rfl) (by kernel_rfl) (by kernel_rfl) (fun _ _ _ h => h) (Or.inl ⟨by rfl, ?_⟩) hS ?_
      rotate_left
      · intro W hW
        obtain ⟨s0, s1⟩ := hRd.out W hW
        go_simp
        try with_reducible rfl
      simp only [List.setIfInBounds_toArray, List.set_cons_zero, List.set_cons_succ]
      refine take_to (i := 6) (v := ?_) 28 rfl rfl (by kernel_rfl) (by kernel_rfl) (by kernel_rfl) (fun _ _ _ h => h) (Or.inl ⟨by rfl, ?_⟩) hS ?_
      rotate_left
      · intro W hW
        obtain ⟨s0, s1⟩ := hRd.out W hW
        go_simp
        try with_reducible rfl
      simp only [List.setIfInBounds_toArray, List.set_cons_zero, List.set_cons_succ]
      refine take_to (i := 7) (v := ?_) 29 rfl rfl (by kernel_rfl) (by kernel_rfl) (by kernel_rfl) (fun _ _ _ h => h) (Or.inl ⟨by rfl, ?_⟩) hS ?_
      rotate_left
      · intro W hW
        obtain ⟨s0, s1⟩ := hRd.out W hW
        go_simp
        try with_reducible rfl
      simp only [List.setIfInBounds_toArray, List.set_cons_zero, List.set_cons_succ]
      refine take_to (i := 8) (v := ?_) 30 rfl rfl (by kernel_rfl) (by kernel_rfl) (by kernel_rfl) (fun _ _ _ h => h) (Or.inl ⟨by rfl, ?_⟩) hS ?_
      rotate_left
      · intro W hW
        obtain ⟨s0, s1⟩ := hRd.out W hW
        go_simp
        try with_reducible rfl
      simp only [List.setIfInBounds_toArray, List.set_cons_zero, List.set_cons_succ]
      refine take_to (i := 9) (v := ?_) 31 rfl rfl (by kernel_rfl) (by kernel_rfl) (by kernel_rfl) (fun _ _ _ h => h) (Or.inl ⟨by rfl, ?_⟩) hS ?_
      rotate_left
      · intro W hW
        obtain ⟨s0, s1⟩ := hRd.out W hW
        go_simp
        try with_reducible rfl
      simp only [List.setIfInBounds_toArray, List.set_cons_zero, List.set_cons_succ]
      refine wpAnyH_ready (rs := [10]) (by kernel_rfl) (by simp) ?_
      refine AllReadyH.cons rfl (fun K hK => ?_) AllReadyH.nil
      go_simp
      refine (md_read (hp.below (ext_drew w0)) he 0 e.n (by omega)).mono ?_
      rintro x w3 ⟨r, rfl, hrow, hrl, hb3⟩
      have hb3' : Below w0.heap.size w0 w3 := ⟨hb3.os, hb3.tape, hb3.output, hb3.size, hb3.block⟩
      refine hK.out _ _ hb3' fun hS => ?_
      clear hK K
      refine take_to (i := 11) (v := ?_) 21 rfl rfl (by kernel_rfl) (by kernel_rfl) (by kernel_rfl) (fun _ _ _ h => h) (Or.inl ⟨by rfl, ?_⟩) hS ?_
      rotate_left
      · intro W hW
        obtain ⟨s0, s1⟩ := hRd.out W hW
        go_simp
        try with_reducible rfl
      simp only [List.setIfInBounds_toArray, List.set_cons_zero, List.set_cons_succ]
      refine take_to (i := 12) (v := ?_) 33 rfl rfl (by kernel_rfl) (by kernel_rfl) (by kernel_rfl) (fun _ _ _ h => h) (Or.inl ⟨by rfl, ?_⟩) hS ?_
      rotate_left
      · intro W hW
        obtain ⟨s0, s1⟩ := hRd.out W hW
        go_simp
        try with_reducible rfl
      simp only [List.setIfInBounds_toArray, List.set_cons_zero, List.set_cons_succ]
      refine take_to (i := 13) (v := ?_) 34 rfl rfl (by kernel_rfl) (by kernel_rfl) (by kernel_rfl) (fun _ _ _ h => h) (Or.inl ⟨by rfl, ?_⟩) hS ?_
      rotate_left
      · intro W hW
        obtain ⟨s0, s1⟩ := hRd.out W hW
        go_simp
        try with_reducible rfl
      simp only [List.setIfInBounds_toArray, List.set_cons_zero, List.set_cons_succ]
      refine take_to (i := 14) (v := ?_) 10 rfl rfl (by kernel_rfl) (by kernel_rfl) (by kernel_rfl) (fun _ _ _ h => h) (Or.inl ⟨by rfl, ?_⟩) hS ?_
      rotate_left
      · intro W hW
        obtain ⟨s0, s1⟩ := hRd.out W hW
        go_simp
        try with_reducible rfl
      simp only [List.setIfInBounds_toArray, List.set_cons_zero, List.set_cons_succ]
      refine take_to (i := 15) (v := ?_) 11 rfl rfl (by kernel_rfl) (by kernel_rfl) (by kernel_rfl) (fun _ _ _ h => h) (Or.inl ⟨by rfl, ?_⟩) hS ?_
      rotate_left
      · intro W hW
        obtain ⟨s0, s1⟩ := hRd.out W hW
        go_simp
        try with_reducible rfl
      simp only [List.setIfInBounds_toArray, List.set_cons_zero, List.set_cons_succ]
      refine wpAnyH_done (by kernel_rfl) ?_ _
      refine NoPanic.normal ?_
      have hrow : w3.rowIs r 5 e.n (fun j => .int .u8 (e.d j)) := hrow.congr fun j _ => by rw [Nat.zero_add]
      have hp3 := hp.below hb3'
      obtain ⟨ci3, cd3⟩ := hRd.out w3 hb3'
      go_wp2_with fail
      refine (md_len hp3 he).mono ?_
      rintro x w4 ⟨rfl, hb4⟩
      have hb34 := ext_trans hb3' hb4
      have hp4 := hp3.below hb4
      obtain ⟨hrw, hr64, hrb⟩ := hp4.row he
      have hrow4 := hrow.of_block (hb4.block _ (row_lt hrow))
      have hq1 := row_of_bytes hrow4 (by omega) hrb
      have hq2 := row_of_bytes hrw (by omega) hrb
      generalize (List.range e.n).map e.d = LB at hq1 hq2
      have hRd4 : Hid (∀ W' : World, Below w4.heap.size w4 W' → W'.cell? ⟨db, od + k, none⟩ = some (.slice (some ⟨e.db, 0, none⟩) e.n e.n) ∧ (convert 29 9 (.slice (some ⟨r, 0, none⟩) e.n e.n)).run Try.prog W' = .ok (.string (strOfNums LB)) W' ∧ (convert 29 9 (.slice (some ⟨e.db, 0, none⟩) e.n e.n)).run Try.prog W' = .ok (.string (strOfNums LB)) W') :=
        fun W' hb => ⟨(hRd.out W' (ext_trans hb34 hb)).2, strB.out _ _ _ _ _ (hq1.below hb), strB.out _ _ _ _ _ (hq2.below hb)⟩
      clear hrow hq1 hq2 hrw hp3 ci3 cd3 hRd
      go_upto_region 6 with fail
      refine wp_region_noPanic ?_
      refine wp_region_held_drew (S := fun W' => Below w4.heap.size w4 W') (by kernel_rfl) (ext_drew w4) fun hS => ?_
      refine take_to (i := 0) (v := ?_) 44 rfl rfl (by kernel_rfl) (by kernel_rfl) (by kernel_rfl) (fun _ _ _ h => h) (Or.inl ⟨by rfl, ?_⟩) hS ?_
      rotate_left
      · intro W hW
        obtain ⟨s0, s1, s2⟩ := hRd4.out W hW
        go_simp
        try with_reducible rfl
      simp only [List.setIfInBounds_toArray, List.set_cons_zero, List.set_cons_succ]
      refine take_to (i := 1) (v := ?_) 45 rfl rfl (by kernel_rfl) (by kernel_rfl) (by kernel_rfl) (fun _ _ _ h => h) (Or.inl ⟨by rfl, ?_⟩) hS ?_
      rotate_left
      · intro W hW
        obtain ⟨s0, s1, s2⟩ := hRd4.out W hW
        go_simp
        try with_reducible rfl
      simp only [List.setIfInBounds_toArray, List.set_cons_zero, List.set_cons_succ]
      refine take_to (i := 2) (v := ?_) 46 rfl rfl (by kernel_rfl) (by kernel_rfl) (by kernel_rfl) (fun _ _ _ h => h) (Or.inl ⟨by rfl, ?_⟩) hS ?_
      rotate_left
      · intro W hW
        obtain ⟨s0, s1, s2⟩ := hRd4.out W hW
        go_simp
        try with_reducible rfl
      simp only [List.setIfInBounds_toArray, List.set_cons_zero, List.set_cons_succ]
      refine take_to (i := 3) (v := ?_) 47 rfl rfl (by kernel_rfl) (by kernel_rfl) (by kernel_rfl) (fun _ _ _ h => h) (Or.inl ⟨by rfl, ?_⟩) hS ?_
      rotate_left
      · intro W hW
        obtain ⟨s0, s1, s2⟩ := hRd4.out W hW
        go_simp
        try with_reducible rfl
      simp only [List.setIfInBounds_toArray, List.set_cons_zero, List.set_cons_succ]
      refine take_to (i := 4) (v := ?_) 48 rfl rfl (by kernel_rfl) (by kernel_rfl) (by kernel_rfl) (fun _ _ _ h => h) (Or.inl ⟨by rfl, ?_⟩) hS ?_
      rotate_left
      · intro W hW
        obtain ⟨s0, s1, s2⟩ := hRd4.out W hW
        go_simp
        try with_reducible rfl
      simp only [List.setIfInBounds_toArray, List.set_cons_zero, List.set_cons_succ]
      refine take_to (i := 5) (v := ?_) 49 rfl rfl (by kernel_rfl) (by kernel_rfl) (by kernel_rfl) (fun _ _ _ h => h) (Or.inl ⟨by rfl, ?_⟩) hS ?_
      rotate_left
      · intro W hW
        obtain ⟨s0, s1, s2⟩ := hRd4.out W hW
        go_simp
        try with_reducible rfl
      simp only [List.setIfInBounds_toArray, List.set_cons_zero, List.set_cons_succ]
      refine take_to (i := 6) (v := ?_) 50 rfl rfl (by kernel_rfl) (by kernel_rfl) (by kernel_rfl) (fun _ _ _ h => h) (Or.inl ⟨by rfl, ?_⟩) hS ?_
      rotate_left
      · intro W hW
        obtain ⟨s0, s1, s2⟩ := hRd4.out W hW
        go_simp
        try with_reducible rfl
      simp only [List.setIfInBounds_toArray, List.set_cons_zero, List.set_cons_succ]
      refine take_to (i := 7) (v := ?_) 51 rfl rfl (by kernel_rfl) (by kernel_rfl) (by kernel_rfl) (fun _ _ _ h => h) (Or.inl ⟨by rfl, ?_⟩) hS ?_
      rotate_left
      · intro W hW
        obtain ⟨s0, s1, s2⟩ := hRd4.out W hW
        go_simp
        try with_reducible rfl
      simp only [List.setIfInBounds_toArray, List.set_cons_zero, List.set_cons_succ]
      refine take_to (i := 8) (v := ?_) 52 rfl rfl (by kernel_rfl) (by kernel_rfl) (by kernel_rfl) (fun _ _ _ h => h) (Or.inl ⟨by rfl, ?_⟩) hS ?_
      rotate_left
      · intro W hW
        obtain ⟨s0, s1, s2⟩ := hRd4.out W hW
        go_simp
        try with_reducible rfl
      simp only [List.setIfInBounds_toArray, List.set_cons_zero, List.set_cons_succ]
      refine take_to (i := 9) (v := ?_) 53 rfl rfl (by kernel_rfl) (by kernel_rfl) (by kernel_rfl) (fun _ _ _ h => h) (Or.inl ⟨by rfl, ?_⟩) hS ?_
      rotate_left
      · intro W hW
        obtain ⟨s0, s1, s2⟩ := hRd4.out W hW
        go_simp
        try with_reducible rfl
      simp only [List.setIfInBounds_toArray, List.set_cons_zero, List.set_cons_succ]
      refine take_to (i := 10) (v := ?_) 54 rfl rfl (by kernel_rfl) (by kernel_rfl) (by kernel_rfl) (fun _ _ _ h => h) (Or.inl ⟨by rfl, ?_⟩) hS ?_
      rotate_left
      · intro W hW
        obtain ⟨s0, s1, s2⟩ := hRd4.out W hW
        go_simp
        try with_reducible rfl
      simp only [List.setIfInBounds_toArray, List.set_cons_zero, List.set_cons_succ]
      refine take_to (i := 11) (v := ?_) 55 rfl rfl (by kernel_rfl) (by kernel_rfl) (by kernel_rfl) (fun _ _ _ h => h) (Or.inl ⟨by rfl, ?_⟩) hS ?_
      rotate_left
      · intro W hW
        obtain ⟨s0, s1, s2⟩ := hRd4.out W hW
        go_simp
        try with_reducible rfl
      simp only [List.setIfInBounds_toArray, List.set_cons_zero, List.set_cons_succ]
      refine take_to (i := 12) (v := ?_) 56 rfl rfl (by kernel_rfl) (by kernel_rfl) (by kernel_rfl) (fun _ _ _ h => h) (Or.inl ⟨by rfl, ?_⟩) hS ?_
      rotate_left
      · intro W hW
        obtain ⟨s0, s1, s2⟩ := hRd4.out W hW
        go_simp
        try with_reducible rfl
      simp only [List.setIfInBounds_toArray, List.set_cons_zero, List.set_cons_succ]
      refine take_to (i := 13) (v := ?_) 57 rfl rfl (by kernel_rfl) (by kernel_rfl) (by kernel_rfl) (fun _ _ _ h => h) (Or.inl ⟨by rfl, ?_⟩) hS ?_
      rotate_left
      · intro W hW
        obtain ⟨s0, s1, s2⟩ := hRd4.out W hW
        go_simp
        try with_reducible rfl
      simp only [List.setIfInBounds_toArray, List.set_cons_zero, List.set_cons_succ]
      refine take_to (i := 14) (v := ?_) 58 rfl rfl (by kernel_rfl) (by kernel_rfl) (by kernel_rfl) (fun _ _ _ h => h) (Or.inl ⟨by rfl, ?_⟩) hS ?_
      rotate_left
      · intro W hW
        obtain ⟨s0, s1, s2⟩ := hRd4.out W hW
        go_simp
        try with_reducible rfl
      simp only [List.setIfInBounds_toArray, List.set_cons_zero, List.set_cons_succ]
      refine take_to (i := 15) (v := ?_) 59 rfl rfl (by kernel_rfl) (by kernel_rfl) (by kernel_rfl) (fun _ _ _ h => h) (Or.inl ⟨by rfl, ?_⟩) hS ?_
      rotate_left
      · intro W hW
        obtain ⟨s0, s1, s2⟩ := hRd4.out W hW
        go_simp
        try with_reducible rfl
      simp only [List.setIfInBounds_toArray, List.set_cons_zero, List.set_cons_succ]
      refine take_to (i := 16) (v := ?_) 60 rfl rfl (by kernel_rfl) (by kernel_rfl) (by kernel_rfl) (fun _ _ _ h => h) (Or.inl ⟨by rfl, ?_⟩) hS ?_
      rotate_left
      · intro W hW
        obtain ⟨s0, s1, s2⟩ := hRd4.out W hW
        go_simp
        try with_reducible rfl
      simp only [List.setIfInBounds_toArray, List.set_cons_zero, List.set_cons_succ]
      refine take_to (i := 17) (v := ?_) 61 rfl rfl (by kernel_rfl) (by kernel_rfl) (by kernel_rfl) (fun _ _ _ h => h) (Or.inl ⟨by rfl, ?_⟩) hS ?_
      rotate_left
      · intro W hW
        obtain ⟨s0, s1, s2⟩ := hRd4.out W hW
        go_simp
        try with_reducible rfl
      simp only [List.setIfInBounds_toArray, List.set_cons_zero, List.set_cons_succ]
      refine take_to (i := 18) (v := ?_) 62 rfl rfl (by kernel_rfl) (by kernel_rfl) (by kernel_rfl) (fun _ _ _ h => h) (Or.inl ⟨by rfl, ?_⟩) hS ?_
      rotate_left
      · intro W hW
        obtain ⟨s0, s1, s2⟩ := hRd4.out W hW
        go_simp
        try with_reducible rfl
      simp only [List.setIfInBounds_toArray, List.set_cons_zero, List.set_cons_succ]
      refine take_to (i := 19) (v := ?_) 63 rfl rfl (by kernel_rfl) (by kernel_rfl) (by kernel_rfl) (fun _ _ _ h => h) (Or.inl ⟨by rfl, ?_⟩) hS ?_
      rotate_left
      · intro W hW
        obtain ⟨s0, s1, s2⟩ := hRd4.out W hW
        go_simp
        try with_reducible rfl
      simp only [List.setIfInBounds_toArray, List.set_cons_zero, List.set_cons_succ]
      refine take_to (i := 20) (v := ?_) 64 rfl rfl (by kernel_rfl) (by kernel_rfl) (by kernel_rfl) (fun _ _ _ h => h) (Or.inl ⟨by rfl, ?_⟩) hS ?_
      rotate_left
      · intro W hW
        obtain ⟨s0, s1, s2⟩ := hRd4.out W hW
        go_simp
        try with_reducible rfl
      simp only [List.setIfInBounds_toArray, List.set_cons_zero, List.set_cons_succ]
      refine take_to (i := 21) (v := ?_) 65 rfl rfl (by kernel_rfl) (by kernel_rfl) (by kernel_rfl) (fun _ _ _ h => h) (Or.inl ⟨by rfl, ?_⟩) hS ?_
      rotate_left
      · intro W hW
        obtain ⟨s0, s1, s2⟩ := hRd4.out W hW
        go_simp
        try with_reducible rfl
      simp only [List.setIfInBounds_toArray, List.set_cons_zero, List.set_cons_succ]
      refine take_to (i := 22) (v := ?_) 66 rfl rfl (by kernel_rfl) (by kernel_rfl) (by kernel_rfl) (fun _ _ _ h => h) (Or.inl ⟨by rfl, ?_⟩) hS ?_
      rotate_left
      · intro W hW
        obtain ⟨s0, s1, s2⟩ := hRd4.out W hW
        go_simp
        try with_reducible rfl
      simp only [List.setIfInBounds_toArray, List.set_cons_zero, List.set_cons_succ]
      refine take_to (i := 23) (v := ?_) 67 rfl rfl (by kernel_rfl) (by kernel_rfl) (by kernel_rfl) (fun _ _ _ h => h) (Or.inl ⟨by rfl, ?_⟩) hS ?_
      rotate_left
      · intro W hW
        obtain ⟨s0, s1, s2⟩ := hRd4.out W hW
        go_simp
        try with_reducible rfl
      simp only [List.setIfInBounds_toArray, List.set_cons_zero, List.set_cons_succ]
      refine take_to (i := 24) (v := ?_) 68 rfl rfl (by kernel_rfl) (by kernel_rfl) (by kernel_rfl) (fun _ _ _ h => h) (Or.inl ⟨by rfl, ?_⟩) hS ?_
      rotate_left
      · intro W hW
        obtain ⟨s0, s1, s2⟩ := hRd4.out W hW
        go_simp
        try with_reducible rfl
      simp only [List.setIfInBounds_toArray, List.set_cons_zero, List.set_cons_succ]
      refine wpAnyH_done (by kernel_rfl) ?_ _
      refine NoPanic.normal ?_
      have hwr2 : Below w0.heap.size w0 w4.drew := ext_trans hb34 (ext_drew w4)
      have hrow5 : w4.drew.rowIs r 5 e.n (fun j => .int .u8 (e.d j)) := hrow4
      clear hp4 hRd4 hrow4 hb34 hb3 hb3' hb4
      generalize w4.drew = w5 at hwr2 hrow5 ⊢
      go_wp2_with fail
      go_loopw [14] (fun jv wq => ∃ (j : Nat) (f : Nat → Int), j ≤ e.n ∧ jv = .int .i64 j ∧ Below w0.heap.size w0 wq ∧ wq.rowIs r 5 e.n (fun j => .int .u8 (f j))) (fun jv _ => e.n - (intOf jv).toNat)
      case atStart => exact ⟨0, _, by omega, rfl, hwr2, hrow5⟩
      case round =>
        obtain ⟨j, f, hj, rfl, hbq, hrq⟩ := hrel
        clear hwr2 hrow5
        by_cases e2 : j < e.n
        · have hjn : (j : Int) < (e.n : Int) := by omega
          have c0 := hrq.cell e2
          have fz := hrq.frozen j
          have hset := fun v => hrq.set j (.int .u8 v)
          have hbset : ∀ v : Int, Below w0.heap.size w0 (wr.setCell ⟨r, j, none⟩ (.int .u8 v))   := fun v => hbq.setCell (show w0.heap.size ≤ (⟨r, j, none⟩ : Addr).block from hrl) _
          clear hrq hbq
          go_wp2_with fail
          go_roundw
          case rel => exact ⟨j + 1, _, by omega, by go_num, hbset _, (hset _).congr fun x _ => by exact (if_u8 _ _ _ _).symm⟩
          case measure => simp [intOf]; omega
        · obtain rfl : e.n = j := by omega
          go_wp2_with fail
          go_roundw
          case rel => exact ⟨k + 1, by omega, by go_num, ⟨_, rfl⟩, ⟨_, rfl⟩, ⟨_, rfl⟩, ⟨_, rfl⟩, ⟨_, rfl⟩, hbw.trans (hbq.mono hbw.size), hp.below hbq⟩
          case measure => simp [intOf]; omega
    · obtain rfl : l = k := by omega
      go_wp2_with fail
      refine (md_free hp).mono ?_
      rintro x w3 ⟨rfl, hb3⟩
      have hb4 := hbw.trans (hb3.mono hbw.size)
      clear hp
      go_wp2_with fail
      go_ret
      exact ⟨rfl, hb4⟩
end
end Go.Proofs.Ytdmdamidknbjoaa
