/- The document's own Back: a label of sets as a label of levels: a contract. -/
import Derived.Test.YtdoemkncgfgkhaaBkMath
namespace Go.Proofs.Ytdoemkncgfgkhaa
open Go.RowKit
set_option maxRecDepth 100000

theorem back_sv (w : World) (v0 v1 v2 : Value) : ∀ W, Below ((w.alloc (Obj.cells #[v0, v1, v2] 27)).alloc (Obj.cells #[.int .u8 0, .slice none 0 0] 24)).heap.size ((w.alloc (Obj.cells #[v0, v1, v2] 27)).alloc (Obj.cells #[.int .u8 0, .slice none 0 0] 24)) W →
    (W.cell? ⟨w.heap.size, 0, none⟩ = some v0 ∧ W.cell? ⟨w.heap.size, 1, none⟩ = some v1 ∧ W.cell? ⟨w.heap.size, 2, none⟩ = some v2) ∧ Below w.heap.size w W := fun W h =>
  ⟨⟨by rw [h.cell (by simp <;> omega)]; simp, by rw [h.cell (by simp <;> omega)]; simp, by rw [h.cell (by simp <;> omega)]; simp⟩, ext_trans (two_allocs _ _ _) h⟩
set_option maxHeartbeats 4000000 in
theorem back_raw (a1 a2 a3 : Option Addr) (n1 c1 n2 c2 n3 c3 : Nat) (xs ys zs : List Int) (w : World) (r1 : RowW w a1 n1 c1 xs) (r2 : RowW w a2 n2 c2 ys) (r3 : RowW w a3 n3 c3 zs) (b1 : n1 ≤ 1000) (b2 : n2 ≤ 1000) (b3 : n3 ≤ 1000) :
    Calls Try.prog 17 #[.agg #[.slice a1 n1 c1, .slice a2 n2 c2, .slice a3 n3 c3]] w fun e w' => ∃ so k co us, e = .returned (.agg #[.int .u8 2, .slice so k co]) ∧ OwnG PE 40 w' w.heap.size so k co (mkP 2 (bkP xs ys zs) us) ∧ Below w.heap.size w w' ∧ Srt us ∧ (∀ x, x ∈ us ↔ x ∈ (bkP xs ys zs).map Prod.fst) := by
  have hl1 : Hid (xs.length = n1) := r1.len
  have hl2 : Hid (ys.length = n2) := r2.len
  have hl3 : Hid (zs.length = n3) := r3.len
  have HC : Hid _ := back_sv w (.slice a1 n1 c1) (.slice a2 n2 c2) (.slice a3 n3 c3)
  go_enter Try.func17, Try.ntmps17
  go_wp2_with fail
  obtain ⟨W0, hW0⟩ : ∃ V, V = (w.alloc (Obj.cells #[.slice a1 n1 c1, .slice a2 n2 c2, .slice a3 n3 c3] 27)).alloc (Obj.cells #[.int .u8 0, .slice none 0 0] 24) := ⟨_, rfl⟩
  rw [← hW0] at HC ⊢
  have hR : W0.heap[w.heap.size + 1]? = some (.cells #[.int .u8 0, .slice none 0 0] 24 (0, 0)) := by rw [hW0]; exact heap_new_at _ _ _ (by simp)
  have hbW : Below w.heap.size w W0 := hW0 ▸ two_allocs _ _ _
  clear hW0
  go_loopw [3, 4] (fun o i wr => ∃ (j : Nat) (so : Option Addr) (no co : Nat), j ≤ n1 ∧ no = j ∧ o = .slice so no co ∧ i = .int .i64 j ∧ Below W0.heap.size W0 wr ∧ OwnG PE 40 wr W0.heap.size so no co (lvP 4 (xs.take j))) (fun _ i _ => n1 - (intOf i).toNat)
  case atStart => exact ⟨0, none, 0, 0, by omega, rfl, rfl, rfl, Below.refl _ _, OwnG.of_nil _ _ _ _⟩
  case round =>
    obtain ⟨j, so, no, co, hj, hno, rfl, rfl, hbr, hown⟩ := hrel
    have HN : Hid (no = j) := hno
    have hnb : no ≤ 3000 := by omega
    clear hno
    obtain ⟨⟨k0, k1, k2⟩, hbw⟩ := HC.out _ hbr
    have hsz := hbr.size
    by_cases hlt : j < n1
    · have hp : (j : Int) < (n1 : Int) := by omega
      obtain ⟨C, zb, zoff, rfl, hC, hCb, z0⟩ := (r1.below hbw).at' j hlt
      have HX : Hid (xs[j]? = some C) := hC
      clear hC
      go_wp2_with (at_builtin; refine wp_append_g (E := PE) _ rfl (.tmp 14) (.tmp 21) 22 rfl 40 Try.underlying22 (.agg #[.int .u16 0, .int .u8 0]) 4 info29 rfl (by omega) W0.heap.size no co so _ rfl (hown.below (below_alloc _ _)) (some ⟨wr.heap.size, 0, none⟩) 1 1 [(C, 4)] rfl (owng_lit PE _ 40 [(C, 4)] _ rfl 1 rfl (by omega) (Enc.Ok.one ⟨hCb, by omega⟩) _ wr.heap.size (by simp) (by omega)).row (by omega) (by simp; omega) W0 (hbr.alloc hsz _) ?_; intro so' co' w5 hown5 hb5 _)
      go_roundw
      case rel =>
        refine ⟨j + 1, so', no + 1, co', by omega, by have := HN.out; omega, rfl, by go_num, hb5, ?_⟩
        rw [take_snoc HX.out, lvP_snoc]
        simpa using hown5
      case measure => simp [intOf]; omega
    · obtain rfl : n1 = j := by omega
      rw [List.take_of_length_le (by rw [hl1.out]; exact Nat.le_refl _)] at hown
      clear k0 k1 k2 hlt hj hsz hbw
      have k012 := (HC.out _ hbr).1
      obtain ⟨k0, k1, k2⟩ := k012
      go_wp2_with fail
      clear k0 k1 k2
      go_loopw [3, 5] (fun o i wr => ∃ (j : Nat) (so : Option Addr) (no co : Nat), j ≤ n2 ∧ no = n1 + j ∧ o = .slice so no co ∧ i = .int .i64 j ∧ Below W0.heap.size W0 wr ∧ OwnG PE 40 wr W0.heap.size so no co (lvP 4 xs ++ lvP 1 (ys.take j))) (fun _ i _ => n2 - (intOf i).toNat)
      case atStart => exact ⟨0, so, no, co, by omega, by have := HN.out; omega, rfl, rfl, hbr, by simpa [lvP] using hown⟩
      case round =>
        obtain ⟨j, so, no, co, hj, hno, rfl, rfl, hbr, hown⟩ := hrel
        have HN : Hid (no = n1 + j) := hno
        have hnb : no ≤ 3000 := by omega
        clear hno
        obtain ⟨⟨k0, k1, k2⟩, hbw⟩ := HC.out _ hbr
        have hsz := hbr.size
        by_cases hlt : j < n2
        · have hp : (j : Int) < (n2 : Int) := by omega
          obtain ⟨C, zb, zoff, rfl, hC, hCb, z0⟩ := (r2.below hbw).at' j hlt
          have HX : Hid (ys[j]? = some C) := hC
          clear hC
          go_wp2_with (at_builtin; refine wp_append_g (E := PE) _ rfl (.tmp 30) (.tmp 37) 22 rfl 40 Try.underlying22 (.agg #[.int .u16 0, .int .u8 0]) 4 info29 rfl (by omega) W0.heap.size no co so _ rfl (hown.below (below_alloc _ _)) (some ⟨wr.heap.size, 0, none⟩) 1 1 [(C, 1)] rfl (owng_lit PE _ 40 [(C, 1)] _ rfl 1 rfl (by omega) (Enc.Ok.one ⟨hCb, by omega⟩) _ wr.heap.size (by simp) (by omega)).row (by omega) (by simp; omega) W0 (hbr.alloc hsz _) ?_; intro so' co' w5 hown5 hb5 _)
          go_roundw
          case rel =>
            refine ⟨j + 1, so', no + 1, co', by omega, by have := HN.out; omega, rfl, by go_num, hb5, ?_⟩
            rw [take_snoc HX.out, lvP_snoc]
            simpa using hown5
          case measure => simp [intOf]; omega
        · obtain rfl : n2 = j := by omega
          rw [List.take_of_length_le (by rw [hl2.out]; exact Nat.le_refl _)] at hown
          clear k0 k1 k2 hlt hj hsz hbw
          have k012 := (HC.out _ hbr).1
          obtain ⟨k0, k1, k2⟩ := k012
          go_wp2_with fail
          clear k0 k1 k2
          go_loopw [3, 6] (fun o i wr => ∃ (j : Nat) (so : Option Addr) (no co : Nat), j ≤ n3 ∧ no = n1 + n2 + j ∧ o = .slice so no co ∧ i = .int .i64 j ∧ Below W0.heap.size W0 wr ∧ OwnG PE 40 wr W0.heap.size so no co (lvP 4 xs ++ lvP 1 ys ++ lvP 0 (zs.take j))) (fun _ i _ => n3 - (intOf i).toNat)
          case atStart => exact ⟨0, so, no, co, by omega, by have := HN.out; omega, rfl, rfl, hbr, by simpa [lvP] using hown⟩
          case round =>
            obtain ⟨j, so, no, co, hj, hno, rfl, rfl, hbr, hown⟩ := hrel
            have HN : Hid (no = n1 + n2 + j) := hno
            have hnb : no ≤ 3000 := by omega
            clear hno
            obtain ⟨⟨k0, k1, k2⟩, hbw⟩ := HC.out _ hbr
            have hsz := hbr.size
            by_cases hlt : j < n3
            · have hp : (j : Int) < (n3 : Int) := by omega
              obtain ⟨C, zb, zoff, rfl, hC, hCb, z0⟩ := (r3.below hbw).at' j hlt
              have HX : Hid (zs[j]? = some C) := hC
              clear hC
              go_wp2_with (at_builtin; refine wp_append_g (E := PE) _ rfl (.tmp 46) (.tmp 53) 22 rfl 40 Try.underlying22 (.agg #[.int .u16 0, .int .u8 0]) 4 info29 rfl (by omega) W0.heap.size no co so _ rfl (hown.below (below_alloc _ _)) (some ⟨wr.heap.size, 0, none⟩) 1 1 [(C, 0)] rfl (owng_lit PE _ 40 [(C, 0)] _ rfl 1 rfl (by omega) (Enc.Ok.one ⟨hCb, by omega⟩) _ wr.heap.size (by simp) (by omega)).row (by omega) (by simp; omega) W0 (hbr.alloc hsz _) ?_; intro so' co' w5 hown5 hb5 _)
              go_roundw
              case rel =>
                refine ⟨j + 1, so', no + 1, co', by omega, by have := HN.out; omega, rfl, by go_num, hb5, ?_⟩
                rw [take_snoc HX.out, lvP_snoc]
                simpa using hown5
              case measure => simp [intOf]; omega
            · obtain rfl : n3 = j := by omega
              rw [List.take_of_length_le (by rw [hl3.out]; exact Nat.le_refl _)] at hown
              go_wp2_with fail
              refine (makeLabel_any 2 (by omega) so no co (lvP 4 xs ++ lvP 1 ys ++ lvP 0 zs) _ hown.row (by omega)).mono ?_
              rintro e w6 ⟨so6, k6, co6, us, rfl, hown6, hb6, hsrt6, hmem6⟩
              have hB6 := ext_trans hbr hb6
              have hR6 := (hB6.block _ (Array.getElem?_eq_some_iff.1 hR).1).trans hR
              obtain ⟨e1, e2, e3⟩ := ret_store (D := 2) hR6 (show w.heap.size ≤ w.heap.size + 1 by omega) (Array.getElem?_eq_some_iff.1 hR).1 (ext_trans hbW hB6) (hown6.mono hbr.size)
              have q0 : w6.cell? ⟨w.heap.size + 1, 0, none⟩ = some (.int .u8 0) := cell_of_heap hR6 0 _ rfl
              have q1 : w6.cell? ⟨w.heap.size + 1, 1, none⟩ = some (.slice none 0 0) := cell_of_heap hR6 1 _ rfl
              have f0 : w6.frozen? ⟨w.heap.size + 1, 0, none⟩ = false := frozen_of_row w6 _ 0 _ 24 hR6
              have f1 : w6.frozen? ⟨w.heap.size + 1, 1, none⟩ = false := frozen_of_row w6 _ 1 _ 24 hR6
              go_wp2_with fail
              refine bodyPost_ret (ret_lab rfl _ _ (w.heap.size + 1) 2 so6 k6 co6 rfl e1) rfl ?_
              exact ⟨so6, k6, co6, us, rfl, e2, e3, hsrt6, hmem6⟩

theorem back_is (x : Sv) (w : World) (hx : x.In w) (hm : Hid (MayP x.xs x.ys x.zs)) :
    Calls Try.prog 17 #[.agg #[.slice x.a1 x.n1 x.c1, .slice x.a2 x.n2 x.c2, .slice x.a3 x.n3 x.c3]] w fun e w' => ∃ so k co ps, e = .returned (.agg #[.int .u8 2, .slice so k co]) ∧ Lb w' 2 so k co ps ∧ Hid (Bk x.xs x.ys x.zs ps) ∧ Below w.heap.size w w' := by
  have hl := hm.out.2.2
  rw [hx.r1.len, hx.r2.len, hx.r3.len] at hl
  refine (back_raw x.a1 x.a2 x.a3 x.n1 x.c1 x.n2 x.c2 x.n3 x.c3 x.xs x.ys x.zs w hx.r1 hx.r2 hx.r3 (by omega) (by omega) (by omega)).mono ?_
  rintro e w' ⟨so, k, co, us, rfl, ho, hb, h1, h2⟩
  have hB := Bk.mk' h1 h2
  refine ⟨so, k, co, _, rfl, ⟨ho.row, hB.lvl', hB.can.1, ?_⟩, hB, hb⟩
  have h3 := bk_len hm.out.1.1 hm.out.1.2.1 hm.out.1.2.2 h1 h2
  rw [ho.1, hx.r1.len, hx.r2.len, hx.r3.len] at h3
  omega
end Go.Proofs.Ytdoemkncgfgkhaa
