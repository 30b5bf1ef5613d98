/- 'begun' answers true, whatever the world. -/
import Derived.Test.YtdmdamidknbjoaaPgPo
namespace Go.Proofs.Ytdmdamidknbjoaa
open Go.RowKit
set_option maxRecDepth 100000

theorem Spc.lt {w : World} {S : Nat → Prop} {q K c free : Nat} {T : Txt} (h : Spc w S q K c free T) : ∀ x, S x → x < w.heap.size := by
  obtain ⟨S0, p, A, g, b, m, E, hR, _⟩ := h
  exact hR.lt
theorem u5 : U 5 := ⟨by decide, by decide⟩
theorem pg20 : pg 20 = 2 := rfl
set_option maxHeartbeats 400000 in
theorem begun13_true (w : World) : Calls Try.prog 7 #[] w fun e w' => e = .returned (.bool true) ∧ Below w.heap.size w w' := by
  go_enter Try.func7, Try.ntmps7
  go_wp2_with fail
  refine (po_new (Below.refl _ _) 4 4 rfl).mono ?_
  rintro e w1 ⟨q, rfl, h1⟩
  go_wp2_with fail
  refine (po_map h1 5 u5 rfl 20 (by omega) (by rw [pg20]; omega) (by omega)).mono ?_
  rintro e w2 ⟨rfl, S, h2, hb2, hS2⟩
  clear h1
  go_wp2_with fail
  have h3 := h2.below (below_alloc w2 (.cells #[.int .u8 1, .int .u8 2] 5))
  have hr3 : Row (w2.alloc (.cells #[.int .u8 1, .int .u8 2] 5)) (some ⟨w2.heap.size, 0, none⟩) 2 2 [1, 2] := row_lit w2 5 [1, 2] 2 rfl (by omega) (byt_of _ rfl)
  refine (write_ok h3 5 u5 20 _ (setI_same _ _ _) _ 2 2 [1, 2] hr3 (fun x hx _ hc => by obtain rfl := Option.some.inj hx; have := h2.lt _ hc; simp at this) 15 (by omega)).mono ?_
  rintro e w3 ⟨rfl, h4, hc4⟩
  have hb4 : Below w.heap.size w w3 := (hb2.trans (pnew _ _ hb2.size)).trans (hc4.below hS2 (by have := hb2.size; simp; omega))
  clear h2 h3 hr3 hb2 hc4
  go_wp2_with fail
  refine (spc_read h4 5 u5 20 _ (setI_same _ _ _) 15 2 (by omega)).mono ?_
  rintro e w4 ⟨r, rfl, hr, _, hb5⟩
  have c1 : w4.cell? ⟨r, 1, none⟩ = some (.int .u8 2) := hr.cell (i := 1) (by omega)
  have h5 := h4.below hb5
  have hb6 := hb4.trans (hb5.mono hb4.size)
  clear h4 hb4 hb5
  go_wp2_with fail
  refine (spc_len h5 5 u5 20 _ (setI_same _ _ _)).mono ?_
  rintro e w5 ⟨rfl, hb7⟩
  have c1 := (hb7.cell (lt_of_cell c1)).trans c1
  have h6 := h5.below hb7
  have hb8 := hb6.trans (hb7.mono hb6.size)
  clear h5 hb6 hb7 hr
  go_wp2_with fail
  refine (spc_free h6).mono ?_
  rintro e w6 ⟨rfl, hb9⟩
  rw [pg20]
  go_wp2_with fail
  go_ret
  exact ⟨rfl, hb8.trans (hb9.mono hb8.size)⟩
end Go.Proofs.Ytdmdamidknbjoaa
