/- Which records there are, and all their bytes, in any run: the walk. (Written by tools/drafts/arena/mkarall.py.) -/
import Derived.Test.YtafnonmpanpfkaaArSame
import Derived.Test.YtafnonmpanpfkaaArBegun
import Derived.Test.YtafnonmpanpfkaaArOpsArg
import Derived.Test.YtafnonmpanpfkaaTwin
import Derived.Deep.CutRange
namespace Go.Proofs.Ytafnonmpanpfkaa
open Go.RowKit
set_option maxRecDepth 100000
set_option linter.unusedVariables false

set_option maxHeartbeats 8000000 in
set_option maxRecDepth 100000 in
theorem arenaAll_true (v : Int) (hv : 0 ≤ v ∧ v < 256) (a : Option Addr) (n c : Nat) (K F O : Nat → Int) (B : Nat → Oa) (w : World) (ho : OpsIn w a n c K F O B) :
    Calls Try.prog 3 #[.int .u8 v, .slice a n c] w fun e w' => e = .returned (.bool true) ∧ Below w.heap.size w w' := by
  have hcap := ho.lid
  go_enter Try.func3, Try.ntmps3
  go_wp2_with fail
  refine (begun19_true w).mono ?_
  rintro e wb ⟨rfl, b0⟩
  by_cases h50 : 50 < n
  · have h1 : (50 : Int) < (n : Int) := by omega
    go_wp2_with fail
    go_ret
    exact ⟨rfl, b0⟩
  have h1 : decide ((50 : Int) < (n : Int)) = false := by simp; omega
  go_wp2_with fail
  refine (new_any v wb).mono ?_
  rintro e w1 ⟨rfl, hA, b1⟩
  have hb2 := below_alloc w1 (.cells #[.int .u8 v, .slice none 0 0, .slice none 0 0] 30)
  have hSt : St w (w1.alloc (.cells #[.int .u8 v, .slice none 0 0, .slice none 0 0] 30)) wb.heap.size w1.heap.size v (fun _ => none) [] 0 := by
    have s0 := b0.size
    have s1 := b1.size
    refine ⟨_, fun b => b = w1.heap.size, hA.below hb2, ⟨by simp, fun i xs => by simp⟩, ⟨none, 0, none, 0, heap_alloc_new _ _, OwnG.of_nil _ _ _ _, OwnG.of_nil _ _ _ _, rfl, (fun y hy => by cases hy), (fun y hy => by cases hy), fun b hb => by subst hb; simp⟩, fun b hb hc => hb.elim False.elim (fun hb => by omega), fun b hb => hb.elim False.elim (fun hb => by omega), fun b hb => by omega, ext_trans (ext_trans b0 b1) hb2⟩
  obtain ⟨p0, hp0⟩ : ∃ p, p = wb.heap.size := ⟨_, rfl⟩
  obtain ⟨pr, hpr⟩ : ∃ p, p = w1.heap.size := ⟨_, rfl⟩
  rw [← hp0, ← hpr] at hSt
  rw [← hp0]
  clear hA b0 b1 hb2 hp0
  go_wp2_with fail
  rw [← hpr]
  clear hpr
  go_loopw [5, 7] (fun s5 s7 wr => ∃ (k pa : Nat) (T : Tx) (ls : List (Int × List Int)) (N : Nat), k ≤ n ∧ s5 = .pointer (some ⟨pa, 0, none⟩) ∧ s7 = .int .i64 k ∧ St w wr pa pr v T ls N ∧ ls.length ≤ k ∧ N ≤ 2 * k) (fun _ s7 _ => n - (intOf s7).toNat)
  case atStart => exact ⟨0, p0, _, [], 0, by omega, rfl, rfl, hSt, by simp, by omega⟩
  case round =>
    clear hSt
    obtain ⟨k, pa, T, ls, N, hk, rfl, rfl, hSt, hlen, hN⟩ := hrel
    have hw := hSt.new
    by_cases hlt : k < n
    · have h2 : (k : Int) < (n : Int) := by omega
      obtain ⟨b, off, rfl, hcs⟩ := (ho.below hw).spot (by omega)
      obtain ⟨c0, c1, c2⟩ := hcs k hlt
      obtain ⟨kb, hi⟩ := ho.bd k hlt
      have hrow := ho.row k hlt
      obtain ⟨k0, hk0⟩ : ∃ x, x = K k := ⟨_, rfl⟩
      rw [← hk0] at c0
      obtain ⟨⟨i, oa, m, oc, xs⟩, hBk⟩ : ∃ x, x = B k := ⟨_, rfl⟩
      rw [← hBk] at c1 c2 hi hrow
      simp only at c1 c2 hi hrow
      clear hk0 hBk hcs kb
      have hocap := hrow.cap_le
      by_cases h100 : 100 < m
      · have h3 : (100 : Int) < (m : Int) := by omega
        go_wp2_with fail
        go_ret
        exact ⟨rfl, hw.trans ((below_alloc wr _).mono hw.size)⟩
      · have h3 : decide ((100 : Int) < (m : Int)) = false := by simp; omega
        obtain ⟨wo, hwo⟩ : ∃ wo, wo = wr.alloc (.cells #[.int .i64 k0, .int .u64 i, .slice oa m oc] 34) := ⟨_, rfl⟩
        have bo : Below wr.heap.size wr wo := by rw [hwo]; exact below_alloc _ _
        have hobo : wo.heap[wr.heap.size]? = some (.cells #[.int .i64 k0, .int .u64 i, .slice oa m oc] 34 (0, 0)) := by rw [hwo]; exact heap_alloc_new _ _
        have hso : wo.heap.size = wr.heap.size + 1 := by rw [hwo]; simp
        have htw := twin_any oa m oc xs wo ((hrow.below hw).below bo) (by omega)
        rw [hwo] at htw
        have HWO : Hid (wo = _) := hwo
        clear hwo
        go_wp2_with fail
        refine htw.mono ?_
        rintro e w3 ⟨g, rfl, hog, b3⟩
        rw [← HWO.out] at hog b3
        clear htw
        have bk := bo.trans (b3.mono bo.size)
        have hob : w3.heap[wr.heap.size]? = some (.cells #[.int .i64 k0, .int .u64 i, .slice oa m oc] 34 (0, 0)) := (b3.block _ (Array.getElem?_eq_some_iff.1 hobo).1).trans hobo
        obtain ⟨cg, hcg, hgB, _, _, hcgs, _⟩ := hog.block
        have hgl := (Array.getElem?_eq_some_iff.1 hcg).1
        have hol := (Array.getElem?_eq_some_iff.1 hob).1
        have h3 : R2 w w3 w3 (fun b => b = wr.heap.size ∨ b = g) pa pr v T N T ls := R2.start hSt bk (fun b hb => by rcases hb with rfl | rfl <;> omega)
        have hgne : ¬ wr.heap.size = g := by omega
        have hrg : Row w3 (some ⟨g, 0, none⟩) m (m + 3) xs := by
          have := hog.row.pre m (by omega)
          rw [List.take_append_of_le_length (by rw [hrow.len]; exact Nat.le_refl _), List.take_of_length_le (by rw [hrow.len]; exact Nat.le_refl _)] at this
          exact this
        have hrg3 : Hid (∀ W : World, W.heap[g]? = w3.heap[g]? → Row W (some ⟨g, 0, none⟩) (m + 3) (m + 3) (xs ++ [229, 229, 229])) := fun W hW => (hog.of hW).row
        have hcg3 : Hid (∀ W : World, W.heap[g]? = w3.heap[g]? → ∃ cg : Array Value, W.heap[g]? = some (.cells cg 5 (0, 0)) ∧ cg.size = m + 3) := fun W hW => ⟨cg, hW.trans hcg, hcgs⟩
        clear hog hcg hcgs hgB bo b3 hobo hso HWO c0 c1 c2 bk hSt hgl hol
        have d0 := ar_cell hob 0 _ rfl
        have d1 := ar_cell hob 1 _ rfl
        go_upto_region 13 with fail
        go_cut [10] from 42 to 46 (fun s10 wc => ∃ X : Int, s10 = .int .i64 X ∧ wc = w3)
        case first =>
          go_wp2_with fail
          go_meet
          case rel => exact ⟨_, rfl, rfl⟩
        case rest =>
          obtain ⟨X, rfl, rfl⟩ := hcut
          rename_i K1 hK1 K0 hK0
          apply hK0
          go_cut [5, 11] from 47 to 94 (fun s5 s11 we => ∃ (z : Value) (_ : s11 = z) (pa' : Nat) (T' : Tx) (ls' : List (Int × List Int)) (N' : Nat), s5 = .pointer (some ⟨pa', 0, none⟩) ∧ St w we pa' pr v T' ls' N' ∧ ls'.length ≤ k + 1 ∧ N' ≤ 2 * (k + 1) ∧ we.heap[wr.heap.size]? = some (.cells #[.int .i64 k0, .int .u64 i, .slice oa m oc] 34 (0, 0)))
          case first =>
            by_cases hx5 : X < 5
            · by_cases hx : xs.head? = some v
              · have hml := hrow.len
                have HX : Hid (Rec v xs) := ⟨hx, by omega⟩
                have HLT : Hid (∀ y, oa = some y → y.block < w.heap.size) := fun y hy => by
                  obtain ⟨r, hxr, _⟩ := HX.out.cons
                  obtain ⟨b', o', he, hcs⟩ := hrow.at (by rw [← hml, hxr]; simp)
                  have := lt_of_cell (hcs 0 (by rw [← hml, hxr]; simp))
                  rw [he] at hy
                  obtain rfl := Option.some.inj hy
                  exact this
                clear hx hml
                go_wp2_with fail
                refine wp_region_noPanic ?_
                refine wp_region_T (S := fun W => W.heap[wr.heap.size]? = some (.cells #[.int .i64 k0, .int .u64 i, .slice oa m oc] 34 (0, 0))) (by kernel_rfl) hob fun hS => ?_
                refine takeT_to (i := 0) (v := ?_) 50 rfl rfl (by kernel_rfl) (by kernel_rfl) (by kernel_rfl) (by kernel_rfl) (fun _ _ _ h => h) (Or.inl ⟨by rfl, ?_⟩) hS ?_
                rotate_left
                · intro W hW
                  obtain ⟨s1, s2⟩ := (show W.cell? ⟨wr.heap.size, 1, none⟩ = some (.int .u64 i) ∧ W.cell? ⟨wr.heap.size, 2, none⟩ = some (.slice oa m oc) from ⟨ar_cell hW 1 _ rfl, ar_cell hW 2 _ rfl⟩)
                  go_simp
                  try with_reducible rfl
                simp only [List.setIfInBounds_toArray, List.set_cons_zero, List.set_cons_succ]
                refine takeT_to (i := 1) (v := ?_) 51 rfl rfl (by kernel_rfl) (by kernel_rfl) (by kernel_rfl) (by kernel_rfl) (fun _ _ _ h => h) (Or.inl ⟨by rfl, ?_⟩) hS ?_
                rotate_left
                · intro W hW
                  obtain ⟨s1, s2⟩ := (show W.cell? ⟨wr.heap.size, 1, none⟩ = some (.int .u64 i) ∧ W.cell? ⟨wr.heap.size, 2, none⟩ = some (.slice oa m oc) from ⟨ar_cell hW 1 _ rfl, ar_cell hW 2 _ rfl⟩)
                  go_simp
                  try with_reducible rfl
                simp only [List.setIfInBounds_toArray, List.set_cons_zero, List.set_cons_succ]
                refine takeT_to (i := 2) (v := ?_) 52 rfl rfl (by kernel_rfl) (by kernel_rfl) (by kernel_rfl) (by kernel_rfl) (fun _ _ _ h => h) (Or.inl ⟨by rfl, ?_⟩) hS ?_
                rotate_left
                · intro W hW
                  obtain ⟨s1, s2⟩ := (show W.cell? ⟨wr.heap.size, 1, none⟩ = some (.int .u64 i) ∧ W.cell? ⟨wr.heap.size, 2, none⟩ = some (.slice oa m oc) from ⟨ar_cell hW 1 _ rfl, ar_cell hW 2 _ rfl⟩)
                  go_simp
                  try with_reducible rfl
                simp only [List.setIfInBounds_toArray, List.set_cons_zero, List.set_cons_succ]
                refine takeT_to (i := 3) (v := ?_) 53 rfl rfl (by kernel_rfl) (by kernel_rfl) (by kernel_rfl) (by kernel_rfl) (fun _ _ _ h => h) (Or.inl ⟨by rfl, ?_⟩) hS ?_
                rotate_left
                · intro W hW
                  obtain ⟨s1, s2⟩ := (show W.cell? ⟨wr.heap.size, 1, none⟩ = some (.int .u64 i) ∧ W.cell? ⟨wr.heap.size, 2, none⟩ = some (.slice oa m oc) from ⟨ar_cell hW 1 _ rfl, ar_cell hW 2 _ rfl⟩)
                  go_simp
                  try with_reducible rfl
                simp only [List.setIfInBounds_toArray, List.set_cons_zero, List.set_cons_succ]
                refine takeT_to (i := 5) (v := ?_) 55 rfl rfl (by kernel_rfl) (by kernel_rfl) (by kernel_rfl) (by kernel_rfl) (fun _ _ _ h => h) (Or.inl ⟨by rfl, ?_⟩) hS ?_
                rotate_left
                · intro W hW
                  obtain ⟨s1, s2⟩ := (show W.cell? ⟨wr.heap.size, 1, none⟩ = some (.int .u64 i) ∧ W.cell? ⟨wr.heap.size, 2, none⟩ = some (.slice oa m oc) from ⟨ar_cell hW 1 _ rfl, ar_cell hW 2 _ rfl⟩)
                  go_simp
                  try with_reducible rfl
                simp only [List.setIfInBounds_toArray, List.set_cons_zero, List.set_cons_succ]
                refine takeT_to (i := 6) (v := ?_) 56 rfl rfl (by kernel_rfl) (by kernel_rfl) (by kernel_rfl) (by kernel_rfl) (fun _ _ _ h => h) (Or.inl ⟨by rfl, ?_⟩) hS ?_
                rotate_left
                · intro W hW
                  obtain ⟨s1, s2⟩ := (show W.cell? ⟨wr.heap.size, 1, none⟩ = some (.int .u64 i) ∧ W.cell? ⟨wr.heap.size, 2, none⟩ = some (.slice oa m oc) from ⟨ar_cell hW 1 _ rfl, ar_cell hW 2 _ rfl⟩)
                  go_simp
                  try with_reducible rfl
                simp only [List.setIfInBounds_toArray, List.set_cons_zero, List.set_cons_succ]
                refine takeT_to (i := 7) (v := ?_) 57 rfl rfl (by kernel_rfl) (by kernel_rfl) (by kernel_rfl) (by kernel_rfl) (fun _ _ _ h => h) (Or.inl ⟨by rfl, ?_⟩) hS ?_
                rotate_left
                · intro W hW
                  obtain ⟨s1, s2⟩ := (show W.cell? ⟨wr.heap.size, 1, none⟩ = some (.int .u64 i) ∧ W.cell? ⟨wr.heap.size, 2, none⟩ = some (.slice oa m oc) from ⟨ar_cell hW 1 _ rfl, ar_cell hW 2 _ rfl⟩)
                  go_simp
                  try with_reducible rfl
                simp only [List.setIfInBounds_toArray, List.set_cons_zero, List.set_cons_succ]
                refine takeT_to (i := 8) (v := ?_) 58 rfl rfl (by kernel_rfl) (by kernel_rfl) (by kernel_rfl) (by kernel_rfl) (fun _ _ _ h => h) (Or.inl ⟨by rfl, ?_⟩) hS ?_
                rotate_left
                · intro W hW
                  obtain ⟨s1, s2⟩ := (show W.cell? ⟨wr.heap.size, 1, none⟩ = some (.int .u64 i) ∧ W.cell? ⟨wr.heap.size, 2, none⟩ = some (.slice oa m oc) from ⟨ar_cell hW 1 _ rfl, ar_cell hW 2 _ rfl⟩)
                  go_simp
                  try with_reducible rfl
                simp only [List.setIfInBounds_toArray, List.set_cons_zero, List.set_cons_succ]
                refine takeT_to (i := 9) (v := ?_) 59 rfl rfl (by kernel_rfl) (by kernel_rfl) (by kernel_rfl) (by kernel_rfl) (fun _ _ _ h => h) (Or.inl ⟨by rfl, ?_⟩) hS ?_
                rotate_left
                · intro W hW
                  obtain ⟨s1, s2⟩ := (show W.cell? ⟨wr.heap.size, 1, none⟩ = some (.int .u64 i) ∧ W.cell? ⟨wr.heap.size, 2, none⟩ = some (.slice oa m oc) from ⟨ar_cell hW 1 _ rfl, ar_cell hW 2 _ rfl⟩)
                  go_simp
                  try with_reducible rfl
                simp only [List.setIfInBounds_toArray, List.set_cons_zero, List.set_cons_succ]
                refine wpAnyT_ready (rs := [4]) (by kernel_rfl) (by simp) ?_
                refine AllReadyT.cons rfl (fun K hK => ?_) AllReadyT.nil
                go_simp
                refine ((h3.below (ext_drew wc)).putA (by omega) i hi (show Row wc.drew (some ⟨g, 0, none⟩) m (m + 3) xs from hrg) HX.out (fun y hy => .inl (by obtain rfl := Option.some.inj hy; exact .inr rfl))).mono ?_
                rintro e w4 ⟨rfl, h4⟩
                have o4 := (h4.kept (.inl rfl)).trans hob
                refine hK.out _ _ (fun _ => o4) ?_
                clear hK K
                refine wpAnyT_ready (rs := [10]) (by kernel_rfl) (by simp) ?_
                refine AllReadyT.cons rfl (fun K hK => ?_) AllReadyT.nil
                go_simp
                refine (h4.putR (by omega) i hi (hrow.below h4.new) HX.out (fun y hy => .inr (HLT.out y hy))).mono ?_
                rintro e w5 ⟨rfl, ls', h5, hlen'⟩
                have o5 := (h5.kept (.inl rfl)).trans hob
                refine hK.out _ _ (fun _ => o5) ?_
                clear hK K
                refine takeT_to (i := 11) (v := ?_) 61 rfl rfl (by kernel_rfl) (by kernel_rfl) (by kernel_rfl) (by kernel_rfl) (fun _ _ _ h => h) (Or.inl ⟨by rfl, ?_⟩) o5 ?_
                rotate_left
                · intro W hW
                  obtain ⟨s1, s2⟩ := (show W.cell? ⟨wr.heap.size, 1, none⟩ = some (.int .u64 i) ∧ W.cell? ⟨wr.heap.size, 2, none⟩ = some (.slice oa m oc) from ⟨ar_cell hW 1 _ rfl, ar_cell hW 2 _ rfl⟩)
                  go_simp
                  try with_reducible rfl
                simp only [List.setIfInBounds_toArray, List.set_cons_zero, List.set_cons_succ]
                refine takeT_to (i := 12) (v := ?_) 62 rfl rfl (by kernel_rfl) (by kernel_rfl) (by kernel_rfl) (by kernel_rfl) (fun _ _ _ h => h) (Or.inl ⟨by rfl, ?_⟩) o5 ?_
                rotate_left
                · intro W hW
                  obtain ⟨s1, s2⟩ := (show W.cell? ⟨wr.heap.size, 1, none⟩ = some (.int .u64 i) ∧ W.cell? ⟨wr.heap.size, 2, none⟩ = some (.slice oa m oc) from ⟨ar_cell hW 1 _ rfl, ar_cell hW 2 _ rfl⟩)
                  go_simp
                  try with_reducible rfl
                simp only [List.setIfInBounds_toArray, List.set_cons_zero, List.set_cons_succ]
                refine takeT_to (i := 13) (v := ?_) 63 rfl rfl (by kernel_rfl) (by kernel_rfl) (by kernel_rfl) (by kernel_rfl) (fun _ _ _ h => h) (Or.inl ⟨by rfl, ?_⟩) o5 ?_
                rotate_left
                · intro W hW
                  obtain ⟨s1, s2⟩ := (show W.cell? ⟨wr.heap.size, 1, none⟩ = some (.int .u64 i) ∧ W.cell? ⟨wr.heap.size, 2, none⟩ = some (.slice oa m oc) from ⟨ar_cell hW 1 _ rfl, ar_cell hW 2 _ rfl⟩)
                  go_simp
                  try with_reducible rfl
                simp only [List.setIfInBounds_toArray, List.set_cons_zero, List.set_cons_succ]
                refine takeT_to (i := 14) (v := ?_) 64 rfl rfl (by kernel_rfl) (by kernel_rfl) (by kernel_rfl) (by kernel_rfl) (fun _ _ _ h => h) (Or.inl ⟨by rfl, ?_⟩) o5 ?_
                rotate_left
                · intro W hW
                  obtain ⟨s1, s2⟩ := (show W.cell? ⟨wr.heap.size, 1, none⟩ = some (.int .u64 i) ∧ W.cell? ⟨wr.heap.size, 2, none⟩ = some (.slice oa m oc) from ⟨ar_cell hW 1 _ rfl, ar_cell hW 2 _ rfl⟩)
                  go_simp
                  try with_reducible rfl
                simp only [List.setIfInBounds_toArray, List.set_cons_zero, List.set_cons_succ]
                refine takeT_to (i := 15) (v := ?_) 65 rfl rfl (by kernel_rfl) (by kernel_rfl) (by kernel_rfl) (by kernel_rfl) (fun _ _ _ h => h) (Or.inl ⟨by rfl, ?_⟩) o5 ?_
                rotate_left
                · intro W hW
                  obtain ⟨s1, s2⟩ := (show W.cell? ⟨wr.heap.size, 1, none⟩ = some (.int .u64 i) ∧ W.cell? ⟨wr.heap.size, 2, none⟩ = some (.slice oa m oc) from ⟨ar_cell hW 1 _ rfl, ar_cell hW 2 _ rfl⟩)
                  go_simp
                  try with_reducible rfl
                simp only [List.setIfInBounds_toArray, List.set_cons_zero, List.set_cons_succ]
                refine wpAnyT_ready (rs := [16]) (by kernel_rfl) (by simp) ?_
                refine AllReadyT.cons rfl (fun K hK => ?_) AllReadyT.nil
                go_simp
                refine (kept_any g m xs oa oc _ (hrg3.out w5 (h5.kept (.inr rfl))) (hrow.below h5.new)).mono ?_
                rintro e w6 ⟨rfl, b6⟩
                have h6 := h5.below b6
                have o6 := (h6.kept (.inl rfl)).trans hob
                refine hK.out _ _ (fun _ => o6) ?_
                clear hK K
                refine takeT_to (i := 17) (v := ?_) 67 rfl rfl (by kernel_rfl) (by kernel_rfl) (by kernel_rfl) (by kernel_rfl) (fun _ _ _ h => h) (Or.inl ⟨by rfl, ?_⟩) o6 ?_
                rotate_left
                · intro W hW
                  obtain ⟨s1, s2⟩ := (show W.cell? ⟨wr.heap.size, 1, none⟩ = some (.int .u64 i) ∧ W.cell? ⟨wr.heap.size, 2, none⟩ = some (.slice oa m oc) from ⟨ar_cell hW 1 _ rfl, ar_cell hW 2 _ rfl⟩)
                  go_simp
                  try with_reducible rfl
                simp only [List.setIfInBounds_toArray, List.set_cons_zero, List.set_cons_succ]
                refine wpAnyT_ready (rs := [18]) (by kernel_rfl) (by simp) ?_
                refine AllReadyT.cons rfl (fun K hK => ?_) AllReadyT.nil
                go_simp
                refine hK.out _ _ (fun h => by cases h) ?_
                clear hK K
                refine wpAnyT_done (by kernel_rfl) ?_ _
                refine NoPanic.normal ?_
                go_wp2_with fail
                obtain ⟨cg, hcg, hsz⟩ := hcg3.out w6 (h6.kept (.inr rfl))
                refine (spoil_block hcg hsz (by omega) (by omega)).mono ?_
                rintro e w7 ⟨rfl, hg7⟩
                have h7 := h6.spoil (.inr rfl) hg7
                have o7 := (hg7.block _ (Array.getElem?_eq_some_iff.1 o6).1 (by simpa using hgne)).trans o6
                go_wp2_with fail
                go_meet
                case rel => exact ⟨_, rfl, pa, _, ls', _, rfl, h7, by omega, by omega, o7⟩
              · go_wp2_with fail
                refine wp_region_noPanic ?_
                refine wp_region_T (S := fun W => W.heap[wr.heap.size]? = some (.cells #[.int .i64 k0, .int .u64 i, .slice oa m oc] 34 (0, 0))) (by kernel_rfl) hob fun hS => ?_
                refine takeT_to (i := 0) (v := ?_) 50 rfl rfl (by kernel_rfl) (by kernel_rfl) (by kernel_rfl) (by kernel_rfl) (fun _ _ _ h => h) (Or.inl ⟨by rfl, ?_⟩) hS ?_
                rotate_left
                · intro W hW
                  obtain ⟨s1, s2⟩ := (show W.cell? ⟨wr.heap.size, 1, none⟩ = some (.int .u64 i) ∧ W.cell? ⟨wr.heap.size, 2, none⟩ = some (.slice oa m oc) from ⟨ar_cell hW 1 _ rfl, ar_cell hW 2 _ rfl⟩)
                  go_simp
                  try with_reducible rfl
                simp only [List.setIfInBounds_toArray, List.set_cons_zero, List.set_cons_succ]
                refine takeT_to (i := 1) (v := ?_) 51 rfl rfl (by kernel_rfl) (by kernel_rfl) (by kernel_rfl) (by kernel_rfl) (fun _ _ _ h => h) (Or.inl ⟨by rfl, ?_⟩) hS ?_
                rotate_left
                · intro W hW
                  obtain ⟨s1, s2⟩ := (show W.cell? ⟨wr.heap.size, 1, none⟩ = some (.int .u64 i) ∧ W.cell? ⟨wr.heap.size, 2, none⟩ = some (.slice oa m oc) from ⟨ar_cell hW 1 _ rfl, ar_cell hW 2 _ rfl⟩)
                  go_simp
                  try with_reducible rfl
                simp only [List.setIfInBounds_toArray, List.set_cons_zero, List.set_cons_succ]
                refine takeT_to (i := 2) (v := ?_) 52 rfl rfl (by kernel_rfl) (by kernel_rfl) (by kernel_rfl) (by kernel_rfl) (fun _ _ _ h => h) (Or.inl ⟨by rfl, ?_⟩) hS ?_
                rotate_left
                · intro W hW
                  obtain ⟨s1, s2⟩ := (show W.cell? ⟨wr.heap.size, 1, none⟩ = some (.int .u64 i) ∧ W.cell? ⟨wr.heap.size, 2, none⟩ = some (.slice oa m oc) from ⟨ar_cell hW 1 _ rfl, ar_cell hW 2 _ rfl⟩)
                  go_simp
                  try with_reducible rfl
                simp only [List.setIfInBounds_toArray, List.set_cons_zero, List.set_cons_succ]
                refine takeT_to (i := 3) (v := ?_) 53 rfl rfl (by kernel_rfl) (by kernel_rfl) (by kernel_rfl) (by kernel_rfl) (fun _ _ _ h => h) (Or.inl ⟨by rfl, ?_⟩) hS ?_
                rotate_left
                · intro W hW
                  obtain ⟨s1, s2⟩ := (show W.cell? ⟨wr.heap.size, 1, none⟩ = some (.int .u64 i) ∧ W.cell? ⟨wr.heap.size, 2, none⟩ = some (.slice oa m oc) from ⟨ar_cell hW 1 _ rfl, ar_cell hW 2 _ rfl⟩)
                  go_simp
                  try with_reducible rfl
                simp only [List.setIfInBounds_toArray, List.set_cons_zero, List.set_cons_succ]
                refine takeT_to (i := 5) (v := ?_) 55 rfl rfl (by kernel_rfl) (by kernel_rfl) (by kernel_rfl) (by kernel_rfl) (fun _ _ _ h => h) (Or.inl ⟨by rfl, ?_⟩) hS ?_
                rotate_left
                · intro W hW
                  obtain ⟨s1, s2⟩ := (show W.cell? ⟨wr.heap.size, 1, none⟩ = some (.int .u64 i) ∧ W.cell? ⟨wr.heap.size, 2, none⟩ = some (.slice oa m oc) from ⟨ar_cell hW 1 _ rfl, ar_cell hW 2 _ rfl⟩)
                  go_simp
                  try with_reducible rfl
                simp only [List.setIfInBounds_toArray, List.set_cons_zero, List.set_cons_succ]
                refine takeT_to (i := 6) (v := ?_) 56 rfl rfl (by kernel_rfl) (by kernel_rfl) (by kernel_rfl) (by kernel_rfl) (fun _ _ _ h => h) (Or.inl ⟨by rfl, ?_⟩) hS ?_
                rotate_left
                · intro W hW
                  obtain ⟨s1, s2⟩ := (show W.cell? ⟨wr.heap.size, 1, none⟩ = some (.int .u64 i) ∧ W.cell? ⟨wr.heap.size, 2, none⟩ = some (.slice oa m oc) from ⟨ar_cell hW 1 _ rfl, ar_cell hW 2 _ rfl⟩)
                  go_simp
                  try with_reducible rfl
                simp only [List.setIfInBounds_toArray, List.set_cons_zero, List.set_cons_succ]
                refine takeT_to (i := 7) (v := ?_) 57 rfl rfl (by kernel_rfl) (by kernel_rfl) (by kernel_rfl) (by kernel_rfl) (fun _ _ _ h => h) (Or.inl ⟨by rfl, ?_⟩) hS ?_
                rotate_left
                · intro W hW
                  obtain ⟨s1, s2⟩ := (show W.cell? ⟨wr.heap.size, 1, none⟩ = some (.int .u64 i) ∧ W.cell? ⟨wr.heap.size, 2, none⟩ = some (.slice oa m oc) from ⟨ar_cell hW 1 _ rfl, ar_cell hW 2 _ rfl⟩)
                  go_simp
                  try with_reducible rfl
                simp only [List.setIfInBounds_toArray, List.set_cons_zero, List.set_cons_succ]
                refine takeT_to (i := 8) (v := ?_) 58 rfl rfl (by kernel_rfl) (by kernel_rfl) (by kernel_rfl) (by kernel_rfl) (fun _ _ _ h => h) (Or.inl ⟨by rfl, ?_⟩) hS ?_
                rotate_left
                · intro W hW
                  obtain ⟨s1, s2⟩ := (show W.cell? ⟨wr.heap.size, 1, none⟩ = some (.int .u64 i) ∧ W.cell? ⟨wr.heap.size, 2, none⟩ = some (.slice oa m oc) from ⟨ar_cell hW 1 _ rfl, ar_cell hW 2 _ rfl⟩)
                  go_simp
                  try with_reducible rfl
                simp only [List.setIfInBounds_toArray, List.set_cons_zero, List.set_cons_succ]
                refine takeT_to (i := 9) (v := ?_) 59 rfl rfl (by kernel_rfl) (by kernel_rfl) (by kernel_rfl) (by kernel_rfl) (fun _ _ _ h => h) (Or.inl ⟨by rfl, ?_⟩) hS ?_
                rotate_left
                · intro W hW
                  obtain ⟨s1, s2⟩ := (show W.cell? ⟨wr.heap.size, 1, none⟩ = some (.int .u64 i) ∧ W.cell? ⟨wr.heap.size, 2, none⟩ = some (.slice oa m oc) from ⟨ar_cell hW 1 _ rfl, ar_cell hW 2 _ rfl⟩)
                  go_simp
                  try with_reducible rfl
                simp only [List.setIfInBounds_toArray, List.set_cons_zero, List.set_cons_succ]
                refine wpAnyT_ready (rs := [4]) (by kernel_rfl) (by simp) ?_
                refine AllReadyT.cons rfl (fun K hK => ?_) AllReadyT.nil
                go_simp
                refine ((h3.below (ext_drew wc)).putA_no i (show Row wc.drew (some ⟨g, 0, none⟩) m (m + 3) xs from hrg) hx).mono ?_
                rintro e w4 ⟨rfl, h4⟩
                have o4 := (h4.kept (.inl rfl)).trans hob
                refine hK.out _ _ (fun _ => o4) ?_
                clear hK K
                refine wpAnyT_ready (rs := [10]) (by kernel_rfl) (by simp) ?_
                refine AllReadyT.cons rfl (fun K hK => ?_) AllReadyT.nil
                go_simp
                refine (h4.putR_no i (hrow.below h4.new) hx).mono ?_
                rintro e w5 ⟨rfl, h5⟩
                have o5 := (h5.kept (.inl rfl)).trans hob
                refine hK.out _ _ (fun _ => o5) ?_
                clear hK K
                refine takeT_to (i := 11) (v := ?_) 61 rfl rfl (by kernel_rfl) (by kernel_rfl) (by kernel_rfl) (by kernel_rfl) (fun _ _ _ h => h) (Or.inl ⟨by rfl, ?_⟩) o5 ?_
                rotate_left
                · intro W hW
                  obtain ⟨s1, s2⟩ := (show W.cell? ⟨wr.heap.size, 1, none⟩ = some (.int .u64 i) ∧ W.cell? ⟨wr.heap.size, 2, none⟩ = some (.slice oa m oc) from ⟨ar_cell hW 1 _ rfl, ar_cell hW 2 _ rfl⟩)
                  go_simp
                  try with_reducible rfl
                simp only [List.setIfInBounds_toArray, List.set_cons_zero, List.set_cons_succ]
                refine takeT_to (i := 12) (v := ?_) 62 rfl rfl (by kernel_rfl) (by kernel_rfl) (by kernel_rfl) (by kernel_rfl) (fun _ _ _ h => h) (Or.inl ⟨by rfl, ?_⟩) o5 ?_
                rotate_left
                · intro W hW
                  obtain ⟨s1, s2⟩ := (show W.cell? ⟨wr.heap.size, 1, none⟩ = some (.int .u64 i) ∧ W.cell? ⟨wr.heap.size, 2, none⟩ = some (.slice oa m oc) from ⟨ar_cell hW 1 _ rfl, ar_cell hW 2 _ rfl⟩)
                  go_simp
                  try with_reducible rfl
                simp only [List.setIfInBounds_toArray, List.set_cons_zero, List.set_cons_succ]
                refine takeT_to (i := 13) (v := ?_) 63 rfl rfl (by kernel_rfl) (by kernel_rfl) (by kernel_rfl) (by kernel_rfl) (fun _ _ _ h => h) (Or.inl ⟨by rfl, ?_⟩) o5 ?_
                rotate_left
                · intro W hW
                  obtain ⟨s1, s2⟩ := (show W.cell? ⟨wr.heap.size, 1, none⟩ = some (.int .u64 i) ∧ W.cell? ⟨wr.heap.size, 2, none⟩ = some (.slice oa m oc) from ⟨ar_cell hW 1 _ rfl, ar_cell hW 2 _ rfl⟩)
                  go_simp
                  try with_reducible rfl
                simp only [List.setIfInBounds_toArray, List.set_cons_zero, List.set_cons_succ]
                refine takeT_to (i := 14) (v := ?_) 64 rfl rfl (by kernel_rfl) (by kernel_rfl) (by kernel_rfl) (by kernel_rfl) (fun _ _ _ h => h) (Or.inl ⟨by rfl, ?_⟩) o5 ?_
                rotate_left
                · intro W hW
                  obtain ⟨s1, s2⟩ := (show W.cell? ⟨wr.heap.size, 1, none⟩ = some (.int .u64 i) ∧ W.cell? ⟨wr.heap.size, 2, none⟩ = some (.slice oa m oc) from ⟨ar_cell hW 1 _ rfl, ar_cell hW 2 _ rfl⟩)
                  go_simp
                  try with_reducible rfl
                simp only [List.setIfInBounds_toArray, List.set_cons_zero, List.set_cons_succ]
                refine takeT_to (i := 15) (v := ?_) 65 rfl rfl (by kernel_rfl) (by kernel_rfl) (by kernel_rfl) (by kernel_rfl) (fun _ _ _ h => h) (Or.inl ⟨by rfl, ?_⟩) o5 ?_
                rotate_left
                · intro W hW
                  obtain ⟨s1, s2⟩ := (show W.cell? ⟨wr.heap.size, 1, none⟩ = some (.int .u64 i) ∧ W.cell? ⟨wr.heap.size, 2, none⟩ = some (.slice oa m oc) from ⟨ar_cell hW 1 _ rfl, ar_cell hW 2 _ rfl⟩)
                  go_simp
                  try with_reducible rfl
                simp only [List.setIfInBounds_toArray, List.set_cons_zero, List.set_cons_succ]
                refine wpAnyT_ready (rs := [16]) (by kernel_rfl) (by simp) ?_
                refine AllReadyT.cons rfl (fun K hK => ?_) AllReadyT.nil
                go_simp
                refine (kept_any g m xs oa oc _ (hrg3.out w5 (h5.kept (.inr rfl))) (hrow.below h5.new)).mono ?_
                rintro e w6 ⟨rfl, b6⟩
                have h6 := h5.below b6
                have o6 := (h6.kept (.inl rfl)).trans hob
                refine hK.out _ _ (fun _ => o6) ?_
                clear hK K
                refine takeT_to (i := 17) (v := ?_) 67 rfl rfl (by kernel_rfl) (by kernel_rfl) (by kernel_rfl) (by kernel_rfl) (fun _ _ _ h => h) (Or.inl ⟨by rfl, ?_⟩) o6 ?_
                rotate_left
                · intro W hW
                  obtain ⟨s1, s2⟩ := (show W.cell? ⟨wr.heap.size, 1, none⟩ = some (.int .u64 i) ∧ W.cell? ⟨wr.heap.size, 2, none⟩ = some (.slice oa m oc) from ⟨ar_cell hW 1 _ rfl, ar_cell hW 2 _ rfl⟩)
                  go_simp
                  try with_reducible rfl
                simp only [List.setIfInBounds_toArray, List.set_cons_zero, List.set_cons_succ]
                refine wpAnyT_ready (rs := [18]) (by kernel_rfl) (by simp) ?_
                refine AllReadyT.cons rfl (fun K hK => ?_) AllReadyT.nil
                go_simp
                refine hK.out _ _ (fun h => by cases h) ?_
                clear hK K
                refine wpAnyT_done (by kernel_rfl) ?_ _
                refine NoPanic.normal ?_
                go_wp2_with fail
                obtain ⟨cg, hcg, hsz⟩ := hcg3.out w6 (h6.kept (.inr rfl))
                refine (spoil_block hcg hsz (by omega) (by omega)).mono ?_
                rintro e w7 ⟨rfl, hg7⟩
                have h7 := h6.spoil (.inr rfl) hg7
                have o7 := (hg7.block _ (Array.getElem?_eq_some_iff.1 o6).1 (by simpa using hgne)).trans o6
                go_wp2_with fail
                go_meet
                case rel => exact ⟨_, rfl, pa, _, ls, _, rfl, h7, by omega, by omega, o7⟩
            · have q5 : decide (X < 5) = false := by simpa using hx5
              by_cases hx7 : X < 7
              · cases hT : T i with
                | some ys =>
                  go_wp2_with fail
                  refine wp_region_noPanic ?_
                  refine wp_region_T (S := fun W => W.heap[wr.heap.size]? = some (.cells #[.int .i64 k0, .int .u64 i, .slice oa m oc] 34 (0, 0))) (by kernel_rfl) hob fun hS => ?_
                  refine takeT_to (i := 0) (v := ?_) 74 rfl rfl (by kernel_rfl) (by kernel_rfl) (by kernel_rfl) (by kernel_rfl) (fun _ _ _ h => h) (Or.inl ⟨by rfl, ?_⟩) hS ?_
                  rotate_left
                  · intro W hW
                    obtain ⟨s1, s2⟩ := (show W.cell? ⟨wr.heap.size, 1, none⟩ = some (.int .u64 i) ∧ W.cell? ⟨wr.heap.size, 2, none⟩ = some (.slice oa m oc) from ⟨ar_cell hW 1 _ rfl, ar_cell hW 2 _ rfl⟩)
                    go_simp
                    try with_reducible rfl
                  simp only [List.setIfInBounds_toArray, List.set_cons_zero, List.set_cons_succ]
                  refine takeT_to (i := 1) (v := ?_) 75 rfl rfl (by kernel_rfl) (by kernel_rfl) (by kernel_rfl) (by kernel_rfl) (fun _ _ _ h => h) (Or.inl ⟨by rfl, ?_⟩) hS ?_
                  rotate_left
                  · intro W hW
                    obtain ⟨s1, s2⟩ := (show W.cell? ⟨wr.heap.size, 1, none⟩ = some (.int .u64 i) ∧ W.cell? ⟨wr.heap.size, 2, none⟩ = some (.slice oa m oc) from ⟨ar_cell hW 1 _ rfl, ar_cell hW 2 _ rfl⟩)
                    go_simp
                    try with_reducible rfl
                  simp only [List.setIfInBounds_toArray, List.set_cons_zero, List.set_cons_succ]
                  refine takeT_to (i := 2) (v := ?_) 76 rfl rfl (by kernel_rfl) (by kernel_rfl) (by kernel_rfl) (by kernel_rfl) (fun _ _ _ h => h) (Or.inl ⟨by rfl, ?_⟩) hS ?_
                  rotate_left
                  · intro W hW
                    obtain ⟨s1, s2⟩ := (show W.cell? ⟨wr.heap.size, 1, none⟩ = some (.int .u64 i) ∧ W.cell? ⟨wr.heap.size, 2, none⟩ = some (.slice oa m oc) from ⟨ar_cell hW 1 _ rfl, ar_cell hW 2 _ rfl⟩)
                    go_simp
                    try with_reducible rfl
                  simp only [List.setIfInBounds_toArray, List.set_cons_zero, List.set_cons_succ]
                  refine takeT_to (i := 4) (v := ?_) 78 rfl rfl (by kernel_rfl) (by kernel_rfl) (by kernel_rfl) (by kernel_rfl) (fun _ _ _ h => h) (Or.inl ⟨by rfl, ?_⟩) hS ?_
                  rotate_left
                  · intro W hW
                    obtain ⟨s1, s2⟩ := (show W.cell? ⟨wr.heap.size, 1, none⟩ = some (.int .u64 i) ∧ W.cell? ⟨wr.heap.size, 2, none⟩ = some (.slice oa m oc) from ⟨ar_cell hW 1 _ rfl, ar_cell hW 2 _ rfl⟩)
                    go_simp
                    try with_reducible rfl
                  simp only [List.setIfInBounds_toArray, List.set_cons_zero, List.set_cons_succ]
                  refine takeT_to (i := 5) (v := ?_) 79 rfl rfl (by kernel_rfl) (by kernel_rfl) (by kernel_rfl) (by kernel_rfl) (fun _ _ _ h => h) (Or.inl ⟨by rfl, ?_⟩) hS ?_
                  rotate_left
                  · intro W hW
                    obtain ⟨s1, s2⟩ := (show W.cell? ⟨wr.heap.size, 1, none⟩ = some (.int .u64 i) ∧ W.cell? ⟨wr.heap.size, 2, none⟩ = some (.slice oa m oc) from ⟨ar_cell hW 1 _ rfl, ar_cell hW 2 _ rfl⟩)
                    go_simp
                    try with_reducible rfl
                  simp only [List.setIfInBounds_toArray, List.set_cons_zero, List.set_cons_succ]
                  refine takeT_to (i := 6) (v := ?_) 80 rfl rfl (by kernel_rfl) (by kernel_rfl) (by kernel_rfl) (by kernel_rfl) (fun _ _ _ h => h) (Or.inl ⟨by rfl, ?_⟩) hS ?_
                  rotate_left
                  · intro W hW
                    obtain ⟨s1, s2⟩ := (show W.cell? ⟨wr.heap.size, 1, none⟩ = some (.int .u64 i) ∧ W.cell? ⟨wr.heap.size, 2, none⟩ = some (.slice oa m oc) from ⟨ar_cell hW 1 _ rfl, ar_cell hW 2 _ rfl⟩)
                    go_simp
                    try with_reducible rfl
                  simp only [List.setIfInBounds_toArray, List.set_cons_zero, List.set_cons_succ]
                  refine wpAnyT_ready (rs := [3]) (by kernel_rfl) (by simp) ?_
                  refine AllReadyT.cons rfl (fun K hK => ?_) AllReadyT.nil
                  go_simp
                  refine ((h3.below (ext_drew wc)).dropA (by omega) hT).mono ?_
                  rintro e w4 ⟨rfl, h4⟩
                  have o4 := (h4.kept (.inl rfl)).trans hob
                  refine hK.out _ _ (fun _ => o4) ?_
                  clear hK K
                  refine wpAnyT_ready (rs := [7]) (by kernel_rfl) (by simp) ?_
                  refine AllReadyT.cons rfl (fun K hK => ?_) AllReadyT.nil
                  go_simp
                  refine (h4.dropR (by omega) hT).mono ?_
                  rintro e w5 ⟨rfl, ls', h5, hlen'⟩
                  have o5 := (h5.kept (.inl rfl)).trans hob
                  refine hK.out _ _ (fun _ => o5) ?_
                  clear hK K
                  refine wpAnyT_ready (rs := [8]) (by kernel_rfl) (by simp) ?_
                  refine AllReadyT.cons rfl (fun K hK => ?_) AllReadyT.nil
                  go_simp
                  refine hK.out _ _ (fun h => by cases h) ?_
                  clear hK K
                  refine wpAnyT_done (by kernel_rfl) ?_ _
                  refine NoPanic.normal ?_
                  go_wp2_with fail
                  go_meet
                  case rel => exact ⟨_, rfl, pa, _, ls', _, rfl, h5.fin, by omega, by omega, o5⟩
                | none =>
                  go_wp2_with fail
                  refine wp_region_noPanic ?_
                  refine wp_region_T (S := fun W => W.heap[wr.heap.size]? = some (.cells #[.int .i64 k0, .int .u64 i, .slice oa m oc] 34 (0, 0))) (by kernel_rfl) hob fun hS => ?_
                  refine takeT_to (i := 0) (v := ?_) 74 rfl rfl (by kernel_rfl) (by kernel_rfl) (by kernel_rfl) (by kernel_rfl) (fun _ _ _ h => h) (Or.inl ⟨by rfl, ?_⟩) hS ?_
                  rotate_left
                  · intro W hW
                    obtain ⟨s1, s2⟩ := (show W.cell? ⟨wr.heap.size, 1, none⟩ = some (.int .u64 i) ∧ W.cell? ⟨wr.heap.size, 2, none⟩ = some (.slice oa m oc) from ⟨ar_cell hW 1 _ rfl, ar_cell hW 2 _ rfl⟩)
                    go_simp
                    try with_reducible rfl
                  simp only [List.setIfInBounds_toArray, List.set_cons_zero, List.set_cons_succ]
                  refine takeT_to (i := 1) (v := ?_) 75 rfl rfl (by kernel_rfl) (by kernel_rfl) (by kernel_rfl) (by kernel_rfl) (fun _ _ _ h => h) (Or.inl ⟨by rfl, ?_⟩) hS ?_
                  rotate_left
                  · intro W hW
                    obtain ⟨s1, s2⟩ := (show W.cell? ⟨wr.heap.size, 1, none⟩ = some (.int .u64 i) ∧ W.cell? ⟨wr.heap.size, 2, none⟩ = some (.slice oa m oc) from ⟨ar_cell hW 1 _ rfl, ar_cell hW 2 _ rfl⟩)
                    go_simp
                    try with_reducible rfl
                  simp only [List.setIfInBounds_toArray, List.set_cons_zero, List.set_cons_succ]
                  refine takeT_to (i := 2) (v := ?_) 76 rfl rfl (by kernel_rfl) (by kernel_rfl) (by kernel_rfl) (by kernel_rfl) (fun _ _ _ h => h) (Or.inl ⟨by rfl, ?_⟩) hS ?_
                  rotate_left
                  · intro W hW
                    obtain ⟨s1, s2⟩ := (show W.cell? ⟨wr.heap.size, 1, none⟩ = some (.int .u64 i) ∧ W.cell? ⟨wr.heap.size, 2, none⟩ = some (.slice oa m oc) from ⟨ar_cell hW 1 _ rfl, ar_cell hW 2 _ rfl⟩)
                    go_simp
                    try with_reducible rfl
                  simp only [List.setIfInBounds_toArray, List.set_cons_zero, List.set_cons_succ]
                  refine takeT_to (i := 4) (v := ?_) 78 rfl rfl (by kernel_rfl) (by kernel_rfl) (by kernel_rfl) (by kernel_rfl) (fun _ _ _ h => h) (Or.inl ⟨by rfl, ?_⟩) hS ?_
                  rotate_left
                  · intro W hW
                    obtain ⟨s1, s2⟩ := (show W.cell? ⟨wr.heap.size, 1, none⟩ = some (.int .u64 i) ∧ W.cell? ⟨wr.heap.size, 2, none⟩ = some (.slice oa m oc) from ⟨ar_cell hW 1 _ rfl, ar_cell hW 2 _ rfl⟩)
                    go_simp
                    try with_reducible rfl
                  simp only [List.setIfInBounds_toArray, List.set_cons_zero, List.set_cons_succ]
                  refine takeT_to (i := 5) (v := ?_) 79 rfl rfl (by kernel_rfl) (by kernel_rfl) (by kernel_rfl) (by kernel_rfl) (fun _ _ _ h => h) (Or.inl ⟨by rfl, ?_⟩) hS ?_
                  rotate_left
                  · intro W hW
                    obtain ⟨s1, s2⟩ := (show W.cell? ⟨wr.heap.size, 1, none⟩ = some (.int .u64 i) ∧ W.cell? ⟨wr.heap.size, 2, none⟩ = some (.slice oa m oc) from ⟨ar_cell hW 1 _ rfl, ar_cell hW 2 _ rfl⟩)
                    go_simp
                    try with_reducible rfl
                  simp only [List.setIfInBounds_toArray, List.set_cons_zero, List.set_cons_succ]
                  refine takeT_to (i := 6) (v := ?_) 80 rfl rfl (by kernel_rfl) (by kernel_rfl) (by kernel_rfl) (by kernel_rfl) (fun _ _ _ h => h) (Or.inl ⟨by rfl, ?_⟩) hS ?_
                  rotate_left
                  · intro W hW
                    obtain ⟨s1, s2⟩ := (show W.cell? ⟨wr.heap.size, 1, none⟩ = some (.int .u64 i) ∧ W.cell? ⟨wr.heap.size, 2, none⟩ = some (.slice oa m oc) from ⟨ar_cell hW 1 _ rfl, ar_cell hW 2 _ rfl⟩)
                    go_simp
                    try with_reducible rfl
                  simp only [List.setIfInBounds_toArray, List.set_cons_zero, List.set_cons_succ]
                  refine wpAnyT_ready (rs := [3]) (by kernel_rfl) (by simp) ?_
                  refine AllReadyT.cons rfl (fun K hK => ?_) AllReadyT.nil
                  go_simp
                  refine ((h3.below (ext_drew wc)).dropA_no (by omega) hT).mono ?_
                  rintro e w4 ⟨rfl, h4⟩
                  have o4 := (h4.kept (.inl rfl)).trans hob
                  refine hK.out _ _ (fun _ => o4) ?_
                  clear hK K
                  refine wpAnyT_ready (rs := [7]) (by kernel_rfl) (by simp) ?_
                  refine AllReadyT.cons rfl (fun K hK => ?_) AllReadyT.nil
                  go_simp
                  refine (h4.dropR_no (by omega) hT).mono ?_
                  rintro e w5 ⟨rfl, h5⟩
                  have o5 := (h5.kept (.inl rfl)).trans hob
                  refine hK.out _ _ (fun _ => o5) ?_
                  clear hK K
                  refine wpAnyT_ready (rs := [8]) (by kernel_rfl) (by simp) ?_
                  refine AllReadyT.cons rfl (fun K hK => ?_) AllReadyT.nil
                  go_simp
                  refine hK.out _ _ (fun h => by cases h) ?_
                  clear hK K
                  refine wpAnyT_done (by kernel_rfl) ?_ _
                  refine NoPanic.normal ?_
                  go_wp2_with fail
                  go_meet
                  case rel => exact ⟨_, rfl, pa, _, ls, _, rfl, h5.fin, by omega, by omega, o5⟩
              · have q7 : decide (X < 7) = false := by simpa using hx7
                by_cases hx8 : X = 8
                · have q8 : (X == 8) = true := by simp [hx8]
                  clear hx8 hx7 hx5
                  go_wp2_with fail
                  refine (R3.copy h3 (by omega)).mono ?_
                  rintro e w4 ⟨pc, rfl, h4⟩
                  have hp := h4.put (by omega) hv
                  go_wp2_with fail
                  refine hp.mono ?_
                  rintro e w5 ⟨rfl, To, h5⟩
                  go_wp2_with fail
                  refine (h5.drop (by omega)).mono ?_
                  rintro e w6 ⟨cc, rfl, To', No', h6⟩
                  obtain ⟨f1, f2⟩ := h6.fin
                  go_wp2_with fail
                  go_meet
                  case rel => exact ⟨_, rfl, pc, _, ls, _, rfl, f1, by omega, by omega, (f2 _ (.inl rfl)).trans hob⟩
                · have q8 : (X == 8) = false := by simpa using hx8
                  go_wp2_with fail
                  go_meet
                  case rel => exact ⟨_, rfl, pa, _, ls, _, rfl, h3.fin, by omega, by omega, hob⟩
          case rest =>
            obtain ⟨z11, rfl, pa', T', ls', N', rfl, hSt, hlen', hN', ho8⟩ := hcut
            apply hK1
            clear hK0 hK1 h3 hob hrow hrg hrg3 hcg3 d0 d1
            have e1 := ar_cell ho8 1 _ rfl
            go_wp2_with fail
            refine (same19_true hSt (by omega) (by omega) i).mono ?_
            rintro e w9 ⟨rfl, b9⟩
            go_wp2_with fail
            go_roundw
            case rel => exact ⟨k + 1, pa', T', ls', N', by omega, rfl, by go_num, hSt.below b9, hlen', hN'⟩
            case measure => simp [intOf]; omega
    · obtain rfl : k = n := by omega
      have h2 : decide ((k : Int) < (k : Int)) = false := by simp
      go_wp2_with fail
      refine (get_nil 1 wr).mono ?_
      rintro e w2 ⟨rfl, rfl⟩
      go_wp2_with fail
      refine (put_nil 1 _ _).mono ?_
      rintro e w5 ⟨rfl, b5⟩
      have k5 := ext_trans (below_alloc w2 _) b5
      go_wp2_with fail
      refine (drop_nil 1 _).mono ?_
      rintro e w6 ⟨rfl, rfl⟩
      go_wp2_with fail
      refine (ids_nil _).mono ?_
      rintro e w7 ⟨rfl, b7⟩
      go_wp2_with fail
      refine (size_nil _).mono ?_
      rintro e w8 ⟨rfl, b8⟩
      go_wp2_with fail
      refine (arbytes_nil _).mono ?_
      rintro e w9 ⟨rfl, b9⟩
      go_wp2_with fail
      refine (dup_nil _).mono ?_
      rintro e w10 ⟨rfl, rfl⟩
      go_wp2_with fail
      go_ret
      have k9 := ext_trans (ext_trans k5 b7) (ext_trans b8 b9)
      exact ⟨rfl, hw.trans (k9.mono hw.size)⟩
end Go.Proofs.Ytafnonmpanpfkaa
