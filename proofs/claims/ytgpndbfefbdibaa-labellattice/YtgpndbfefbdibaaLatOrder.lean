/- LabelLattice answers true: the part on the order. -/
import Derived.Test.YtgpndbfefbdibaaLatMath
import Derived.Test.YtgpndbfefbdibaaParts
namespace Go.Proofs.Ytgpndbfefbdibaa
open Go.RowKit
set_option linter.unusedVariables false

set_option maxHeartbeats 8000000 in
set_option maxRecDepth 100000 in
theorem lat_order (d1 d2 d3 Dj Dm : Int) (a1 a2 a3 soj som : Option Addr) (n1 c1 n2 c2 n3 c3 kj coj km com gj gm : Nat) (xs ys vs zj zm : List (Int × Int)) (w W : World) (hlx : LvL d1 xs) (hly : LvL d2 ys) (hlv : LvL d3 vs) (hlj : LvL Dj zj) (hlm : LvL Dm zm) (hux : UpL xs) (huy : UpL ys) (huv : UpL vs) (huj : UpL zj) (hum : UpL zm) (hn1' : n1 ≤ 24) (hn2' : n2 ≤ 24) (hn3' : n3 ≤ 24) (hkj : kj ≤ 48) (hkm : km ≤ 48) (HL : Hid (FlL d1 xs d1 xs ∧ (FlL d1 xs d2 ys → FlL d2 ys d1 xs → d1 = d2 ∧ xs = ys) ∧ (FlL d1 xs d2 ys → FlL d2 ys d3 vs → FlL d1 xs d3 vs) ∧
    FlL d1 xs (Dj) (zj) ∧ FlL d2 ys (Dj) (zj) ∧ FlL (Dm) (zm) d1 xs ∧ FlL (Dm) (zm) d2 ys ∧
    (FlL d1 xs d3 vs → FlL d2 ys d3 vs → FlL (Dj) (zj) d3 vs) ∧ (FlL d3 vs d1 xs → FlL d3 vs d2 ys → FlL d3 vs (Dm) (zm)))) (HE : Hid ((Dj = max d2 d1 ∧ zj = comb max d2 d1 ys xs) ∧
    (max d1 (max d2 d3) = max (Dj) d3 ∧ comb max d1 (max d2 d3) xs (comb max d2 d3 ys vs) = comb max (Dj) d3 (zj) vs) ∧
    (max d1 (Dm) = d1 ∧ comb max d1 (Dm) xs (zm) = xs) ∧
    (min d1 (Dj) = d1 ∧ comb min d1 (Dj) xs (zj) = xs) ∧
    (FlL d1 xs d2 ys ↔ Dj = d2 ∧ zj = ys) ∧ LvL (max d2 d3) (comb max d2 d3 ys vs) ∧ True)) (HD : Hid (∀ V, Below W.heap.size W V → (V.cell? ⟨w.heap.size, 0, none⟩ = some (.int .u8 d1) ∧ V.cell? ⟨w.heap.size, 1, none⟩ = some (.slice a1 n1 c1) ∧ V.cell? ⟨w.heap.size + 1, 0, none⟩ = some (.int .u8 d2) ∧ V.cell? ⟨w.heap.size + 1, 1, none⟩ = some (.slice a2 n2 c2) ∧ V.cell? ⟨w.heap.size + 1 + 1, 0, none⟩ = some (.int .u8 d3) ∧ V.cell? ⟨w.heap.size + 1 + 1, 1, none⟩ = some (.slice a3 n3 c3) ∧ V.cell? ⟨gj, 0, none⟩ = some (.int .u8 Dj) ∧ V.cell? ⟨gj, 1, none⟩ = some (.slice soj kj coj) ∧ V.cell? ⟨gm, 0, none⟩ = some (.int .u8 Dm) ∧ V.cell? ⟨gm, 1, none⟩ = some (.slice som km com)) ∧ RowG PE V a1 n1 c1 xs ∧ RowG PE V a2 n2 c2 ys ∧ RowG PE V a3 n3 c3 vs ∧ RowG PE V soj kj coj zj ∧ RowG PE V som km com zm)) (HB : Hid (∀ V, Below W.heap.size W V → Below w.heap.size w V)) (KB : Act → World → Prop) (Q : Exit → Act → World → Prop) (CB : Hid (∀ (a : Act) (V : World), a = { tmps := #[sl a 0, sl a 1, sl a 2, .pointer (some ⟨w.heap.size, 0, none⟩), .pointer (some ⟨w.heap.size + 1, 0, none⟩), .pointer (some ⟨w.heap.size + 1 + 1, 0, none⟩), .bool false, .func (.func 13) #[] #[], .pointer (some ⟨gj, 0, none⟩), .pointer (some ⟨gm, 0, none⟩), .bool true, sl a 11, sl a 12, sl a 13, sl a 14, sl a 15, sl a 16, sl a 17, sl a 18, sl a 19, sl a 20, sl a 21, sl a 22, sl a 23, sl a 24, sl a 25, sl a 26, sl a 27, sl a 28, sl a 29, sl a 30, sl a 31, sl a 32, sl a 33, sl a 34, sl a 35, sl a 36, sl a 37, sl a 38, sl a 39, sl a 40, sl a 41, sl a 42, sl a 43, sl a 44, sl a 45, sl a 46, sl a 47, sl a 48, sl a 49, sl a 50, sl a 51, sl a 52, sl a 53, sl a 54, sl a 55, sl a 56, sl a 57, sl a 58, sl a 59, sl a 60, sl a 61, sl a 62, sl a 63, sl a 64, sl a 65, sl a 66, sl a 67, sl a 68, sl a 69, sl a 70, sl a 71, sl a 72, sl a 73, sl a 74, sl a 75, sl a 76, sl a 77, sl a 78, sl a 79, sl a 80, sl a 81, sl a 82, sl a 83, sl a 84, sl a 85, sl a 86, sl a 87, sl a 88, sl a 89, sl a 90, sl a 91, sl a 92, sl a 93, sl a 94, sl a 95, sl a 96, sl a 97, sl a 98, sl a 99, sl a 100, sl a 101, sl a 102, sl a 103, sl a 104, sl a 105, sl a 106, sl a 107, sl a 108, sl a 109, sl a 110, sl a 111, sl a 112, sl a 113, sl a 114, sl a 115, sl a 116, sl a 117, sl a 118, sl a 119, sl a 120, sl a 121, sl a 122, sl a 123, sl a 124, sl a 125, sl a 126, sl a 127, sl a 128, sl a 129, sl a 130, sl a 131, sl a 132, sl a 133, sl a 134, sl a 135, sl a 136, sl a 137, sl a 138, sl a 139, sl a 140, sl a 141, sl a 142, sl a 143, sl a 144, sl a 145, sl a 146, sl a 147, sl a 148, sl a 149, sl a 150, sl a 151, sl a 152, sl a 153, sl a 154, sl a 155, sl a 156, sl a 157, sl a 158, sl a 159, sl a 160, sl a 161, sl a 162, sl a 163, sl a 164, sl a 165, sl a 166, sl a 167, sl a 168, sl a 169, sl a 170, sl a 171, sl a 172], defers := [] } → Below W.heap.size W V → KB a V)) (s : Nat → Value) :
    Code.wp Try.prog (lft (part Try.f6 7)) (Exit.then KB Q) { tmps := #[s 0, s 1, s 2, .pointer (some ⟨w.heap.size, 0, none⟩), .pointer (some ⟨w.heap.size + 1, 0, none⟩), .pointer (some ⟨w.heap.size + 1 + 1, 0, none⟩), .bool false, .func (.func 13) #[] #[], .pointer (some ⟨gj, 0, none⟩), .pointer (some ⟨gm, 0, none⟩), s 10, s 11, s 12, s 13, s 14, s 15, s 16, s 17, s 18, s 19, s 20, s 21, s 22, s 23, s 24, s 25, s 26, s 27, s 28, s 29, s 30, s 31, s 32, s 33, s 34, s 35, s 36, s 37, s 38, s 39, s 40, s 41, s 42, s 43, s 44, s 45, s 46, s 47, s 48, s 49, s 50, s 51, s 52, s 53, s 54, s 55, s 56, s 57, s 58, s 59, s 60, s 61, s 62, s 63, s 64, s 65, s 66, s 67, s 68, s 69, s 70, s 71, s 72, s 73, s 74, s 75, s 76, s 77, s 78, s 79, s 80, s 81, s 82, s 83, s 84, s 85, s 86, s 87, s 88, s 89, s 90, s 91, s 92, s 93, s 94, s 95, s 96, s 97, s 98, s 99, s 100, s 101, s 102, s 103, s 104, s 105, s 106, s 107, s 108, s 109, s 110, s 111, s 112, s 113, s 114, s 115, s 116, s 117, s 118, s 119, s 120, s 121, s 122, s 123, s 124, s 125, s 126, s 127, s 128, s 129, s 130, s 131, s 132, s 133, s 134, s 135, s 136, s 137, s 138, s 139, s 140, s 141, s 142, s 143, s 144, s 145, s 146, s 147, s 148, s 149, s 150, s 151, s 152, s 153, s 154, s 155, s 156, s 157, s 158, s 159, s 160, s 161, s 162, s 163, s 164, s 165, s 166, s 167, s 168, s 169, s 170, s 171, s 172], defers := [] } W := by
  conv => arg 2; whnf
  have hbS : Below W.heap.size W W := Below.refl _ _
  obtain ⟨⟨_, _, _, _, _, _, _, _, _, _⟩, ra, rb, rc, rj, rm⟩ := HD.out _ hbS
  go_wp2_with fail
  any_goals (first | (rename_i hx _; exact (hx true rfl).elim) | (rename_i b hb _ _ hx _; exact absurd (Value.bool.inj (Option.some.inj (show some (Value.bool true) = some (Value.bool b) from hx))).symm hb) | (rename_i hx _; exact (hx false rfl).elim) | (rename_i hx; exact (hx true rfl).elim) | (rename_i b hb hx; exact absurd (Value.bool.inj (Option.some.inj (show some (Value.bool true) = some (Value.bool b) from hx))).symm hb) | skip)
  refine (flowsL_any d1 d1 a1 a1 n1 c1 n1 c1 xs xs _ ra ra hlx hlx hux hux (by omega)).mono ?_
  rintro e w117 ⟨q117, rfl, hq117, hb117⟩
  replace hb117 := ext_trans hbS hb117
  clear ra rb rc rj rm
  obtain rfl : q117 = true := hq117.2 (HL.out.1)
  clear hq117
  obtain ⟨⟨_, _, _, _, _, _, _, _, _, _⟩, ra, rb, rc, rj, rm⟩ := HD.out _ hb117
  go_wp2_with fail
  any_goals (first | (rename_i hx _; exact (hx true rfl).elim) | (rename_i b hb _ _ hx _; exact absurd (Value.bool.inj (Option.some.inj (show some (Value.bool true) = some (Value.bool b) from hx))).symm hb) | (rename_i hx _; exact (hx false rfl).elim) | (rename_i hx; exact (hx true rfl).elim) | (rename_i b hb hx; exact absurd (Value.bool.inj (Option.some.inj (show some (Value.bool true) = some (Value.bool b) from hx))).symm hb) | skip)
  refine (flowsL_any d1 d2 a1 a2 n1 c1 n2 c2 xs ys _ ra rb hlx hly hux huy (by omega)).mono ?_
  rintro e w118 ⟨q118, rfl, hq118, hb118⟩
  replace hb118 := ext_trans hb117 hb118
  clear ra rb rc rj rm
  obtain ⟨⟨_, _, _, _, _, _, _, _, _, _⟩, ra, rb, rc, rj, rm⟩ := HD.out _ hb118
  cases q118
  · go_wp2_with fail
    any_goals (first | (rename_i hx _; exact (hx true rfl).elim) | (rename_i b hb _ _ hx _; exact absurd (Value.bool.inj (Option.some.inj (show some (Value.bool true) = some (Value.bool b) from hx))).symm hb) | (rename_i hx _; exact (hx false rfl).elim) | (rename_i hx; exact (hx true rfl).elim) | (rename_i b hb hx; exact absurd (Value.bool.inj (Option.some.inj (show some (Value.bool true) = some (Value.bool b) from hx))).symm hb) | skip)
    refine (flowsL_any d1 d2 a1 a2 n1 c1 n2 c2 xs ys _ ra rb hlx hly hux huy (by omega)).mono ?_
    rintro e w119 ⟨q119, rfl, hq119, hb119⟩
    replace hb119 := ext_trans hb118 hb119
    clear ra rb rc rj rm
    obtain ⟨⟨_, _, _, _, _, _, _, _, _, _⟩, ra, rb, rc, rj, rm⟩ := HD.out _ hb119
    cases q119
    · go_wp2_with fail
      any_goals (first | (rename_i hx _; exact (hx true rfl).elim) | (rename_i b hb _ _ hx _; exact absurd (Value.bool.inj (Option.some.inj (show some (Value.bool true) = some (Value.bool b) from hx))).symm hb) | (rename_i hx _; exact (hx false rfl).elim) | (rename_i hx; exact (hx true rfl).elim) | (rename_i b hb hx; exact absurd (Value.bool.inj (Option.some.inj (show some (Value.bool true) = some (Value.bool b) from hx))).symm hb) | skip)
      exact CB.out _ _ rfl hb119
    · go_wp2_with fail
      any_goals (first | (rename_i hx _; exact (hx true rfl).elim) | (rename_i b hb _ _ hx _; exact absurd (Value.bool.inj (Option.some.inj (show some (Value.bool true) = some (Value.bool b) from hx))).symm hb) | (rename_i hx _; exact (hx false rfl).elim) | (rename_i hx; exact (hx true rfl).elim) | (rename_i b hb hx; exact absurd (Value.bool.inj (Option.some.inj (show some (Value.bool true) = some (Value.bool b) from hx))).symm hb) | skip)
      refine (flowsL_any d2 d1 a2 a1 n2 c2 n1 c1 ys xs _ rb ra hly hlx huy hux (by omega)).mono ?_
      rintro e w120 ⟨q120, rfl, hq120, hb120⟩
      replace hb120 := ext_trans hb119 hb120
      clear ra rb rc rj rm
      obtain ⟨⟨_, _, _, _, _, _, _, _, _, _⟩, ra, rb, rc, rj, rm⟩ := HD.out _ hb120
      cases q120
      · go_wp2_with fail
        any_goals (first | (rename_i hx _; exact (hx true rfl).elim) | (rename_i b hb _ _ hx _; exact absurd (Value.bool.inj (Option.some.inj (show some (Value.bool true) = some (Value.bool b) from hx))).symm hb) | (rename_i hx _; exact (hx false rfl).elim) | (rename_i hx; exact (hx true rfl).elim) | (rename_i b hb hx; exact absurd (Value.bool.inj (Option.some.inj (show some (Value.bool true) = some (Value.bool b) from hx))).symm hb) | skip)
        exact CB.out _ _ rfl hb120
      · go_wp2_with fail
        any_goals (first | (rename_i hx _; exact (hx true rfl).elim) | (rename_i b hb _ _ hx _; exact absurd (Value.bool.inj (Option.some.inj (show some (Value.bool true) = some (Value.bool b) from hx))).symm hb) | (rename_i hx _; exact (hx false rfl).elim) | (rename_i hx; exact (hx true rfl).elim) | (rename_i b hb hx; exact absurd (Value.bool.inj (Option.some.inj (show some (Value.bool true) = some (Value.bool b) from hx))).symm hb) | skip)
        refine (refSame_any d1 a1 n1 c1 xs d2 a2 n2 c2 ys _ ra rb).mono ?_
        rintro e w121 ⟨rfl, hb121⟩
        rw [decide_eq_true (HL.out.2.1 (hq119.1 (by trivial)) (hq120.1 (by trivial)))]
        replace hb121 := ext_trans hb120 hb121
        clear ra rb rc rj rm
        obtain ⟨⟨_, _, _, _, _, _, _, _, _, _⟩, ra, rb, rc, rj, rm⟩ := HD.out _ hb121
        go_wp2_with fail
        any_goals (first | (rename_i hx _; exact (hx true rfl).elim) | (rename_i b hb _ _ hx _; exact absurd (Value.bool.inj (Option.some.inj (show some (Value.bool true) = some (Value.bool b) from hx))).symm hb) | (rename_i hx _; exact (hx false rfl).elim) | (rename_i hx; exact (hx true rfl).elim) | (rename_i b hb hx; exact absurd (Value.bool.inj (Option.some.inj (show some (Value.bool true) = some (Value.bool b) from hx))).symm hb) | skip)
        exact CB.out _ _ rfl hb121
  · go_wp2_with fail
    any_goals (first | (rename_i hx _; exact (hx true rfl).elim) | (rename_i b hb _ _ hx _; exact absurd (Value.bool.inj (Option.some.inj (show some (Value.bool true) = some (Value.bool b) from hx))).symm hb) | (rename_i hx _; exact (hx false rfl).elim) | (rename_i hx; exact (hx true rfl).elim) | (rename_i b hb hx; exact absurd (Value.bool.inj (Option.some.inj (show some (Value.bool true) = some (Value.bool b) from hx))).symm hb) | skip)
    refine (flowsL_any d2 d3 a2 a3 n2 c2 n3 c3 ys vs _ rb rc hly hlv huy huv (by omega)).mono ?_
    rintro e w122 ⟨q122, rfl, hq122, hb122⟩
    replace hb122 := ext_trans hb118 hb122
    clear ra rb rc rj rm
    obtain ⟨⟨_, _, _, _, _, _, _, _, _, _⟩, ra, rb, rc, rj, rm⟩ := HD.out _ hb122
    cases q122
    · go_wp2_with fail
      any_goals (first | (rename_i hx _; exact (hx true rfl).elim) | (rename_i b hb _ _ hx _; exact absurd (Value.bool.inj (Option.some.inj (show some (Value.bool true) = some (Value.bool b) from hx))).symm hb) | (rename_i hx _; exact (hx false rfl).elim) | (rename_i hx; exact (hx true rfl).elim) | (rename_i b hb hx; exact absurd (Value.bool.inj (Option.some.inj (show some (Value.bool true) = some (Value.bool b) from hx))).symm hb) | skip)
      refine (flowsL_any d1 d2 a1 a2 n1 c1 n2 c2 xs ys _ ra rb hlx hly hux huy (by omega)).mono ?_
      rintro e w123 ⟨q123, rfl, hq123, hb123⟩
      replace hb123 := ext_trans hb122 hb123
      clear ra rb rc rj rm
      obtain ⟨⟨_, _, _, _, _, _, _, _, _, _⟩, ra, rb, rc, rj, rm⟩ := HD.out _ hb123
      cases q123
      · go_wp2_with fail
        any_goals (first | (rename_i hx _; exact (hx true rfl).elim) | (rename_i b hb _ _ hx _; exact absurd (Value.bool.inj (Option.some.inj (show some (Value.bool true) = some (Value.bool b) from hx))).symm hb) | (rename_i hx _; exact (hx false rfl).elim) | (rename_i hx; exact (hx true rfl).elim) | (rename_i b hb hx; exact absurd (Value.bool.inj (Option.some.inj (show some (Value.bool true) = some (Value.bool b) from hx))).symm hb) | skip)
        exact CB.out _ _ rfl hb123
      · go_wp2_with fail
        any_goals (first | (rename_i hx _; exact (hx true rfl).elim) | (rename_i b hb _ _ hx _; exact absurd (Value.bool.inj (Option.some.inj (show some (Value.bool true) = some (Value.bool b) from hx))).symm hb) | (rename_i hx _; exact (hx false rfl).elim) | (rename_i hx; exact (hx true rfl).elim) | (rename_i b hb hx; exact absurd (Value.bool.inj (Option.some.inj (show some (Value.bool true) = some (Value.bool b) from hx))).symm hb) | skip)
        refine (flowsL_any d2 d1 a2 a1 n2 c2 n1 c1 ys xs _ rb ra hly hlx huy hux (by omega)).mono ?_
        rintro e w124 ⟨q124, rfl, hq124, hb124⟩
        replace hb124 := ext_trans hb123 hb124
        clear ra rb rc rj rm
        obtain ⟨⟨_, _, _, _, _, _, _, _, _, _⟩, ra, rb, rc, rj, rm⟩ := HD.out _ hb124
        cases q124
        · go_wp2_with fail
          any_goals (first | (rename_i hx _; exact (hx true rfl).elim) | (rename_i b hb _ _ hx _; exact absurd (Value.bool.inj (Option.some.inj (show some (Value.bool true) = some (Value.bool b) from hx))).symm hb) | (rename_i hx _; exact (hx false rfl).elim) | (rename_i hx; exact (hx true rfl).elim) | (rename_i b hb hx; exact absurd (Value.bool.inj (Option.some.inj (show some (Value.bool true) = some (Value.bool b) from hx))).symm hb) | skip)
          exact CB.out _ _ rfl hb124
        · go_wp2_with fail
          any_goals (first | (rename_i hx _; exact (hx true rfl).elim) | (rename_i b hb _ _ hx _; exact absurd (Value.bool.inj (Option.some.inj (show some (Value.bool true) = some (Value.bool b) from hx))).symm hb) | (rename_i hx _; exact (hx false rfl).elim) | (rename_i hx; exact (hx true rfl).elim) | (rename_i b hb hx; exact absurd (Value.bool.inj (Option.some.inj (show some (Value.bool true) = some (Value.bool b) from hx))).symm hb) | skip)
          refine (refSame_any d1 a1 n1 c1 xs d2 a2 n2 c2 ys _ ra rb).mono ?_
          rintro e w125 ⟨rfl, hb125⟩
          rw [decide_eq_true (HL.out.2.1 (hq123.1 (by trivial)) (hq124.1 (by trivial)))]
          replace hb125 := ext_trans hb124 hb125
          clear ra rb rc rj rm
          obtain ⟨⟨_, _, _, _, _, _, _, _, _, _⟩, ra, rb, rc, rj, rm⟩ := HD.out _ hb125
          go_wp2_with fail
          any_goals (first | (rename_i hx _; exact (hx true rfl).elim) | (rename_i b hb _ _ hx _; exact absurd (Value.bool.inj (Option.some.inj (show some (Value.bool true) = some (Value.bool b) from hx))).symm hb) | (rename_i hx _; exact (hx false rfl).elim) | (rename_i hx; exact (hx true rfl).elim) | (rename_i b hb hx; exact absurd (Value.bool.inj (Option.some.inj (show some (Value.bool true) = some (Value.bool b) from hx))).symm hb) | skip)
          exact CB.out _ _ rfl hb125
    · go_wp2_with fail
      any_goals (first | (rename_i hx _; exact (hx true rfl).elim) | (rename_i b hb _ _ hx _; exact absurd (Value.bool.inj (Option.some.inj (show some (Value.bool true) = some (Value.bool b) from hx))).symm hb) | (rename_i hx _; exact (hx false rfl).elim) | (rename_i hx; exact (hx true rfl).elim) | (rename_i b hb hx; exact absurd (Value.bool.inj (Option.some.inj (show some (Value.bool true) = some (Value.bool b) from hx))).symm hb) | skip)
      refine (flowsL_any d1 d3 a1 a3 n1 c1 n3 c3 xs vs _ ra rc hlx hlv hux huv (by omega)).mono ?_
      rintro e w126 ⟨q126, rfl, hq126, hb126⟩
      replace hb126 := ext_trans hb122 hb126
      clear ra rb rc rj rm
      obtain rfl : q126 = true := hq126.2 (HL.out.2.2.1 (hq118.1 (by trivial)) (hq122.1 (by trivial)))
      clear hq126
      obtain ⟨⟨_, _, _, _, _, _, _, _, _, _⟩, ra, rb, rc, rj, rm⟩ := HD.out _ hb126
      go_wp2_with fail
      any_goals (first | (rename_i hx _; exact (hx true rfl).elim) | (rename_i b hb _ _ hx _; exact absurd (Value.bool.inj (Option.some.inj (show some (Value.bool true) = some (Value.bool b) from hx))).symm hb) | (rename_i hx _; exact (hx false rfl).elim) | (rename_i hx; exact (hx true rfl).elim) | (rename_i b hb hx; exact absurd (Value.bool.inj (Option.some.inj (show some (Value.bool true) = some (Value.bool b) from hx))).symm hb) | skip)
      refine (flowsL_any d1 d2 a1 a2 n1 c1 n2 c2 xs ys _ ra rb hlx hly hux huy (by omega)).mono ?_
      rintro e w127 ⟨q127, rfl, hq127, hb127⟩
      replace hb127 := ext_trans hb126 hb127
      clear ra rb rc rj rm
      obtain ⟨⟨_, _, _, _, _, _, _, _, _, _⟩, ra, rb, rc, rj, rm⟩ := HD.out _ hb127
      cases q127
      · go_wp2_with fail
        any_goals (first | (rename_i hx _; exact (hx true rfl).elim) | (rename_i b hb _ _ hx _; exact absurd (Value.bool.inj (Option.some.inj (show some (Value.bool true) = some (Value.bool b) from hx))).symm hb) | (rename_i hx _; exact (hx false rfl).elim) | (rename_i hx; exact (hx true rfl).elim) | (rename_i b hb hx; exact absurd (Value.bool.inj (Option.some.inj (show some (Value.bool true) = some (Value.bool b) from hx))).symm hb) | skip)
        exact CB.out _ _ rfl hb127
      · go_wp2_with fail
        any_goals (first | (rename_i hx _; exact (hx true rfl).elim) | (rename_i b hb _ _ hx _; exact absurd (Value.bool.inj (Option.some.inj (show some (Value.bool true) = some (Value.bool b) from hx))).symm hb) | (rename_i hx _; exact (hx false rfl).elim) | (rename_i hx; exact (hx true rfl).elim) | (rename_i b hb hx; exact absurd (Value.bool.inj (Option.some.inj (show some (Value.bool true) = some (Value.bool b) from hx))).symm hb) | skip)
        refine (flowsL_any d2 d1 a2 a1 n2 c2 n1 c1 ys xs _ rb ra hly hlx huy hux (by omega)).mono ?_
        rintro e w128 ⟨q128, rfl, hq128, hb128⟩
        replace hb128 := ext_trans hb127 hb128
        clear ra rb rc rj rm
        obtain ⟨⟨_, _, _, _, _, _, _, _, _, _⟩, ra, rb, rc, rj, rm⟩ := HD.out _ hb128
        cases q128
        · go_wp2_with fail
          any_goals (first | (rename_i hx _; exact (hx true rfl).elim) | (rename_i b hb _ _ hx _; exact absurd (Value.bool.inj (Option.some.inj (show some (Value.bool true) = some (Value.bool b) from hx))).symm hb) | (rename_i hx _; exact (hx false rfl).elim) | (rename_i hx; exact (hx true rfl).elim) | (rename_i b hb hx; exact absurd (Value.bool.inj (Option.some.inj (show some (Value.bool true) = some (Value.bool b) from hx))).symm hb) | skip)
          exact CB.out _ _ rfl hb128
        · go_wp2_with fail
          any_goals (first | (rename_i hx _; exact (hx true rfl).elim) | (rename_i b hb _ _ hx _; exact absurd (Value.bool.inj (Option.some.inj (show some (Value.bool true) = some (Value.bool b) from hx))).symm hb) | (rename_i hx _; exact (hx false rfl).elim) | (rename_i hx; exact (hx true rfl).elim) | (rename_i b hb hx; exact absurd (Value.bool.inj (Option.some.inj (show some (Value.bool true) = some (Value.bool b) from hx))).symm hb) | skip)
          refine (refSame_any d1 a1 n1 c1 xs d2 a2 n2 c2 ys _ ra rb).mono ?_
          rintro e w129 ⟨rfl, hb129⟩
          rw [decide_eq_true (HL.out.2.1 (hq127.1 (by trivial)) (hq128.1 (by trivial)))]
          replace hb129 := ext_trans hb128 hb129
          clear ra rb rc rj rm
          obtain ⟨⟨_, _, _, _, _, _, _, _, _, _⟩, ra, rb, rc, rj, rm⟩ := HD.out _ hb129
          go_wp2_with fail
          any_goals (first | (rename_i hx _; exact (hx true rfl).elim) | (rename_i b hb _ _ hx _; exact absurd (Value.bool.inj (Option.some.inj (show some (Value.bool true) = some (Value.bool b) from hx))).symm hb) | (rename_i hx _; exact (hx false rfl).elim) | (rename_i hx; exact (hx true rfl).elim) | (rename_i b hb hx; exact absurd (Value.bool.inj (Option.some.inj (show some (Value.bool true) = some (Value.bool b) from hx))).symm hb) | skip)
          exact CB.out _ _ rfl hb129

end Go.Proofs.Ytgpndbfefbdibaa
