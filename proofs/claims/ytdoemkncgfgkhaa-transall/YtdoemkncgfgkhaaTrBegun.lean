/- What two answers of Split come to, and that trans does something: what the statements ask first. -/
import Derived.Test.YtdoemkncgfgkhaaTrBack
import Derived.Test.YtdoemkncgfgkhaaTrSplit
import Derived.Test.YtdoemkncgfgkhaaM1Laws
namespace Go.Proofs.Ytdoemkncgfgkhaa
open Go.RowKit
set_option maxRecDepth 100000

theorem SpP.ok {d : Int} {xs : List (Int × Int)} {r : Sv} {E : Int} (h : SpP d xs r E) (hq : nameB d xs = true) : E = 0 ∧ r.xs = starsL 4 xs ∧ r.ys = starsL 1 xs ∧ r.zs = starsL 0 xs := by
  rcases h with ⟨_, h⟩ | ⟨h, _⟩
  · exact h
  · rw [hq] at h; simp at h
theorem SpP.no {d : Int} {xs : List (Int × Int)} {r : Sv} {E : Int} (h : SpP d xs r E) (hq : nameB d xs = false) : E = 14 ∧ r = Sv.none := by
  rcases h with ⟨h, _⟩ | ⟨_, h⟩
  · rw [hq] at h; simp at h
  · exact h
theorem SpP.same {d : Int} {xs : List (Int × Int)} {r r2 : Sv} {E E2 : Int} (h : SpP d xs r E) (k : SpP d xs r2 E2) : E2 = E ∧ r.same r2 = true := by
  rcases h with ⟨hq, h⟩ | ⟨hq, h⟩
  · have k' := k.ok hq
    exact ⟨by omega, by rw [Sv.same_iff, h.2.1, h.2.2.1, h.2.2.2, k'.2.1, k'.2.2.1, k'.2.2.2]; exact ⟨rfl, rfl, rfl⟩⟩
  · have k' := k.no hq
    exact ⟨by omega, by rw [h.2, k'.2, Sv.same_iff]; exact ⟨rfl, rfl, rfl⟩⟩
theorem SpP.bk {d : Int} {xs : List (Int × Int)} {r : Sv} {E : Int} (h : SpP d xs r E) (hq : nameB d xs = true) (hm : mayB d xs = true) (hv : LvL d xs) : MayP r.xs r.ys r.zs ∧ Bk r.xs r.ys r.zs xs := by
  obtain ⟨_, h1, h2, h3⟩ := h.ok hq
  obtain ⟨rfl, hc, hl⟩ := name_levels hq hm hv
  rw [h1, h2, h3]
  exact ⟨stars_may hc.1 (mayB_iff.1 hm).2.1, Bk.of hc hl⟩
theorem SpP.back {A B C : List Int} {ps : List (Int × Int)} {r : Sv} {E : Int} (h : SpP 2 ps r E) (hB : Bk A B C ps) (hm : MayP A B C) : E = 0 ∧ r.xs = A ∧ r.ys = B ∧ r.zs = C := by
  obtain ⟨h0, h1, h2, h3⟩ := h.ok hB.names
  obtain ⟨k1, k2, k3⟩ := hB.split hm
  exact ⟨h0, h1.trans k1, h2.trans k2, h3.trans k3⟩
@[go_sem] theorem run_fieldL (w : World) (x : Int) (so : Option Addr) (n co : Nat) : (Instr.field 24 (.agg #[.int .u8 x, .slice so n co]) 1).run Try.prog w = .ok (.slice so n co) w := by kernel_rfl
theorem lb_nil (w : World) (d : Int) (hd : 0 ≤ d ∧ d ≤ 5) : Lb w d none 0 0 [] := ⟨RowG.nil _ _, ⟨hd, fun p hp => by simp at hp⟩, List.Pairwise.nil, by omega⟩
theorem bk_three : Bk [3] [] [] [(3, 4)] := by
  have h := Bk.of (ps := [(3, 4)]) ⟨List.pairwise_singleton _ _, by simp⟩ (by simp)
  have e1 : starsL 4 [((3 : Int), (4 : Int))] = [3] := by decide
  have e2 : starsL 1 [((3 : Int), (4 : Int))] = [] := by decide
  have e3 : starsL 0 [((3 : Int), (4 : Int))] = [] := by decide
  rwa [e1, e2, e3] at h
theorem may_three : MayP [3] [] [] := ⟨⟨srt_one _, Srt.nil, Srt.nil⟩, ⟨fun z _ h => by simp at h, fun z _ h => by simp at h, fun z _ h => by simp at h⟩, by decide⟩

set_option maxHeartbeats 4000000 in
theorem begun11_true (w : World) : Calls Try.prog 9 #[] w fun e w' => e = .returned (.bool true) ∧ Below w.heap.size w w' := by
  go_enter Try.func9, Try.ntmps9
  have HK : Hid _ := lit_lab w 4 (by omega) w.heap.size rfl
  go_wp2_with fail
  obtain ⟨W0, hW0⟩ : ∃ V, V = (w.alloc (Obj.cells #[.int .u16 3, .int .u8 4] 40)).alloc (Obj.cells #[.int .u8 2, .slice (some ⟨w.heap.size, 0, none⟩) 1 1] 24) := ⟨_, rfl⟩
  rw [← hW0] at HK ⊢
  clear hW0
  have hon := (HK.out _ (Below.refl _ _)).2.2.1
  have hbw := (HK.out _ (Below.refl _ _)).2.2.2
  refine (split_any 2 _ 1 1 [(3, 4)] _ hon.lb).mono ?_
  rintro e w1 ⟨⟨a1, n1, c1, l1, a2, n2, c2, l2, a3, n3, c3, l3⟩, E, rfl, hr, HS, hb1⟩
  obtain ⟨rfl, rfl, rfl, rfl⟩ := HS.out.back bk_three may_three
  obtain rfl : 1 = n1 := hr.r1.len
  clear HS hon
  have hbw1 := ext_trans hbw hb1
  go_wp2_with fail
  refine (split_any 3 none 0 0 [] _ (lb_nil _ 3 (by omega))).mono ?_
  rintro e w2 ⟨⟨d1, m1, f1, g1, d2, m2, f2, g2, d3, m3, f3, g3⟩, E2, rfl, hr2, HS2, hb2⟩
  obtain ⟨rfl, hnone⟩ := HS2.out.no (by decide)
  clear HS2 hr2 hnone
  have hb12 := ext_trans (below_alloc w1 (Obj.cells #[.slice a1 1 c1, .slice a2 n2 c2, .slice a3 n3 c3] 27)) hb2
  have q0 : w2.cell? ⟨w1.heap.size, 0, none⟩ = some (.slice a1 1 c1) := by rw [hb2.cell (by simp)]; simp
  have q1 : w2.cell? ⟨w1.heap.size, 1, none⟩ = some (.slice a2 n2 c2) := by rw [hb2.cell (by simp)]; simp
  have q2 : w2.cell? ⟨w1.heap.size, 2, none⟩ = some (.slice a3 n3 c3) := by rw [hb2.cell (by simp)]; simp
  have hx : (⟨a1, 1, c1, [3], a2, n2, c2, [], a3, n3, c3, []⟩ : Sv).In (w2.alloc (Obj.cells #[.slice d1 m1 f1, .slice d2 m2 f2, .slice d3 m3 f3] 27)) := hr.below (ext_trans hb12 (below_alloc _ _))
  have hlt : w1.heap.size < w2.heap.size := (Nat.lt_of_lt_of_le (by simp) hb2.size)
  go_wp2_with fail
  refine (trBack_is (⟨a1, 1, c1, [3], a2, n2, c2, [], a3, n3, c3, []⟩ : Sv) _ hx may_three).mono ?_
  rintro e w3 ⟨so, k, co, ps, rfl, hlb, HB, hb3⟩
  obtain rfl := HB.out.uniq bk_three
  obtain rfl : 1 = k := hlb.row.len
  go_wp2_with fail
  go_ret
  exact ⟨rfl, ext_trans hbw1 (ext_trans hb12 (ext_trans (below_alloc _ _) hb3))⟩
end Go.Proofs.Ytdoemkncgfgkhaa
