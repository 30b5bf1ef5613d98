/- obj2 has begun; and which objects are light. -/
import Derived.Test.YtkmpmljohjelhaaN2Put
import Derived.Test.YtkmpmljohjelhaaN2Take
namespace Go.Proofs.Ytkmpmljohjelhaa
open Go.RowKit
set_option maxRecDepth 100000
set_option linter.unusedVariables false

def o18 : Od := ⟨67, 2, 0, [], [], [], [], 0, 0, 0, [9], [], []⟩
theorem o18_may : mayD2 o18 = true := by decide +kernel
theorem o18_ok : o18.Ok := ⟨⟨by decide, by decide⟩, fun _ h => by simp [o18] at h, fun _ h => by simp [o18] at h, fun _ h => by simp [o18] at h, fun _ h => by simp [o18] at h, fun _ h => by simp [o18] at h⟩
theorem o18_enc : (encD2 o18).length = 16 ∧ (encD2 o18).getD 0 0 = 2 := ⟨by decide +kernel, rfl⟩
theorem o18_take : tE2 (encD2 o18) = 0 ∧ tkO2 (encD2 o18) = o18 := by
  have h1 := tE2_put o18 o18_ok o18_may []
  have h2 := tkO2_put o18 o18_ok o18_may []
  rw [List.append_nil] at h1 h2
  exact ⟨h1, h2⟩
set_option maxHeartbeats 2000000 in
theorem begun18_true (w : World) : Calls Try.prog 7 #[] w fun e w' => e = .returned (.bool true) ∧ Below w.heap.size w w' := by
  obtain ⟨W, hW⟩ : ∃ W, W = (w.alloc (.cells #[.int .u8 9] 5)).alloc (.cells #[.int .u64 67, .int .i64 2, .int .u8 0, .slice none 0 0, .slice none 0 0, .slice none 0 0, .slice none 0 0, .int .i64 0, .int .i64 0, .int .i64 0, .slice (some ⟨w.heap.size, 0, none⟩) 1 1, .slice none 0 0, .slice none 0 0] 32) := ⟨_, rfl⟩
  have hb : Below w.heap.size w W := by rw [hW]; exact ext_trans (below_alloc _ _) (below_alloc _ _)
  have hr : Row W (some ⟨w.heap.size, 0, none⟩) 1 1 [9] := by rw [hW]; exact (row_lit w 5 [9] 1 rfl (by omega) (Byt.one (by omega))).below (below_alloc _ _)
  have hx : Ob.In W ⟨67, 2, 0, none, 0, 0, none, 0, 0, none, 0, 0, none, 0, 0, 0, 0, 0, some ⟨w.heap.size, 0, none⟩, 1, 1, none, 0, 0, none, 0, 0, [], [], [], [], [9], [], []⟩ :=
    ⟨(⟨by decide, by decide⟩ : U 67), (by decide : (-9223372036854775808 : Int) ≤ 2 ∧ (2 : Int) < 9223372036854775808), (by decide : (0 : Int) ≤ 0 ∧ (0 : Int) < 256), RowG.nil _ _, RowW.nil _, RowW.nil _, RowW.nil _, hr, RowW.nil _, RowR.nil _⟩
  have hp := obPut2_any _ W hx
  have HW : Hid (W = (w.alloc (.cells #[.int .u8 9] 5)).alloc (.cells #[.int .u64 67, .int .i64 2, .int .u8 0, .slice none 0 0, .slice none 0 0, .slice none 0 0, .slice none 0 0, .int .i64 0, .int .i64 0, .int .i64 0, .slice (some ⟨w.heap.size, 0, none⟩) 1 1, .slice none 0 0, .slice none 0 0] 32)) := hW
  clear hW hr
  rw [show Ob.od ⟨67, 2, 0, none, 0, 0, none, 0, 0, none, 0, 0, none, 0, 0, 0, 0, 0, some ⟨w.heap.size, 0, none⟩, 1, 1, none, 0, 0, none, 0, 0, [], [], [], [], [9], [], []⟩ = o18 from rfl] at hp
  dsimp only at hp
  go_enter Try.func7, Try.ntmps7
  go_wp2_with fail
  rw [← HW.out]
  refine hp.mono ?_
  rintro e w1 ⟨a, n, c, E, rfl, b1, h⟩
  rcases h.symm with ⟨h, _⟩ | ⟨-, rfl, g, rfl, o⟩
  · rw [o18_may] at h; exact absurd h (by simp)
  have hn : n = 16 := by have := o.row.len; rw [o18_enc.1] at this; omega
  subst hn
  have c0 := o.cell 0 (by omega)
  rw [o18_enc.2] at c0
  have ht := takeN_any _ _ _ _ w1 o.row (by omega)
  rw [o18_take.1] at ht
  replace b1 := ext_trans hb b1
  clear o hx hp
  go_wp2_with fail
  refine ht.mono ?_
  rintro e w2 ⟨x, rfl, b2, hx, hod⟩
  replace hod := hod (by first | rfl | trivial)
  rw [o18_take.2] at hod
  have hxi : x.i = 67 := congrArg Od.i hod
  have hxs : x.xs = [9] := congrArg Od.xs hod
  have hxn : x.n10 = 1 := by have := hx.r10.len; rw [hxs] at this; simpa using this.symm
  have d0 : w2.cell? ⟨g, 0, none⟩ = some (.int .u8 2) := by rw [b2.cell (lt_of_cell c0)]; exact c0
  have dl := lt_of_cell d0
  replace b2 := ext_trans b1 b2
  clear hod hxs ht c0 b1
  rw [hxi, hxn]
  go_wp2_with fail
  go_ret
  exact ⟨rfl, ext_trans b2 (below_alloc _ _)⟩

/-- What light answers: nothing, or that it is. -/
def LightN (x : Ob) (w : World) (e : Ending) (w' : World) : Prop := ∃ b : Bool, e = .returned (.bool b) ∧ Below w.heap.size w w' ∧ (b = true → x.n3 ≤ 30 ∧ x.n10 ≤ 100 ∧ x.n11 ≤ 30 ∧ x.n12 ≤ 10)
set_option maxHeartbeats 2000000 in
theorem light18_any (x : Ob) (w : World) : Calls Try.prog 8 #[.agg #[.int .u64 x.i, .int .i64 x.k, .int .u8 x.d, .slice x.a3 x.n3 x.m3, .slice x.a4 x.n4 x.m4, .slice x.a5 x.n5 x.m5, .slice x.a6 x.n6 x.m6, .int .i64 x.q, .int .i64 x.u, .int .i64 x.n, .slice x.a10 x.n10 x.m10, .slice x.a11 x.n11 x.m11, .slice x.a12 x.n12 x.m12]] w fun e w' => LightN x w e w' := by
  by_cases h10 : 100 < x.n10
  · have h : ¬ (x.n10 : Int) ≤ 100 := by omega
    go_enter Try.func8, Try.ntmps8
    go_wp2_with fail
    go_ret
    exact Exists.intro false ⟨rfl, below_alloc _ _, fun h => by simp at h⟩
  have g10 : (x.n10 : Int) ≤ 100 := by omega
  by_cases h11 : 30 < x.n11
  · have h : ¬ (x.n11 : Int) ≤ 30 := by omega
    go_enter Try.func8, Try.ntmps8
    go_wp2_with fail
    go_ret
    exact Exists.intro false ⟨rfl, below_alloc _ _, fun h => by simp at h⟩
  have g11 : (x.n11 : Int) ≤ 30 := by omega
  by_cases h12 : 10 < x.n12
  · have h : ¬ (x.n12 : Int) ≤ 10 := by omega
    go_enter Try.func8, Try.ntmps8
    go_wp2_with fail
    go_ret
    exact Exists.intro false ⟨rfl, below_alloc _ _, fun h => by simp at h⟩
  have g12 : (x.n12 : Int) ≤ 10 := by omega
  by_cases h3 : 30 < x.n3
  · have h : ¬ (x.n3 : Int) ≤ 30 := by omega
    go_enter Try.func8, Try.ntmps8
    go_wp2_with fail
    go_ret
    exact Exists.intro false ⟨rfl, below_alloc _ _, fun h => by simp at h⟩
  have g3 : (x.n3 : Int) ≤ 30 := by omega
  have HH : Hid (x.n3 ≤ 30 ∧ x.n10 ≤ 100 ∧ x.n11 ≤ 30 ∧ x.n12 ≤ 10) := ⟨by omega, by omega, by omega, by omega⟩
  clear h3 h10 h11 h12
  go_enter Try.func8, Try.ntmps8
  go_wp2_with fail
  go_ret
  exact Exists.intro _ ⟨rfl, below_alloc _ _, fun _ => HH.out⟩
end Go.Proofs.Ytkmpmljohjelhaa
