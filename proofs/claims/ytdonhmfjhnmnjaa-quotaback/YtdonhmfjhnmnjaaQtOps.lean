/- What quota does to a box that has nothing but numbers, and the document's own: contracts. -/
import Derived.Test.YtdonhmfjhnmnjaaRows
import Derived.Test.YtdonhmfjhnmnjaaBytes
import Derived.BigQuiet
import Derived.Lib.MinMax
namespace Go.Proofs.Ytdonhmfjhnmnjaa
open Go.RowKit
set_option maxRecDepth 100000

/-- An object that has nothing but numbers: its cells. -/
abbrev ov (i k d q u n : Int) : Value := .agg #[.int .u64 i, .int .i64 k, .int .u8 d, .slice none 0 0, .slice none 0 0, .slice none 0 0, .slice none 0 0, .int .i64 q, .int .i64 u, .int .i64 n, .slice none 0 0, .slice none 0 0, .slice none 0 0]
/-- The numbers from -2^63 on. -/
def I64 (x : Int) : Prop := -9223372036854775808 ≤ x ∧ x < 9223372036854775808

abbrev Obj13 (cs : Array Value) : Obj := .cells cs 32 (0, 0)
theorem heap_second (w : World) (x y : Obj) : ((w.alloc x).alloc y).heap[w.heap.size + 1]? = some y := by
  have h := heap_alloc_new (w.alloc x) y
  simpa using h
theorem two_allocsQ (w : World) (x y : Obj) : Below w.heap.size w ((w.alloc x).alloc y) := ext_trans (below_alloc _ _) (below_alloc _ _)
/-- A call that hands back an object by a variable of its own. -/
theorem ret_ov {fn : Func} {p : Tmp} (h : fn.results = #[.cell p 32]) (tmps : Array Value) (w : World) (g : Nat) (i k d q u n : Int) (hp : tmps.getD p undef = .pointer (some ⟨g, 0, none⟩))
    (hg : w.heap[g]? = some (.cells #[.int .u64 i, .int .i64 k, .int .u8 d, .slice none 0 0, .slice none 0 0, .slice none 0 0, .slice none 0 0, .int .i64 q, .int .i64 u, .int .i64 n, .slice none 0 0, .slice none 0 0, .slice none 0 0] 32 (0, 0))) :
    (results fn tmps).run Try.prog w = .ok (ov i k d q u n) w :=
  results_cell_row h tmps w g 32 _ (0, 0) _ hp hg Try.underlying32 rfl (by kernel_rfl)
/-- .. and how it went. -/
theorem ret_ov2 {fn : Func} {p v : Tmp} (h : fn.results = #[.cell p 32, .tmp v]) (tmps : Array Value) (w : World) (g : Nat) (i k d q u n : Int) (hp : tmps.getD p undef = .pointer (some ⟨g, 0, none⟩))
    (hg : w.heap[g]? = some (.cells #[.int .u64 i, .int .i64 k, .int .u8 d, .slice none 0 0, .slice none 0 0, .slice none 0 0, .slice none 0 0, .int .i64 q, .int .i64 u, .int .i64 n, .slice none 0 0, .slice none 0 0, .slice none 0 0] 32 (0, 0))) :
    (results fn tmps).run Try.prog w = .ok (.tuple #[ov i k d q u n, tmps.getD v undef]) w := by
  have hp' : tmps[p]?.getD undef = .pointer (some ⟨g, 0, none⟩) := by simpa using hp
  simp [results, h, hp', asAddr, run_loadVar_row w g 32 32 _ (0, 0) _ hg Try.underlying32 rfl (by kernel_rfl)]

theorem cloneP_nil (w : World) : Calls Try.prog 19 #[.slice none 0 0] w fun e w' => e = .returned (.slice none 0 0) ∧ w' = w := by
  have hq := fun W => Lib.run_eql_slice_nil (P := Try.prog) W 23 50 none 0 0 0 0 Try.underlying23
  go_enter Try.func19, Try.ntmps19
  go_wp2_with fail
  go_ret
  exact ⟨rfl, rfl⟩
theorem cloneW_nil (w : World) : Calls Try.prog 20 #[.slice none 0 0] w fun e w' => e = .returned (.slice none 0 0) ∧ w' = w := by
  have hq := fun W => Lib.run_eql_slice_nil (P := Try.prog) W 26 33 none 0 0 0 0 Try.underlying26
  go_enter Try.func20, Try.ntmps20
  go_wp2_with fail
  go_ret
  exact ⟨rfl, rfl⟩
theorem cloneB_nil (w : World) : Calls Try.prog 21 #[.slice none 0 0] w fun e w' => e = .returned (.slice none 0 0) ∧ w' = w := by
  have hq := fun W => Lib.run_eql_slice_nil (P := Try.prog) W 29 5 none 0 0 0 0 Try.underlying29
  go_enter Try.func21, Try.ntmps21
  go_wp2_with fail
  go_ret
  exact ⟨rfl, rfl⟩
theorem cloneR_nil (w : World) : Calls Try.prog 23 #[.slice none 0 0] w fun e w' => e = .returned (.slice none 0 0) ∧ w' = w := by
  have hq := fun W => Lib.run_eql_slice_nil (P := Try.prog) W 30 29 none 0 0 0 0 Try.underlying30
  go_enter Try.func23, Try.ntmps23
  go_wp2_with fail
  go_ret
  exact ⟨rfl, rfl⟩
theorem letters_nil (w : World) : Calls Try.prog 22 #[.slice none 0 0] w fun e w' => e = .returned (.slice none 0 0) ∧ w' = w := by
  go_enter Try.func22, Try.ntmps22
  go_wp2_with fail
  refine (cloneR_nil _).mono ?_
  rintro e w1 ⟨rfl, rfl⟩
  go_wp2_with fail
  go_loop [9] (fun i => i = .int .i64 0) (fun _ => 0)
  case atStart => rfl
  case round =>
    obtain rfl := hrel
    go_wp2_with fail
    go_ret
    exact ⟨rfl, rfl⟩
set_option maxHeartbeats 1000000 in
theorem using_nil (i k d q u n v : Int) (w : World) :
    Calls Try.prog 14 #[ov i k d q u n, .int .i64 v] w fun e w' => e = .returned (ov i k d q v n) ∧ Below w.heap.size w w' := by
  go_enter Try.func14, Try.ntmps14
  go_wp2_with fail
  refine (cloneP_nil _).mono ?_
  rintro e w1 ⟨rfl, rfl⟩
  go_wp2_with fail
  refine (cloneW_nil _).mono ?_
  rintro e w1 ⟨rfl, rfl⟩
  go_wp2_with fail
  refine (cloneW_nil _).mono ?_
  rintro e w1 ⟨rfl, rfl⟩
  go_wp2_with fail
  refine (cloneW_nil _).mono ?_
  rintro e w1 ⟨rfl, rfl⟩
  go_wp2_with fail
  refine (cloneB_nil _).mono ?_
  rintro e w1 ⟨rfl, rfl⟩
  go_wp2_with fail
  refine (cloneW_nil _).mono ?_
  rintro e w1 ⟨rfl, rfl⟩
  go_wp2_with fail
  refine (letters_nil _).mono ?_
  rintro e w1 ⟨rfl, rfl⟩
  go_wp2_with fail
  refine bodyPost_ret (ret_ov rfl _ _ (w.heap.size + 1) i k d q v n rfl (heap_second _ _ _)) rfl ?_
  exact ⟨rfl, two_allocsQ _ _ _⟩

/-- What Add answers. -/
def addE (q u c : Int) : Int := if c < 0 then 1 else if q - u < c then 10 else 0
/-- The box that Add answers, where it may. -/
def addB (i k d q u n c : Int) : Value := if addE q u c = 0 then ov i k d q (u + c) n else ov 0 0 0 0 0 0
def subU (u c : Int) : Int := if c < 0 then u else if u < c then 0 else u - c
theorem addE_neg {q u c : Int} (h : c < 0) : addE q u c = 1 := if_pos h
theorem addE_full {q u c : Int} (h : ¬ c < 0) (h2 : q - u < c) : addE q u c = 10 := by unfold addE; rw [if_neg h, if_pos h2]
theorem addE_ok {q u c : Int} (h : ¬ c < 0) (h2 : ¬ q - u < c) : addE q u c = 0 := by unfold addE; rw [if_neg h, if_neg h2]

set_option maxHeartbeats 1000000 in
theorem add_nil (i k d q u n c : Int) (w : World) (hq : 0 ≤ u ∧ u ≤ q ∧ q ≤ 400) (hc : I64 c) :
    Calls Try.prog 7 #[ov i k d q u n, .int .i64 c] w fun e w' => e = .returned (.tuple #[addB i k d q u n c, .int .i64 (addE q u c)]) ∧ Below w.heap.size w w' := by
  have hc' := hc
  unfold I64 at hc'
  unfold addB
  by_cases h : c < 0
  · rw [addE_neg h]
    go_enter Try.func7, Try.ntmps7
    go_wp2_with fail
    refine bodyPost_ret (ret_ov2 rfl _ _ (w.heap.size + 1) 0 0 0 0 0 0 rfl (heap_second _ _ _)) rfl ?_
    exact ⟨rfl, two_allocsQ _ _ _⟩
  by_cases h2 : q - u < c
  · rw [addE_full h h2]
    go_enter Try.func7, Try.ntmps7
    go_wp2_with fail
    refine bodyPost_ret (ret_ov2 rfl _ _ (w.heap.size + 1) 0 0 0 0 0 0 rfl (heap_second _ _ _)) rfl ?_
    exact ⟨rfl, two_allocsQ _ _ _⟩
  · rw [addE_ok h h2]
    go_enter Try.func7, Try.ntmps7
    go_wp2_with fail
    refine (using_nil i k d q u n (u + c) _).mono ?_
    rintro e w1 ⟨rfl, b1⟩
    have hg := (b1.block (w.heap.size + 1) (by simp)).trans (heap_second _ _ _)
    have hb := ext_trans (two_allocsQ _ _ _) b1
    go_wp2_with (refine wpList_store_row rfl 32 (.tmp 4) (.tmp 22) rfl (w.heap.size + 1) _ rfl rfl 32 _ hg (by kernel_rfl) rfl (by kernel_rfl) ?_)
    refine bodyPost_ret (ret_ov2 rfl _ _ (w.heap.size + 1) i k d q (u + c) n rfl (setRow_heap _ _ _ _ _ _ hg)) rfl ?_
    exact ⟨rfl, below_setRow hb (Nat.le_succ _) _⟩
set_option maxHeartbeats 1000000 in
theorem refAdd_nil (i k d q u n c : Int) (w : World) (hq : 0 ≤ u ∧ u ≤ q ∧ q ≤ 400) (hc : I64 c) :
    Calls Try.prog 8 #[ov i k d q u n, .int .i64 c] w fun e w' => e = .returned (.tuple #[addB i k d q u n c, .int .i64 (addE q u c)]) ∧ Below w.heap.size w w' := by
  have hc' := hc
  unfold I64 at hc'
  unfold addB
  by_cases h : c < 0
  · rw [addE_neg h]
    go_enter Try.func8, Try.ntmps8
    go_wp2_with fail
    refine bodyPost_ret (ret_ov2 rfl _ _ (w.heap.size + 1) 0 0 0 0 0 0 rfl (heap_second _ _ _)) rfl ?_
    exact ⟨rfl, two_allocsQ _ _ _⟩
  by_cases h2 : q - u < c
  · rw [addE_full h h2]
    go_enter Try.func8, Try.ntmps8
    go_wp2_with fail
    refine bodyPost_ret (ret_ov2 rfl _ _ (w.heap.size + 1) 0 0 0 0 0 0 rfl (heap_second _ _ _)) rfl ?_
    exact ⟨rfl, two_allocsQ _ _ _⟩
  · rw [addE_ok h h2]
    go_enter Try.func8, Try.ntmps8
    go_wp2_with fail
    refine bodyPost_ret (ret_ov2 rfl _ _ (w.heap.size + 1) i k d q (u + c) n rfl (heap_second _ _ _)) rfl ?_
    exact ⟨rfl, two_allocsQ _ _ _⟩
theorem subU_neg {u c : Int} (h : c < 0) : subU u c = u := if_pos h
theorem subU_all {u c : Int} (h : ¬ c < 0) (h2 : u < c) : subU u c = 0 := by unfold subU; rw [if_neg h, if_pos h2]
theorem subU_some {u c : Int} (h : ¬ c < 0) (h2 : ¬ u < c) : subU u c = u - c := by unfold subU; rw [if_neg h, if_neg h2]
set_option maxHeartbeats 1000000 in
theorem sub_nil (i k d q u n c : Int) (w : World) (hq : 0 ≤ u ∧ u ≤ q ∧ q ≤ 400) (hc : I64 c) :
    Calls Try.prog 12 #[ov i k d q u n, .int .i64 c] w fun e w' => e = .returned (ov i k d q (subU u c) n) ∧ Below w.heap.size w w' := by
  have hc' := hc
  unfold I64 at hc'
  by_cases h : c < 0
  · rw [subU_neg h]
    go_enter Try.func12, Try.ntmps12
    go_wp2_with fail
    refine (using_nil i k d q u n u _).mono ?_
    rintro e w1 ⟨rfl, b1⟩
    have hg := (b1.block (w.heap.size + 1) (by simp)).trans (heap_second _ _ _)
    have hb := ext_trans (two_allocsQ _ _ _) b1
    go_wp2_with (refine wpList_store_row rfl 32 (.tmp 4) (.tmp 10) rfl (w.heap.size + 1) _ rfl rfl 32 _ hg (by kernel_rfl) rfl (by kernel_rfl) ?_)
    refine bodyPost_ret (ret_ov rfl _ _ (w.heap.size + 1) i k d q u n rfl (setRow_heap _ _ _ _ _ _ hg)) rfl ?_
    exact ⟨rfl, below_setRow hb (Nat.le_succ _) _⟩
  by_cases h2 : u < c
  · rw [subU_all h h2]
    go_enter Try.func12, Try.ntmps12
    go_wp2_with fail
    refine (using_nil i k d q u n 0 _).mono ?_
    rintro e w1 ⟨rfl, b1⟩
    have hg := (b1.block (w.heap.size + 1) (by simp)).trans (heap_second _ _ _)
    have hb := ext_trans (two_allocsQ _ _ _) b1
    go_wp2_with (refine wpList_store_row rfl 32 (.tmp 4) (.tmp 16) rfl (w.heap.size + 1) _ rfl rfl 32 _ hg (by kernel_rfl) rfl (by kernel_rfl) ?_)
    refine bodyPost_ret (ret_ov rfl _ _ (w.heap.size + 1) i k d q 0 n rfl (setRow_heap _ _ _ _ _ _ hg)) rfl ?_
    exact ⟨rfl, below_setRow hb (Nat.le_succ _) _⟩
  · rw [subU_some h h2]
    go_enter Try.func12, Try.ntmps12
    go_wp2_with fail
    refine (using_nil i k d q u n (u - c) _).mono ?_
    rintro e w1 ⟨rfl, b1⟩
    have hg := (b1.block (w.heap.size + 1) (by simp)).trans (heap_second _ _ _)
    have hb := ext_trans (two_allocsQ _ _ _) b1
    go_wp2_with (refine wpList_store_row rfl 32 (.tmp 4) (.tmp 22) rfl (w.heap.size + 1) _ rfl rfl 32 _ hg (by kernel_rfl) rfl (by kernel_rfl) ?_)
    refine bodyPost_ret (ret_ov rfl _ _ (w.heap.size + 1) i k d q (u - c) n rfl (setRow_heap _ _ _ _ _ _ hg)) rfl ?_
    exact ⟨rfl, below_setRow hb (Nat.le_succ _) _⟩
set_option maxHeartbeats 1000000 in
theorem refSub_nil (i k d q u n c : Int) (w : World) (hq : 0 ≤ u ∧ u ≤ q ∧ q ≤ 400) (hc : I64 c) :
    Calls Try.prog 13 #[ov i k d q u n, .int .i64 c] w fun e w' => e = .returned (ov i k d q (subU u c) n) ∧ Below w.heap.size w w' := by
  have hc' := hc
  unfold I64 at hc'
  by_cases h : 0 < c
  · have hm : min c u = u - subU u c := by
      unfold subU
      rw [if_neg (by omega)]
      split <;> omega
    have hb : 0 ≤ subU u c ∧ subU u c ≤ 400 := by unfold subU; rw [if_neg (by omega)]; split <;> omega
    have hs : u - min c u = subU u c := by omega
    generalize subU u c = z at hb hs
    clear hm
    go_enter Try.func13, Try.ntmps13
    go_wp2_with fail
    refine bodyPost_ret (ret_ov rfl _ _ (w.heap.size + 1) i k d q z n rfl (by rw [← hs]; exact heap_second _ _ _)) rfl ?_
    exact ⟨rfl, two_allocsQ _ _ _⟩
  · have hs : u = subU u c := by unfold subU; split <;> (try split) <;> omega
    rw [← hs]
    clear hs
    go_enter Try.func13, Try.ntmps13
    go_wp2_with fail
    refine bodyPost_ret (ret_ov rfl _ _ (w.heap.size + 1) i k d q u n rfl (heap_second _ _ _)) rfl ?_
    exact ⟨rfl, two_allocsQ _ _ _⟩

/-- What an object costs. -/
def costV (k q : Int) (m : Nat) : Int := if k = 1 then 1 + q else if k = 2 then 1 + (m : Int) else if k = 3 then 2 else if k = 4 then 8 else 0
set_option maxHeartbeats 1000000 in
theorem cost_any (i k d q u n : Int) (v3 v4 v5 v6 v11 v12 : Value) (a : Option Addr) (m cap : Nat) (w : World) (hq : 0 ≤ q ∧ q ≤ 400) (hm : m ≤ 1000000) :
    Calls Try.prog 9 #[.agg #[.int .u64 i, .int .i64 k, .int .u8 d, v3, v4, v5, v6, .int .i64 q, .int .i64 u, .int .i64 n, .slice a m cap, v11, v12]] w fun e w' => e = .returned (.int .i64 (costV k q m)) ∧ Below w.heap.size w w' := by
  unfold costV
  by_cases h1 : k = 1
  · subst h1
    go_enter Try.func9, Try.ntmps9
    go_wp2_with fail
    go_ret
    exact ⟨rfl, below_alloc _ _⟩
  by_cases h2 : k = 2
  · subst h2
    go_enter Try.func9, Try.ntmps9
    go_wp2_with fail
    go_ret
    exact ⟨rfl, below_alloc _ _⟩
  by_cases h3 : k = 3
  · subst h3
    go_enter Try.func9, Try.ntmps9
    go_wp2_with fail
    go_ret
    exact ⟨rfl, below_alloc _ _⟩
  by_cases h4 : k = 4
  · subst h4
    go_enter Try.func9, Try.ntmps9
    go_wp2_with fail
    go_ret
    exact ⟨rfl, below_alloc _ _⟩
  · rw [if_neg h1, if_neg h2, if_neg h3, if_neg h4]
    go_enter Try.func9, Try.ntmps9
    go_wp2_with fail
    go_ret
    exact ⟨rfl, below_alloc _ _⟩
set_option maxHeartbeats 1000000 in
theorem refCost_any (i k d q u n : Int) (v3 v4 v5 v6 v11 v12 : Value) (a : Option Addr) (m cap : Nat) (w : World) (hq : 0 ≤ q ∧ q ≤ 400) (hm : m ≤ 1000000) :
    Calls Try.prog 10 #[.agg #[.int .u64 i, .int .i64 k, .int .u8 d, v3, v4, v5, v6, .int .i64 q, .int .i64 u, .int .i64 n, .slice a m cap, v11, v12]] w fun e w' => e = .returned (.int .i64 (costV k q m)) ∧ Below w.heap.size w w' := by
  unfold costV
  by_cases h1 : k = 1
  · subst h1
    go_enter Try.func10, Try.ntmps10
    go_wp2_with fail
    go_ret
    exact ⟨rfl, below_alloc _ _⟩
  by_cases h2 : k = 2
  · subst h2
    go_enter Try.func10, Try.ntmps10
    go_wp2_with fail
    go_ret
    exact ⟨rfl, below_alloc _ _⟩
  by_cases h3 : k = 3
  · subst h3
    go_enter Try.func10, Try.ntmps10
    go_wp2_with fail
    go_ret
    exact ⟨rfl, below_alloc _ _⟩
  by_cases h4 : k = 4
  · subst h4
    go_enter Try.func10, Try.ntmps10
    go_wp2_with fail
    go_ret
    exact ⟨rfl, below_alloc _ _⟩
  · rw [if_neg h1, if_neg h2, if_neg h3, if_neg h4]
    go_enter Try.func10, Try.ntmps10
    go_wp2_with fail
    go_ret
    exact ⟨rfl, below_alloc _ _⟩
/-- An object in memory, cell by cell. -/
theorem cells_ov {W : World} {g : Nat} {i k d q u n : Int} (h : W.heap[g]? = some (.cells #[.int .u64 i, .int .i64 k, .int .u8 d, .slice none 0 0, .slice none 0 0, .slice none 0 0, .slice none 0 0, .int .i64 q, .int .i64 u, .int .i64 n, .slice none 0 0, .slice none 0 0, .slice none 0 0] 32 (0, 0))) :
    W.cell? ⟨g, 0, none⟩ = some (.int .u64 i) ∧ W.cell? ⟨g, 1, none⟩ = some (.int .i64 k) ∧ W.cell? ⟨g, 2, none⟩ = some (.int .u8 d) ∧ W.cell? ⟨g, 3, none⟩ = some (.slice none 0 0) ∧ W.cell? ⟨g, 4, none⟩ = some (.slice none 0 0) ∧ W.cell? ⟨g, 5, none⟩ = some (.slice none 0 0) ∧ W.cell? ⟨g, 6, none⟩ = some (.slice none 0 0) ∧ W.cell? ⟨g, 7, none⟩ = some (.int .i64 q) ∧ W.cell? ⟨g, 8, none⟩ = some (.int .i64 u) ∧ W.cell? ⟨g, 9, none⟩ = some (.int .i64 n) ∧ W.cell? ⟨g, 10, none⟩ = some (.slice none 0 0) ∧ W.cell? ⟨g, 11, none⟩ = some (.slice none 0 0) ∧ W.cell? ⟨g, 12, none⟩ = some (.slice none 0 0) := by
  refine ⟨?_, ?_, ?_, ?_, ?_, ?_, ?_, ?_, ?_, ?_, ?_, ?_, ?_⟩ <;> (rw [cell_of_row W g _ _ _ _ h]; rfl)
end Go.Proofs.Ytdonhmfjhnmnjaa
