/- What New, Take, Free, Load, Store and Used answer, and what they leave: contracts, for every memory of frames. -/
import Derived.Test.YtdmdamidknbjoaaFrMem
import Derived.Lib.MinMax
import Derived.BigQuiet
namespace Go.Proofs.Ytdmdamidknbjoaa
open Go.RowKit
set_option maxRecDepth 100000

theorem infoRow : (Try.prog.info? 29).map (fun i => (i.zero, i.size, i.bytes)) = some (some (.slice none 0 0), 1, 24) := by kernel_rfl
theorem infoByte : (Try.prog.info? 5).map (fun i => (i.zero, i.size, i.bytes)) = some (some (.int .u8 0), 1, 1) := by kernel_rfl

/-- A new memory of k frames. -/
theorem mem_new (w : World) (k : Nat) (hk : k ≤ 512) (p g : Nat) (hg : w.heap.size = g) (hp : g + 1 = p) :
    Mem ((w.alloc (.cells (madeCells #[.slice none 0 0] k) 29)).alloc (.cells #[.slice (some ⟨g, 0, none⟩) k k] 68)) (fun x => x = g ∨ x = p) p k (fun _ => none) g (fun _ => 0) := by
  subst hg
  have h1 : (w.alloc (.cells (madeCells #[.slice none 0 0] k) 29)).rowIs w.heap.size 29 k (fun _ => .slice none 0 0) := World.rowIs_made w _ k 29
  refine ⟨⟨(h1.alloc _).congr fun i _ => rfl, fun i f hf => by simp at hf, fun i j hi => absurd rfl hi, fun i f j hf => by simp at hf, .inl rfl, fun x hx => ?_, fun _ _ => rfl⟩, ?_, .inr rfl, by omega, fun i f hf => by simp at hf, hk⟩
  · simp; omega
  · have := heap_alloc_new (w.alloc (.cells (madeCells #[.slice none 0 0] k) 29)) (.cells #[.slice (some ⟨w.heap.size, 0, none⟩) k k] 68)
    rw [← hp]
    simpa using this

set_option maxHeartbeats 400000 in
theorem new_any (n : Int) (k : Nat) (hk : min (max n 0) 512 = (k : Int)) (w : World) :
    Calls Try.prog 17 #[.int .i64 n] w fun e w' => ∃ p g b S, e = .returned (.pointer (some ⟨p, 0, none⟩)) ∧ Mem w' S p k (fun _ => none) g b ∧ Below w.heap.size w w' ∧ ∀ x, S x → w.heap.size ≤ x := by
  have hk5 : k ≤ 512 := by omega
  have hmk := run_make_row' (P := Try.prog) 27 29 (.slice none 0 0) 24 Try.underlying27 infoRow rfl .i64 .i64 k (by omega) (by omega)
  go_enter Try.func17, Try.ntmps17
  go_wp2
  go_ret
  refine ⟨_, _, _, _, rfl, mem_new w k hk5 _ _ rfl rfl, ?_, fun x hx => by omega⟩
  exact (below_alloc _ _).trans ((below_alloc _ _).mono (by simp))

theorem make_bytes (w : World) : (Instr.makeSlice 29 (.int .i64 16) (.int .i64 16)).run Try.prog w = .ok (.slice (some ⟨w.heap.size, 0, none⟩) 16 16) (w.alloc (.cells (madeCells #[.int .u8 0] 16) 5)) :=
  run_make_row' (P := Try.prog) 29 5 (.int .u8 0) 1 Try.underlying29 infoByte rfl .i64 .i64 16 (by omega) (by omega) w
theorem made_noughts : (madeCells #[.int .u8 0] 16).size = 16 ∧ ∀ j, j < 16 → (madeCells #[.int .u8 0] 16)[j]? = some (.int .u8 0) := by
  refine ⟨size_madeCells _ _, fun j hj => ?_⟩
  simp [madeCells, hj, Nat.mod_one]
theorem set_alloc (w : World) (a : Addr) (v : Value) (o : Obj) (h : a.block < w.heap.size) (x : Nat) : ((w.setCell a v).alloc o).heap[x]? = ((w.alloc o).setCell a v).heap[x]? := by
  have e1 : ((w.setCell a v).alloc o).heap = (w.setCell a v).heap.push o := rfl
  have e2 : (w.alloc o).heap = w.heap.push o := rfl
  rw [e1]
  simp only [World.setCell, e2, Array.getElem?_push, Array.getElem?_modify, Array.size_modify]
  by_cases hx : x = w.heap.size
  · subst hx
    simp
    intro hc
    omega
  · simp [hx]
theorem isFree_any (a : Option Addr) (n c : Nat) (w : World) : Calls Try.prog 31 #[.slice a n c] w fun e w' => e = .returned (.bool ((n : Int) == 0)) ∧ w' = w := by
  go_enter Try.func31, Try.ntmps31
  go_wp2
  go_ret
  exact ⟨rfl, rfl⟩
section
variable {w : World} {S : Nat → Prop} {p k g : Nat} {A : Mm} {b : Nat → Nat}
set_option maxHeartbeats 400000 in
theorem take_full (hM : Mem w S p k A g b) (h : ∀ i, i < k → A i ≠ none) : Calls Try.prog 28 #[.pointer (some ⟨p, 0, none⟩)] w fun e w' => e = .returned (.tuple #[.int .i64 0, .int .i64 9]) ∧ w' = w := by
  have f0 := hM.field
  have hk := hM.lid
  go_enter Try.func28, Try.ntmps28
  go_wp2_with fail
  go_loopw [13] (fun i wr => ∃ j : Nat, j ≤ k ∧ i = .int .i64 j ∧ wr = w) (fun i _ => k - (intOf i).toNat)
  case atStart => exact ⟨0, by omega, rfl, rfl⟩
  case round =>
    obtain ⟨j, hj, rfl, rfl⟩ := hrel
    by_cases e : j < k
    · obtain ⟨f, hf⟩ := Option.ne_none_iff_exists'.1 (h j e)
      have c0 := hM.tab.cell_some j hf
      have hp : (j : Int) < (k : Int) := by omega
      clear hM h
      go_wp2_with fail
      refine (isFree_any _ 16 16 _).mono ?_
      rintro e w1 ⟨rfl, rfl⟩
      go_wp2_with fail
      go_roundw
      case rel => exact ⟨j + 1, by omega, by go_num, by trivial⟩
      case measure => simp [intOf]; omega
    · obtain rfl : j = k := by omega
      go_wp2_with fail
      go_ret2
      exact ⟨rfl, rfl⟩
set_option maxHeartbeats 400000 in
theorem take_free (hM : Mem w S p k A g b) (m : Nat) (hm : m < k) (h1 : ∀ i, i < m → A i ≠ none) (h2 : A m = none) : Calls Try.prog 28 #[.pointer (some ⟨p, 0, none⟩)] w fun e w' =>
    e = .returned (.tuple #[.int .i64 m, .int .i64 0]) ∧ Mem w' (fun x => S x ∨ x = w.heap.size) p k (upd A m (some fun _ => 0)) g (upd b m w.heap.size) ∧ Chg S w w' := by
  have f0 := hM.field
  have hk := hM.lid
  have hgl := hM.tab.lt g hM.tab.sg
  have hpl := hM.tab.lt p hM.sp
  go_enter Try.func28, Try.ntmps28
  go_wp2_with fail
  go_loopw [13] (fun i wr => ∃ j : Nat, j ≤ m ∧ i = .int .i64 j ∧ wr = w) (fun i _ => m - (intOf i).toNat)
  case atStart => exact ⟨0, by omega, rfl, rfl⟩
  case round =>
    obtain ⟨j, hj, rfl, rfl⟩ := hrel
    by_cases e : j < m
    · obtain ⟨f, hf⟩ := Option.ne_none_iff_exists'.1 (h1 j e)
      have c0 := hM.tab.cell_some j hf
      have hp : (j : Int) < (k : Int) := by omega
      clear hM h1 h2
      go_wp2_with fail
      refine (isFree_any _ 16 16 _).mono ?_
      rintro e w1 ⟨rfl, rfl⟩
      go_wp2_with fail
      go_roundw
      case rel => exact ⟨j + 1, by omega, by go_num, by trivial⟩
      case measure => simp [intOf]; omega
    · obtain rfl : j = m := by omega
      have c0 := hM.tab.cell_none j hm h2
      have hp : (j : Int) < (k : Int) := by omega
      have fz := hM.frozen j
      have hmk := make_bytes
      have HM : Hid (Mem wr S p k A g b) := hM
      have H2 : Hid (A j = none) := h2
      clear hM h1 h2
      go_wp2_with fail
      refine (isFree_any _ 0 0 _).mono ?_
      rintro e w1 ⟨rfl, rfl⟩
      go_wp2_with fail
      go_region
      all_goals (go_wp2_with fail; go_ret2)
      have ht := HM.out.take j hm H2.out _ made_noughts w1.heap.size rfl
      have hsz : ((w1.alloc (.cells (madeCells #[.int .u8 0] 16) 5)).setCell ⟨g, j, none⟩ (.slice (some ⟨w1.heap.size, 0, none⟩) 16 16)).heap.size = w1.heap.size + 1 := by simp [World.setCell]
      refine ⟨rfl, ht.kept (fun x _ => ?_) (by rw [hsz]; simp [World.setCell]), ?_⟩
      · exact set_alloc w1 ⟨g, j, none⟩ _ _ hgl x
      · exact Chg.trans (Chg.set S w1 g j _ HM.out.tab.sg) (Chg.of_below ((below_alloc _ _).drew) (fun _ => False)) (fun x hx => hx.elim)
theorem taken_some (hM : Mem w S p k A g b) (i : Nat) (f : Fr) (hA : A i = some f) : Calls Try.prog 29 #[.pointer (some ⟨p, 0, none⟩), .int .i64 i] w fun e w' =>
    e = .returned (.tuple #[.slice (some ⟨b i, 0, none⟩) 16 16, .int .i64 0]) ∧ w' = w := by
  have f0 := hM.field
  have hk := hM.lid
  have hi := hM.tab.lt_of hA
  have c0 := hM.tab.cell_some i hA
  have hp : (i : Int) < (k : Int) := by omega
  have hp2 : decide ((i : Int) < 0) = false := by simp
  have hp3 : decide ((k : Int) ≤ (i : Int)) = false := by simp; omega
  clear hM hA
  go_enter Try.func29, Try.ntmps29
  go_wp2_with fail
  refine (isFree_any _ 16 16 _).mono ?_
  rintro e w1 ⟨rfl, rfl⟩
  go_wp2_with fail
  go_ret2
  exact ⟨rfl, rfl⟩
theorem taken_none (hM : Mem w S p k A g b) (n : Int) (hA : at_ A n = none) : Calls Try.prog 29 #[.pointer (some ⟨p, 0, none⟩), .int .i64 n] w fun e w' =>
    e = .returned (.tuple #[.slice none 0 0, .int .i64 7]) ∧ w' = w := by
  have f0 := hM.field
  have hk := hM.lid
  by_cases h0 : n < 0
  · clear hM hA
    go_enter Try.func29, Try.ntmps29
    go_wp2_with fail
    go_ret2
    exact ⟨rfl, rfl⟩
  · obtain ⟨i, rfl⟩ := Int.eq_ofNat_of_zero_le (show 0 ≤ n by omega)
    have hp2 : decide ((i : Int) < 0) = false := by simp
    rw [at_nat] at hA
    by_cases hi : i < k
    · have c0 := hM.tab.cell_none i hi hA
      have hp : (i : Int) < (k : Int) := by omega
      have hp3 : decide ((k : Int) ≤ (i : Int)) = false := by simp; omega
      clear hM hA h0
      go_enter Try.func29, Try.ntmps29
      go_wp2_with fail
      refine (isFree_any _ 0 0 _).mono ?_
      rintro e w1 ⟨rfl, rfl⟩
      go_wp2_with fail
      go_ret2
      exact ⟨rfl, rfl⟩
    · have hp3 : (k : Int) ≤ (i : Int) := by omega
      clear hM hA h0
      go_enter Try.func29, Try.ntmps29
      go_wp2_with fail
      go_ret2
      exact ⟨rfl, rfl⟩
theorem taken_nil (n : Int) (w : World) : Calls Try.prog 29 #[.pointer none, .int .i64 n] w fun e w' => e = .returned (.tuple #[.slice none 0 0, .int .i64 1]) ∧ w' = w := by
  go_enter Try.func29, Try.ntmps29
  go_wp2_with fail
  go_ret2
  exact ⟨rfl, rfl⟩
theorem take_nil (w : World) : Calls Try.prog 28 #[.pointer none] w fun e w' => e = .returned (.tuple #[.int .i64 0, .int .i64 1]) ∧ w' = w := by
  go_enter Try.func28, Try.ntmps28
  go_wp2_with fail
  go_ret2
  exact ⟨rfl, rfl⟩
theorem place_ok (hM : Mem w S p k A g b) (i j : Nat) (f : Fr) (hA : A i = some f) (hj : j < 16) : Calls Try.prog 30 #[.pointer (some ⟨p, 0, none⟩), .int .i64 i, .int .i64 j] w fun e w' =>
    e = .returned (.tuple #[.slice (some ⟨b i, j, none⟩) 1 (16 - j), .int .i64 0]) ∧ w' = w := by
  have hp1 : decide ((j : Int) < 0) = false := by simp
  have hp2 : decide ((16 : Int) ≤ (j : Int)) = false := by simp; omega
  have hp3 : ¬ 16 = j := by omega
  have hp4 : (j : Int) + 1 ≤ 16 := by omega
  go_enter Try.func30, Try.ntmps30
  go_wp2_with fail
  refine (taken_some hM i f hA).mono ?_
  rintro e w1 ⟨rfl, rfl⟩
  clear hM hA
  go_wp2_with fail
  go_ret2
  exact ⟨rfl, rfl⟩
theorem place_range (hM : Mem w S p k A g b) (i : Nat) (off : Int) (f : Fr) (hA : A i = some f) (ho : off < 0 ∨ 16 ≤ off) : Calls Try.prog 30 #[.pointer (some ⟨p, 0, none⟩), .int .i64 i, .int .i64 off] w fun e w' =>
    e = .returned (.tuple #[.slice none 0 0, .int .i64 11]) ∧ w' = w := by
  by_cases h0 : off < 0
  · go_enter Try.func30, Try.ntmps30
    go_wp2_with fail
    refine (taken_some hM i f hA).mono ?_
    rintro e w1 ⟨rfl, rfl⟩
    clear hM hA
    go_wp2_with fail
    go_ret2
    exact ⟨rfl, rfl⟩
  · have h1 : 16 ≤ off := by omega
    have h2 : decide (off < 0) = false := by simpa using h0
    clear h0 ho
    go_enter Try.func30, Try.ntmps30
    go_wp2_with fail
    refine (taken_some hM i f hA).mono ?_
    rintro e w1 ⟨rfl, rfl⟩
    clear hM hA
    go_wp2_with fail
    go_ret2
    exact ⟨rfl, rfl⟩
theorem place_none (hM : Mem w S p k A g b) (n off : Int) (hA : at_ A n = none) : Calls Try.prog 30 #[.pointer (some ⟨p, 0, none⟩), .int .i64 n, .int .i64 off] w fun e w' =>
    e = .returned (.tuple #[.slice none 0 0, .int .i64 7]) ∧ w' = w := by
  go_enter Try.func30, Try.ntmps30
  go_wp2_with fail
  refine (taken_none hM n hA).mono ?_
  rintro e w1 ⟨rfl, rfl⟩
  clear hM hA
  go_wp2_with fail
  go_ret2
  exact ⟨rfl, rfl⟩
theorem place_nil (n off : Int) (w : World) : Calls Try.prog 30 #[.pointer none, .int .i64 n, .int .i64 off] w fun e w' => e = .returned (.tuple #[.slice none 0 0, .int .i64 1]) ∧ w' = w := by
  go_enter Try.func30, Try.ntmps30
  go_wp2_with fail
  refine (taken_nil n _).mono ?_
  rintro e w1 ⟨rfl, rfl⟩
  go_wp2_with fail
  go_ret2
  exact ⟨rfl, rfl⟩
theorem load_ok (hM : Mem w S p k A g b) (i j : Nat) (f : Fr) (hA : A i = some f) (hj : j < 16) : Calls Try.prog 26 #[.pointer (some ⟨p, 0, none⟩), .int .i64 i, .int .i64 j] w fun e w' =>
    e = .returned (.tuple #[.int .u8 (f j), .int .i64 0]) ∧ w' = w := by
  have c0 := hM.tab.byte i j hA hj
  go_enter Try.func26, Try.ntmps26
  go_wp2_with fail
  refine (place_ok hM i j f hA hj).mono ?_
  rintro e w1 ⟨rfl, rfl⟩
  clear hM hA
  go_wp2_with fail
  go_ret2
  exact ⟨rfl, rfl⟩
theorem load_range (hM : Mem w S p k A g b) (i : Nat) (off : Int) (f : Fr) (hA : A i = some f) (ho : off < 0 ∨ 16 ≤ off) : Calls Try.prog 26 #[.pointer (some ⟨p, 0, none⟩), .int .i64 i, .int .i64 off] w fun e w' =>
    e = .returned (.tuple #[.int .u8 0, .int .i64 11]) ∧ w' = w := by
  go_enter Try.func26, Try.ntmps26
  go_wp2_with fail
  refine (place_range hM i off f hA ho).mono ?_
  rintro e w1 ⟨rfl, rfl⟩
  clear hM hA ho
  go_wp2_with fail
  go_ret2
  exact ⟨rfl, rfl⟩
theorem load_none (hM : Mem w S p k A g b) (n off : Int) (hA : at_ A n = none) : Calls Try.prog 26 #[.pointer (some ⟨p, 0, none⟩), .int .i64 n, .int .i64 off] w fun e w' =>
    e = .returned (.tuple #[.int .u8 0, .int .i64 7]) ∧ w' = w := by
  go_enter Try.func26, Try.ntmps26
  go_wp2_with fail
  refine (place_none hM n off hA).mono ?_
  rintro e w1 ⟨rfl, rfl⟩
  clear hM hA
  go_wp2_with fail
  go_ret2
  exact ⟨rfl, rfl⟩
theorem load_nil (n off : Int) (w : World) : Calls Try.prog 26 #[.pointer none, .int .i64 n, .int .i64 off] w fun e w' => e = .returned (.tuple #[.int .u8 0, .int .i64 1]) ∧ w' = w := by
  go_enter Try.func26, Try.ntmps26
  go_wp2_with fail
  refine (place_nil n off _).mono ?_
  rintro e w1 ⟨rfl, rfl⟩
  go_wp2_with fail
  go_ret2
  exact ⟨rfl, rfl⟩
theorem store_ok (hM : Mem w S p k A g b) (i j : Nat) (f : Fr) (hA : A i = some f) (hj : j < 16) (v : Int) (hv : 0 ≤ v ∧ v < 256) : Calls Try.prog 25 #[.pointer (some ⟨p, 0, none⟩), .int .i64 i, .int .i64 j, .int .u8 v] w fun e w' =>
    e = .returned (.int .i64 0) ∧ Mem w' S p k (upd A i (some (upd f j v))) g b ∧ Chg S w w' := by
  have c0 := hM.tab.byte i j hA hj
  have fz := (hM.tab.own i f hA).1.frozen j
  have hres := hM.store i j hA v hv
  have hch := Chg.set S w (b i) j (.int .u8 v) (hM.tab.own i f hA).2.2
  go_enter Try.func25, Try.ntmps25
  go_wp2_with fail
  refine (place_ok hM i j f hA hj).mono ?_
  rintro e w1 ⟨rfl, rfl⟩
  clear hM hA
  go_wp2_with fail
  go_ret
  exact ⟨rfl, hres, hch⟩
theorem store_range (hM : Mem w S p k A g b) (i : Nat) (off : Int) (f : Fr) (hA : A i = some f) (ho : off < 0 ∨ 16 ≤ off) (v : Int) : Calls Try.prog 25 #[.pointer (some ⟨p, 0, none⟩), .int .i64 i, .int .i64 off, .int .u8 v] w fun e w' =>
    e = .returned (.int .i64 11) ∧ w' = w := by
  go_enter Try.func25, Try.ntmps25
  go_wp2_with fail
  refine (place_range hM i off f hA ho).mono ?_
  rintro e w1 ⟨rfl, rfl⟩
  clear hM hA ho
  go_wp2_with fail
  go_ret
  exact ⟨rfl, rfl⟩
theorem store_none (hM : Mem w S p k A g b) (n off : Int) (hA : at_ A n = none) (v : Int) : Calls Try.prog 25 #[.pointer (some ⟨p, 0, none⟩), .int .i64 n, .int .i64 off, .int .u8 v] w fun e w' =>
    e = .returned (.int .i64 7) ∧ w' = w := by
  go_enter Try.func25, Try.ntmps25
  go_wp2_with fail
  refine (place_none hM n off hA).mono ?_
  rintro e w1 ⟨rfl, rfl⟩
  clear hM hA
  go_wp2_with fail
  go_ret
  exact ⟨rfl, rfl⟩
theorem store_nil (n off v : Int) (w : World) : Calls Try.prog 25 #[.pointer none, .int .i64 n, .int .i64 off, .int .u8 v] w fun e w' => e = .returned (.int .i64 1) ∧ w' = w := by
  go_enter Try.func25, Try.ntmps25
  go_wp2_with fail
  refine (place_nil n off _).mono ?_
  rintro e w1 ⟨rfl, rfl⟩
  go_wp2_with fail
  go_ret
  exact ⟨rfl, rfl⟩
theorem free_ok (hM : Mem w S p k A g b) (i : Nat) (f : Fr) (hA : A i = some f) : Calls Try.prog 22 #[.pointer (some ⟨p, 0, none⟩), .int .i64 i] w fun e w' =>
    e = .returned (.int .i64 0) ∧ Mem w' S p k (upd A i none) g b ∧ Chg S w w' := by
  have f0 := hM.field
  have hk := hM.lid
  have hi := hM.tab.lt_of hA
  have hp : (i : Int) < (k : Int) := by omega
  have c0 := hM.tab.cell_some i hA
  have fz := hM.frozen i
  have hres := hM.free i
  have hch := Chg.set S w g i (.slice none 0 0) hM.tab.sg
  go_enter Try.func22, Try.ntmps22
  go_wp2_with fail
  refine (taken_some hM i f hA).mono ?_
  rintro e w1 ⟨rfl, rfl⟩
  clear hM hA
  go_wp2_with fail
  go_ret
  exact ⟨rfl, hres, hch⟩
theorem free_none (hM : Mem w S p k A g b) (n : Int) (hA : at_ A n = none) : Calls Try.prog 22 #[.pointer (some ⟨p, 0, none⟩), .int .i64 n] w fun e w' =>
    e = .returned (.int .i64 7) ∧ w' = w := by
  go_enter Try.func22, Try.ntmps22
  go_wp2_with fail
  refine (taken_none hM n hA).mono ?_
  rintro e w1 ⟨rfl, rfl⟩
  clear hM hA
  go_wp2_with fail
  go_ret
  exact ⟨rfl, rfl⟩
theorem free_nil (n : Int) (w : World) : Calls Try.prog 22 #[.pointer none, .int .i64 n] w fun e w' => e = .returned (.int .i64 1) ∧ w' = w := by
  go_enter Try.func22, Try.ntmps22
  go_wp2_with fail
  refine (taken_nil n _).mono ?_
  rintro e w1 ⟨rfl, rfl⟩
  go_wp2_with fail
  go_ret
  exact ⟨rfl, rfl⟩
theorem used_nil (w : World) : Calls Try.prog 27 #[.pointer none] w fun e w' => e = .returned (.int .i64 0) ∧ w' = w := by
  go_enter Try.func27, Try.ntmps27
  go_wp2_with fail
  go_ret
  exact ⟨rfl, rfl⟩
set_option maxHeartbeats 400000 in
theorem used_any (hM : Mem w S p k A g b) (c : Nat) (hc : cnt A k = c) : Calls Try.prog 27 #[.pointer (some ⟨p, 0, none⟩)] w fun e w' => e = .returned (.int .i64 c) ∧ w' = w := by
  have f0 := hM.field
  have hk := hM.lid
  have HC : Hid (cnt A k = c) := hc
  have HM : Hid (Mem w S p k A g b) := hM
  clear hM hc
  go_enter Try.func27, Try.ntmps27
  go_wp2_with fail
  go_loopw [3, 13] (fun n i wr => ∃ j d : Nat, j ≤ k ∧ n = .int .i64 d ∧ i = .int .i64 j ∧ wr = w ∧ Hid (d = cnt A j)) (fun _ i _ => k - (intOf i).toNat)
  case atStart => exact ⟨0, 0, by omega, rfl, rfl, rfl, rfl⟩
  case round =>
    obtain ⟨j, d, hj, rfl, rfl, rfl, hd⟩ := hrel
    have hd5 : d ≤ 512 := by have := hd.out; have := cnt_le A j; omega
    by_cases e : j < k
    · have hp : (j : Int) < (k : Int) := by omega
      cases hf : A j with
      | none =>
        have hn : Hid (A j = none) := hf
        have c0 := HM.out.tab.cell_none j e hf
        clear hf
        go_wp2_with fail
        refine (isFree_any _ 0 0 _).mono ?_
        rintro e w1 ⟨rfl, rfl⟩
        go_wp2_with fail
        go_roundw
        case rel =>
          refine ⟨j + 1, d, by omega, rfl, by go_num, by trivial, ?_⟩
          show d = cnt A (j + 1)
          simp only [cnt]; rw [hn.out, hd.out]; simp
        case measure => simp [intOf]; omega
      | some f =>
        have hn : Hid (A j = some f) := hf
        have c0 := HM.out.tab.cell_some j hf
        clear hf
        go_wp2_with fail
        refine (isFree_any _ 16 16 _).mono ?_
        rintro e w1 ⟨rfl, rfl⟩
        go_wp2_with fail
        go_roundw
        case rel =>
          refine ⟨j + 1, d + 1, by omega, by go_num, by go_num, by trivial, ?_⟩
          show d + 1 = cnt A (j + 1)
          simp only [cnt]; rw [hn.out, hd.out]; simp
        case measure => simp [intOf]; omega
    · obtain rfl : j = k := by omega
      obtain rfl : d = c := by rw [hd.out, HC.out]
      go_wp2_with fail
      go_ret
      exact ⟨rfl, rfl⟩
end
end Go.Proofs.Ytdmdamidknbjoaa
