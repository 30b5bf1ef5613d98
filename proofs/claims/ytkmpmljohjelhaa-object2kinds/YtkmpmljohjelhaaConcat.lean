/- What the library's Clone, Grow and Concat of lists of bytes do: contracts. -/
import Derived.Test.YtkmpmljohjelhaaJNum
import Derived.Lib.AppendZerosOnto
namespace Go.Proofs.Ytkmpmljohjelhaa
open Go.RowKit
set_option maxRecDepth 100000

theorem zeroCells_len (z : Value) (hz : z.cells = #[z]) (k : Nat) : (Builtin.zeroCells z.cells k).size = k := by
  rw [hz]
  simp [Builtin.zeroCells]

set_option maxHeartbeats 400000 in
theorem grow_any (n : Nat) (hn : 0 < n) (hbd : n ≤ 70368744177664) (w : World) :
    Calls Try.prog 64 #[.slice none 0 0, .int .i64 n] w fun e w' => ∃ g cap, e = .returned (.slice (some ⟨g, 0, none⟩) 0 cap) ∧ Own 5 w' w.heap.size g 0 cap [] ∧ Below w.heap.size w w' := by
  obtain ⟨i, hi, hz0, hz1, hz2⟩ := info_parts info5
  have h1 : ¬ ((n : Int) < 0) := by omega
  have h2 : (0 : Int) < (n : Int) := by omega
  have hold : (Builtin.firstCells i.size 0 (.slice none 0 0)).run Try.prog w.drew = .ok ([] : List Value).toArray w.drew := run_firstCells_none w.drew i.size 0 0 0
  have hrz := fun ty => Lib.run_append_grow_zeros (P := Try.prog) w 29 3 ty 5 i (.int .u8 0) .i64 .i64 Try.underlying29 Try.underlying3 hi hz0 none 0 0 [] hold n hn (by omega) (by omega) (by omega) (by rw [hz2]; omega) (growslice_fits (by omega) (by rw [hz2]; omega))
  rw [Nat.zero_add] at hrz
  obtain ⟨G, hG⟩ : ∃ G, G = grownCap w n 0 5 := ⟨_, rfl⟩
  have hGn : n ≤ G := by rw [hG]; exact grownCap_ge w _ _ _
  have hG63 : G ≤ 9223372036854775807 := by
    have := grownCap_le_maxLen w n 0 5 (by unfold maxLen; omega)
    rw [← hG] at this; unfold maxLen at this; omega
  rw [← hG] at hrz
  obtain ⟨W, hW⟩ : ∃ W, W = w.drew.alloc (.cells (([] : List Value).toArray ++ Builtin.zeroCells (Value.int .u8 0).cells n ++ Builtin.zeroCells (Value.int .u8 0).cells (G - n)) 5) := ⟨_, rfl⟩
  rw [← hW] at hrz
  have hown : Own 5 W w.heap.size w.heap.size 0 G [] := by
    have hsz : (([] : List Value).toArray ++ Builtin.zeroCells (Value.int .u8 0).cells n ++ Builtin.zeroCells (Value.int .u8 0).cells (G - n)).size = G := by
      rw [Array.size_append, Array.size_append, zeroCells_len _ rfl, zeroCells_len _ rfl]
      simp; omega
    generalize (([] : List Value).toArray ++ Builtin.zeroCells (Value.int .u8 0).cells n ++ Builtin.zeroCells (Value.int .u8 0).cells (G - n)) = C at hsz hW
    have hg := heap_alloc_new w.drew (.cells C 5)
    rw [← hW] at hg
    exact Own.of_block (cur := C.toList) (Nat.le_refl _) (by simpa using hg) (by omega) hG63 (by simpa using hsz) rfl Byt.nil (by simp)
  have hbel : Below w.heap.size w W := by rw [hW]; exact ((Below.refl _ _).drew).alloc (Nat.le_refl _) _
  clear hW hG hi hz0 hz1 hz2 hold
  go_enter Try.func64, Try.ntmps64
  go_wp2_with (at_builtin; refine Lib.wpList_append_run _ rfl _ _ _ _ rfl _ _ rfl rfl _ _ (hrz _) ?_)
  go_ret
  exact ⟨_, G, rfl, hown, hbel⟩

/-- slices.Concat of two. -/
theorem concat_two (g0 : Nat) (a b : Option Addr) (n cap m cap2 : Nat) (xs ys : List Int) (w : World) (h0 : w.cell? ⟨g0, 0, none⟩ = some (.slice a n cap)) (h1 : w.cell? ⟨g0, 1, none⟩ = some (.slice b m cap2))
    (hr : Row w a n cap xs) (hs : Row w b m cap2 ys) (hpos : 0 < n + m) (hbd : n + m ≤ 70368744177664) :
    Calls Try.prog 50 #[.slice (some ⟨g0, 0, none⟩) 2 2] w fun e w' => ∃ g c, e = .returned (.slice (some ⟨g, 0, none⟩) (n + m) c) ∧ Own 5 w' w.heap.size g (n + m) c (xs ++ ys) ∧ Below w.heap.size w w' := by
  have hcn := hr.cap_le
  have hcm := hs.cap_le
  go_enter Try.func50, Try.ntmps50
  go_wp2_with fail
  go_loop [3, 11] (fun s i => ∃ k : Nat, k ≤ 2 ∧ i = .int .i64 k ∧ s = .int .i64 ((if k = 0 then 0 else if k = 1 then n else n + m : Nat) : Int)) (fun _ i => 2 - (intOf i).toNat)
  case atStart => exact ⟨0, by omega, rfl, rfl⟩
  case round =>
    obtain ⟨k, hk, rfl, rfl⟩ := hrel
    rcases (by omega : k = 0 ∨ k = 1 ∨ k = 2) with rfl | rfl | rfl
    · go_wp2
      go_round
      case rel => exact ⟨1, by omega, by go_num, by simp⟩
      case measure => simp [intOf]
    · have hnn : ¬ ((n : Int) + (m : Int) < 0) := by omega
      go_wp2
      go_round
      case rel => exact ⟨2, by omega, by go_num, by simp⟩
      case measure => simp [intOf]
    · go_wp2_with fail
      have hg := grow_any (n + m) hpos hbd w
      rw [Int.natCast_add] at hg
      refine hg.mono ?_
      rintro e w1 ⟨g, c, rfl, hown, hbel⟩
      go_wp2_with fail
      go_loopw [6, 27] (fun o i wr => ∃ k gg cc : Nat, k ≤ 2 ∧ i = .int .i64 k ∧ o = .slice (some ⟨gg, 0, none⟩) (if k = 0 then 0 else if k = 1 then n else n + m) cc ∧ Own 5 wr w.heap.size gg (if k = 0 then 0 else if k = 1 then n else n + m) cc (if k = 0 then [] else if k = 1 then xs else xs ++ ys) ∧ Below w.heap.size w wr) (fun _ i _ => 2 - (intOf i).toNat)
      case atStart => exact ⟨0, g, c, by omega, rfl, rfl, hown, hbel⟩
      case round =>
        obtain ⟨k, gg, cc, hk, rfl, rfl, ho, hb⟩ := hrel
        have h0' : wr.cell? ⟨g0, 0, none⟩ = some (.slice a n cap) := (hb.cell (lt_of_cell h0)).trans h0
        have h1' : wr.cell? ⟨g0, 1, none⟩ = some (.slice b m cap2) := (hb.cell (lt_of_cell h1)).trans h1
        rcases (by omega : k = 0 ∨ k = 1 ∨ k = 2) with rfl | rfl | rfl
        · replace ho : Own 5 wr w.heap.size gg 0 cc [] := ho
          go_wp2_with (at_builtin; refine wp_append_bytes _ rfl (.tmp 31) (.tmp 32) 29 rfl 5 Try.underlying29 info5 w.heap.size gg 0 cc [] rfl ho a n cap xs rfl (hr.below hb) (by omega) hb.size w hb ?_; intro g2 c2 w2 o2 b2; rw [Nat.zero_add, List.nil_append] at o2)
          go_roundw
          case rel => exact ⟨1, g2, c2, by omega, by go_num, by simp, o2, b2⟩
          case measure => simp [intOf]
        · replace ho : Own 5 wr w.heap.size gg n cc xs := ho
          go_wp2_with (at_builtin; refine wp_append_bytes _ rfl (.tmp 31) (.tmp 32) 29 rfl 5 Try.underlying29 info5 w.heap.size gg n cc xs rfl ho b m cap2 ys rfl (hs.below hb) (by omega) hb.size w hb ?_; intro g2 c2 w2 o2 b2)
          go_roundw
          case rel => exact ⟨2, g2, c2, by omega, by go_num, rfl, o2, b2⟩
          case measure => simp [intOf]
        · replace ho : Own 5 wr w.heap.size gg (n + m) cc (xs ++ ys) := ho
          go_wp2_with fail
          go_ret
          exact ⟨gg, cc, rfl, ho, hb⟩
end Go.Proofs.Ytkmpmljohjelhaa
