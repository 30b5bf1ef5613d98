/- What the library's Grow and Concat of lists of pairs do: contracts. -/
import Derived.Test.YtdoemkncgfgkhaaLabOut
import Derived.Lib.AppendZerosOnto
namespace Go.Proofs.Ytdoemkncgfgkhaa
open Go.RowKit
set_option maxRecDepth 100000

set_option maxHeartbeats 400000 in
theorem growP_any (n : Nat) (hbd : n ≤ 100000000) (w : World) :
    Calls Try.prog 84 #[.slice none 0 0, .int .i64 n] w fun e w' => ∃ so cap, e = .returned (.slice so 0 cap) ∧ OwnG PE 40 w' w.heap.size so 0 cap [] ∧ Below w.heap.size w w' := by
  by_cases hn : 0 < n
  · obtain ⟨i, hi, hz0, hz1, hz2⟩ := info_parts info29
    have h1 : ¬ ((n : Int) < 0) := by omega
    have h2 : (0 : Int) < (n : Int) := by omega
    have hold : (Builtin.firstCells i.size 0 (.slice none 0 0)).run Try.prog w.drew = .ok ([] : List Value).toArray w.drew := run_firstCells_none w.drew i.size 0 0 0
    have hrz := fun ty => Lib.run_append_grow_zeros (P := Try.prog) w 22 3 ty 40 i (.agg #[.int .u16 0, .int .u8 0]) .i64 .i64 Try.underlying22 Try.underlying3 hi hz0 none 0 0 [] hold n hn (by omega) (by omega) (by omega) (by rw [hz2]; omega) (growslice_fits (by omega) (by rw [hz2]; omega))
    rw [Nat.zero_add] at hrz
    obtain ⟨G, hG⟩ : ∃ G, G = grownCap w n 0 40 := ⟨_, rfl⟩
    have hGn : n ≤ G := by rw [hG]; exact grownCap_ge w _ _ _
    have hG63 : G ≤ 9223372036854775807 := by
      have := grownCap_le_maxLen w n 0 40 (by unfold maxLen; omega)
      rw [← hG] at this; unfold maxLen at this; omega
    rw [← hG] at hrz
    obtain ⟨W, hW⟩ : ∃ W, W = w.drew.alloc (.cells (([] : List Value).toArray ++ Builtin.zeroCells (Value.agg #[.int .u16 0, .int .u8 0]).cells n ++ Builtin.zeroCells (Value.agg #[.int .u16 0, .int .u8 0]).cells (G - n)) 40) := ⟨_, rfl⟩
    rw [← hW] at hrz
    have hown : OwnG PE 40 W w.heap.size (some ⟨w.heap.size, 0, none⟩) 0 G [] := by
      have hsz : (([] : List Value).toArray ++ Builtin.zeroCells (Value.agg #[.int .u16 0, .int .u8 0]).cells n ++ Builtin.zeroCells (Value.agg #[.int .u16 0, .int .u8 0]).cells (G - n)).size = G * 2 := by
        rw [Array.size_append, Array.size_append, size_zeroCells, size_zeroCells]
        simp [Value.cells]; omega
      generalize (([] : List Value).toArray ++ Builtin.zeroCells (Value.agg #[.int .u16 0, .int .u8 0]).cells n ++ Builtin.zeroCells (Value.agg #[.int .u16 0, .int .u8 0]).cells (G - n)) = C at hsz hW
      have hg := heap_alloc_new w.drew (.cells C 40)
      rw [← hW] at hg
      exact OwnG.of_cells (Nat.le_refl _) (by simpa using hg) (by omega) hG63 hsz rfl Enc.Ok.nil (by simp [Enc.flat])
    have hbel : Below w.heap.size w W := by rw [hW]; exact ((Below.refl _ _).drew).alloc (Nat.le_refl _) _
    clear hW hG hi hz0 hz1 hz2 hold
    go_enter Try.func84, Try.ntmps84
    go_wp2_with (at_builtin; refine Lib.wpList_append_run _ rfl _ _ _ _ rfl _ _ rfl rfl _ _ (hrz _) ?_)
    go_ret
    exact ⟨_, G, rfl, hown, hbel⟩
  · obtain rfl : n = 0 := by omega
    go_enter Try.func84, Try.ntmps84
    go_wp2_with fail
    go_ret
    exact ⟨none, 0, rfl, OwnG.of_nil _ _ _ _, Below.refl _ _⟩

def pre3 (n m l k : Nat) : Nat := if k = 0 then 0 else if k = 1 then n else if k = 2 then n + m else n + m + l
set_option maxHeartbeats 1000000 in
/-- slices.Concat of three. -/
theorem concat_three (g0 : Nat) (a b c : Option Addr) (n cap m cap2 l cap3 : Nat) (xs ys zs : List (Int × Int)) (w : World) (h0 : w.cell? ⟨g0, 0, none⟩ = some (.slice a n cap)) (h1 : w.cell? ⟨g0, 1, none⟩ = some (.slice b m cap2)) (h2 : w.cell? ⟨g0, 2, none⟩ = some (.slice c l cap3))
    (hr : RowG PE w a n cap xs) (hs : RowG PE w b m cap2 ys) (ht : RowG PE w c l cap3 zs) (hbd : n + m + l ≤ 100000000) :
    Calls Try.prog 64 #[.slice (some ⟨g0, 0, none⟩) 3 3] w fun e w' => ∃ so co, e = .returned (.slice so (n + m + l) co) ∧ OwnG PE 40 w' w.heap.size so (n + m + l) co (xs ++ ys ++ zs) ∧ Below w.heap.size w w' := by
  have hcn := hr.cap_le
  have hcm := hs.cap_le
  have hcl := ht.cap_le
  go_enter Try.func64, Try.ntmps64
  go_wp2_with fail
  go_loop [3, 11] (fun s i => ∃ k : Nat, k ≤ 3 ∧ i = .int .i64 k ∧ s = .int .i64 ((pre3 n m l k : Nat) : Int)) (fun _ i => 3 - (intOf i).toNat)
  case atStart => exact ⟨0, by omega, rfl, rfl⟩
  case round =>
    obtain ⟨k, hk, rfl, rfl⟩ := hrel
    rcases (by omega : k = 0 ∨ k = 1 ∨ k = 2 ∨ k = 3) with rfl | rfl | rfl | rfl
    · have e0 : pre3 n m l 0 = 0 := rfl
      go_wp2
      go_round
      case rel => exact ⟨1, by omega, by go_num, by simp [pre3]⟩
      case measure => simp [intOf]
    · have e1 : pre3 n m l 1 = n := rfl
      have hnn : ¬ ((n : Int) + (m : Int) < 0) := by omega
      go_wp2
      go_round
      case rel => exact ⟨2, by omega, by go_num, by simp [pre3]⟩
      case measure => simp [intOf]
    · have e2 : ((pre3 n m l 2 : Nat) : Int) = (n : Int) + (m : Int) := by simp [pre3]
      have hnn : ¬ ((n : Int) + (m : Int) + (l : Int) < 0) := by omega
      go_wp2
      go_round
      case rel => exact ⟨3, by omega, by go_num, by simp [pre3]⟩
      case measure => simp [intOf]
    · go_wp2_with fail
      refine (growP_any (pre3 n m l 3) (by simp [pre3]; omega) w).mono ?_
      rintro e w1 ⟨so, c0, rfl, hown, hbel⟩
      go_wp2_with fail
      go_loopw [6, 27] (fun o i wr => ∃ (k : Nat) (so : Option Addr) (cc : Nat), k ≤ 3 ∧ i = .int .i64 k ∧ o = .slice so (pre3 n m l k) cc ∧ OwnG PE 40 wr w.heap.size so (pre3 n m l k) cc (if k = 0 then [] else if k = 1 then xs else if k = 2 then xs ++ ys else xs ++ ys ++ zs) ∧ Below w.heap.size w wr) (fun _ i _ => 3 - (intOf i).toNat)
      case atStart => exact ⟨0, so, c0, by omega, rfl, rfl, hown, hbel⟩
      case round =>
        obtain ⟨k, so, cc, hk, rfl, rfl, ho, hb⟩ := hrel
        have h0' : wr.cell? ⟨g0, 0, none⟩ = some (.slice a n cap) := (hb.cell (lt_of_cell h0)).trans h0
        have h1' : wr.cell? ⟨g0, 1, none⟩ = some (.slice b m cap2) := (hb.cell (lt_of_cell h1)).trans h1
        have h2' : wr.cell? ⟨g0, 2, none⟩ = some (.slice c l cap3) := (hb.cell (lt_of_cell h2)).trans h2
        rcases (by omega : k = 0 ∨ k = 1 ∨ k = 2 ∨ k = 3) with rfl | rfl | rfl | rfl
        · replace ho : OwnG PE 40 wr w.heap.size so 0 cc [] := ho
          rw [show pre3 n m l 0 = 0 from rfl]
          go_wp2_with (at_builtin; refine wp_append_g (E := PE) _ rfl (.tmp 31) (.tmp 32) 22 rfl 40 Try.underlying22 (.agg #[.int .u16 0, .int .u8 0]) 4 info29 rfl (by omega) w.heap.size 0 cc so [] rfl ho a n cap xs rfl (hr.below hb) (by omega) hb.size w hb ?_; intro g2 c2 w2 o2 b2 _; rw [Nat.zero_add, List.nil_append] at o2)
          go_roundw
          case rel => exact ⟨1, g2, c2, by omega, by go_num, by simp [pre3], o2, b2⟩
          case measure => simp [intOf]
        · replace ho : OwnG PE 40 wr w.heap.size so n cc xs := ho
          rw [show pre3 n m l 1 = n from rfl]
          go_wp2_with (at_builtin; refine wp_append_g (E := PE) _ rfl (.tmp 31) (.tmp 32) 22 rfl 40 Try.underlying22 (.agg #[.int .u16 0, .int .u8 0]) 4 info29 rfl (by omega) w.heap.size n cc so xs rfl ho b m cap2 ys rfl (hs.below hb) (by omega) hb.size w hb ?_; intro g2 c2 w2 o2 b2 _)
          go_roundw
          case rel => exact ⟨2, g2, c2, by omega, by go_num, by simp [pre3], o2, b2⟩
          case measure => simp [intOf]
        · replace ho : OwnG PE 40 wr w.heap.size so (n + m) cc (xs ++ ys) := ho
          rw [show pre3 n m l 2 = n + m from rfl]
          go_wp2_with (at_builtin; refine wp_append_g (E := PE) _ rfl (.tmp 31) (.tmp 32) 22 rfl 40 Try.underlying22 (.agg #[.int .u16 0, .int .u8 0]) 4 info29 rfl (by omega) w.heap.size (n + m) cc so (xs ++ ys) rfl ho c l cap3 zs rfl (ht.below hb) (by omega) hb.size w hb ?_; intro g2 c2 w2 o2 b2 _)
          go_roundw
          case rel => exact ⟨3, g2, c2, by omega, by go_num, by simp [pre3], o2, b2⟩
          case measure => simp [intOf]
        · replace ho : OwnG PE 40 wr w.heap.size so (n + m + l) cc (xs ++ ys ++ zs) := ho
          rw [show pre3 n m l 3 = n + m + l from rfl]
          go_wp2_with fail
          go_ret
          exact ⟨so, cc, rfl, ho, hb⟩

end Go.Proofs.Ytdoemkncgfgkhaa
