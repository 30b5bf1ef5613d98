/- LcodeForms walked: it answers true, and turns nothing that was there. -/
import Derived.Test.YtilgijmclmkboaaLcBegun
import Derived.Test.YtilgijmclmkboaaLits
namespace Go.Proofs.Ytilgijmclmkboaa
open Go.RowKit
set_option linter.unusedVariables false

set_option maxHeartbeats 8000000 in
theorem lcodeForms_walk (w : World) : Calls Try.prog 6 #[] w fun e w' => e = .returned (.bool true) ∧ Below w.heap.size w w' := by
  go_enter Try.func6, Try.ntmps6
  go_wp2_with fail
  refine (begun6_true _).mono ?_
  rintro e w1 ⟨rfl, b1⟩
  go_wp2_with fail
  obtain ⟨W1, hW1⟩ : ∃ x, x = (((((((w1.alloc (Obj.cells #[Value.int IntKind.u8 0, Value.int IntKind.u8 0] 5)).alloc (Obj.cells #[Value.int IntKind.u8 5, Value.int IntKind.u8 0] 5)).alloc (Obj.cells #[Value.int IntKind.u8 2, Value.int IntKind.u8 1, Value.int IntKind.u8 0, Value.int IntKind.u8 3, Value.int IntKind.u8 2] 5)).alloc (Obj.cells #[Value.int IntKind.u8 2, Value.int IntKind.u8 1, Value.int IntKind.u8 0, Value.int IntKind.u8 3, Value.int IntKind.u8 5] 5)).alloc (Obj.cells #[Value.int IntKind.u8 2, Value.int IntKind.u8 2, Value.int IntKind.u8 0, Value.int IntKind.u8 3, Value.int IntKind.u8 4, Value.int IntKind.u8 0, Value.int IntKind.u8 3, Value.int IntKind.u8 4] 5)).alloc (Obj.cells #[Value.int IntKind.u8 2, Value.int IntKind.u8 2, Value.int IntKind.u8 0, Value.int IntKind.u8 4, Value.int IntKind.u8 4, Value.int IntKind.u8 0, Value.int IntKind.u8 3, Value.int IntKind.u8 4] 5)).alloc (Obj.cells #[Value.int IntKind.u8 2, Value.int IntKind.u8 17, Value.int IntKind.u8 0, Value.int IntKind.u8 0, Value.int IntKind.u8 0, Value.int IntKind.u8 0, Value.int IntKind.u8 1, Value.int IntKind.u8 0, Value.int IntKind.u8 0, Value.int IntKind.u8 2, Value.int IntKind.u8 0, Value.int IntKind.u8 0, Value.int IntKind.u8 3, Value.int IntKind.u8 0, Value.int IntKind.u8 0, Value.int IntKind.u8 4, Value.int IntKind.u8 0, Value.int IntKind.u8 0, Value.int IntKind.u8 5, Value.int IntKind.u8 0, Value.int IntKind.u8 0, Value.int IntKind.u8 6, Value.int IntKind.u8 0, Value.int IntKind.u8 0, Value.int IntKind.u8 7, Value.int IntKind.u8 0, Value.int IntKind.u8 0, Value.int IntKind.u8 8, Value.int IntKind.u8 0, Value.int IntKind.u8 0, Value.int IntKind.u8 9, Value.int IntKind.u8 0, Value.int IntKind.u8 0, Value.int IntKind.u8 10, Value.int IntKind.u8 0, Value.int IntKind.u8 0, Value.int IntKind.u8 11, Value.int IntKind.u8 0, Value.int IntKind.u8 0, Value.int IntKind.u8 12, Value.int IntKind.u8 0, Value.int IntKind.u8 0, Value.int IntKind.u8 13, Value.int IntKind.u8 0, Value.int IntKind.u8 0, Value.int IntKind.u8 14, Value.int IntKind.u8 0, Value.int IntKind.u8 0, Value.int IntKind.u8 15, Value.int IntKind.u8 0, Value.int IntKind.u8 0, Value.int IntKind.u8 16, Value.int IntKind.u8 0] 5)).alloc (Obj.cells #[Value.slice (some ⟨w1.heap.size, 0, none⟩) 2 2, Value.slice (some ⟨w1.heap.size + 1, 0, none⟩) 2 2, Value.slice (some ⟨w1.heap.size + 1 + 1, 0, none⟩) 5 5, Value.slice (some ⟨w1.heap.size + 1 + 1 + 1, 0, none⟩) 5 5, Value.slice (some ⟨w1.heap.size + 1 + 1 + 1 + 1, 0, none⟩) 8 8, Value.slice (some ⟨w1.heap.size + 1 + 1 + 1 + 1 + 1, 0, none⟩) 8 8, Value.slice (some ⟨w1.heap.size + 1 + 1 + 1 + 1 + 1 + 1, 0, none⟩) 53 53] 25) := ⟨_, rfl⟩
  rw [← hW1]
  obtain ⟨G1, hG1⟩ : ∃ x, x = w1.heap.size + 1 + 1 + 1 + 1 + 1 + 1 + 1 := ⟨_, rfl⟩
  rw [← hG1]
  have eW1 : W1 = (litsW 5 w1 [[0, 0], [5, 0], [2, 1, 0, 3, 2], [2, 1, 0, 3, 5], [2, 2, 0, 3, 4, 0, 3, 4], [2, 2, 0, 4, 4, 0, 3, 4], [2, 17, 0, 0, 0, 0, 1, 0, 0, 2, 0, 0, 3, 0, 0, 4, 0, 0, 5, 0, 0, 6, 0, 0, 7, 0, 0, 8, 0, 0, 9, 0, 0, 10, 0, 0, 11, 0, 0, 12, 0, 0, 13, 0, 0, 14, 0, 0, 15, 0, 0, 16, 0]]).alloc (Obj.cells #[Value.slice (some ⟨w1.heap.size, 0, none⟩) 2 2, Value.slice (some ⟨w1.heap.size + 1, 0, none⟩) 2 2, Value.slice (some ⟨w1.heap.size + 1 + 1, 0, none⟩) 5 5, Value.slice (some ⟨w1.heap.size + 1 + 1 + 1, 0, none⟩) 5 5, Value.slice (some ⟨w1.heap.size + 1 + 1 + 1 + 1, 0, none⟩) 8 8, Value.slice (some ⟨w1.heap.size + 1 + 1 + 1 + 1 + 1, 0, none⟩) 8 8, Value.slice (some ⟨w1.heap.size + 1 + 1 + 1 + 1 + 1 + 1, 0, none⟩) 53 53] 25) := hW1
  have HL := lits_rows 5 [[0, 0], [5, 0], [2, 1, 0, 3, 2], [2, 1, 0, 3, 5], [2, 2, 0, 3, 4, 0, 3, 4], [2, 2, 0, 4, 4, 0, 3, 4], [2, 17, 0, 0, 0, 0, 1, 0, 0, 2, 0, 0, 3, 0, 0, 4, 0, 0, 5, 0, 0, 6, 0, 0, 7, 0, 0, 8, 0, 0, 9, 0, 0, 10, 0, 0, 11, 0, 0, 12, 0, 0, 13, 0, 0, 14, 0, 0, 15, 0, 0, 16, 0]] w1 (by simp only [List.forall_mem_cons]; exact ⟨⟨byt_of _ rfl, by decide⟩, ⟨byt_of _ rfl, by decide⟩, ⟨byt_of _ rfl, by decide⟩, ⟨byt_of _ rfl, by decide⟩, ⟨byt_of _ rfl, by decide⟩, ⟨byt_of _ rfl, by decide⟩, ⟨byt_of _ rfl, by decide⟩, fun L hL => by simp at hL⟩)
  have HRW1 : Hid (∀ k, k < 7 → ∃ (ad : Option Addr) (n : Nat) (bs : List Int), W1.cell? ⟨G1, k, none⟩ = some (.slice ad n n) ∧ Row W1 ad n n bs ∧ n ≤ 100 ∧ tlE bs = 2 ∧ tlN bs = 0 ∧ tlD bs = 0 ∧ tlP bs = []) := by
    obtain ⟨_, h2, h3⟩ := HL
    have hG : W1.heap[G1]? = some (.cells #[Value.slice (some ⟨w1.heap.size, 0, none⟩) 2 2, Value.slice (some ⟨w1.heap.size + 1, 0, none⟩) 2 2, Value.slice (some ⟨w1.heap.size + 1 + 1, 0, none⟩) 5 5, Value.slice (some ⟨w1.heap.size + 1 + 1 + 1, 0, none⟩) 5 5, Value.slice (some ⟨w1.heap.size + 1 + 1 + 1 + 1, 0, none⟩) 8 8, Value.slice (some ⟨w1.heap.size + 1 + 1 + 1 + 1 + 1, 0, none⟩) 8 8, Value.slice (some ⟨w1.heap.size + 1 + 1 + 1 + 1 + 1 + 1, 0, none⟩) 53 53] 25 (0, 0)) := by rw [eW1]; exact heap_new_at _ _ _ (by rw [h2, hG1]; rfl)
    replace h3 := fun i L hi => (h3 i L hi).below (below_alloc _ (Obj.cells #[Value.slice (some ⟨w1.heap.size, 0, none⟩) 2 2, Value.slice (some ⟨w1.heap.size + 1, 0, none⟩) 2 2, Value.slice (some ⟨w1.heap.size + 1 + 1, 0, none⟩) 5 5, Value.slice (some ⟨w1.heap.size + 1 + 1 + 1, 0, none⟩) 5 5, Value.slice (some ⟨w1.heap.size + 1 + 1 + 1 + 1, 0, none⟩) 8 8, Value.slice (some ⟨w1.heap.size + 1 + 1 + 1 + 1 + 1, 0, none⟩) 8 8, Value.slice (some ⟨w1.heap.size + 1 + 1 + 1 + 1 + 1 + 1, 0, none⟩) 53 53] 25))
    rw [← eW1] at h3
    intro k hk
    match k, hk with
    | 0, _ => exact ⟨_, 2, [0, 0], cell_of_heap hG 0 _ rfl, h3 0 _ rfl, by omega, by decide +kernel⟩
    | 1, _ => exact ⟨_, 2, [5, 0], cell_of_heap hG 1 _ rfl, h3 1 _ rfl, by omega, by decide +kernel⟩
    | 2, _ => exact ⟨_, 5, [2, 1, 0, 3, 2], cell_of_heap hG 2 _ rfl, h3 2 _ rfl, by omega, by decide +kernel⟩
    | 3, _ => exact ⟨_, 5, [2, 1, 0, 3, 5], cell_of_heap hG 3 _ rfl, h3 3 _ rfl, by omega, by decide +kernel⟩
    | 4, _ => exact ⟨_, 8, [2, 2, 0, 3, 4, 0, 3, 4], cell_of_heap hG 4 _ rfl, h3 4 _ rfl, by omega, by decide +kernel⟩
    | 5, _ => exact ⟨_, 8, [2, 2, 0, 4, 4, 0, 3, 4], cell_of_heap hG 5 _ rfl, h3 5 _ rfl, by omega, by decide +kernel⟩
    | 6, _ => exact ⟨_, 53, [2, 17, 0, 0, 0, 0, 1, 0, 0, 2, 0, 0, 3, 0, 0, 4, 0, 0, 5, 0, 0, 6, 0, 0, 7, 0, 0, 8, 0, 0, 9, 0, 0, 10, 0, 0, 11, 0, 0, 12, 0, 0, 13, 0, 0, 14, 0, 0, 15, 0, 0, 16, 0], cell_of_heap hG 6 _ rfl, h3 6 _ rfl, by omega, by decide +kernel⟩
  have bW1 : Below w1.heap.size w1 W1 := by rw [eW1]; exact ext_trans HL.1 (below_alloc _ _)
  clear hW1 hG1 eW1 HL
  go_loopw [2] (fun iv wr => ∃ k : Nat, k ≤ 7 ∧ iv = .int .i64 k ∧ Below W1.heap.size W1 wr) (fun i _ => 7 - (intOf i).toNat)
  case atStart => exact ⟨0, by omega, rfl, Below.refl _ _⟩
  case round =>
    obtain ⟨k, hk, rfl, hb⟩ := hrel
    by_cases hlt : k < 7
    case pos =>
      obtain ⟨ad, n, bs, hc, hr, hn, f1, f2, f3, f4⟩ := HRW1.out k hlt
      have hp : (k : Int) < 7 := by omega
      have hc' : wr.cell? ⟨G1, k, none⟩ = some (.slice ad n n) := by rw [hb.cell (lt_of_cell hc)]; exact hc
      have ht := ltake_any ad n n bs wr (hr.below hb) (by omega)
      rw [f1, f2, f3, f4] at ht
      clear hc hr f1 f2 f3 f4
      go_wp2_with fail
      refine ht.mono ?_
      rintro e V ⟨so, kk, co, rfl, o1, b1⟩
      obtain rfl : kk = 0 := o1.1.symm
      clear o1 ht
      have b2 := ext_trans hb (ext_trans b1 (below_alloc V (Obj.cells #[Value.int IntKind.u8 0, Value.slice so 0 co] 24)))
      go_wp2_with fail
      go_roundw
      case rel => exact ⟨k + 1, by omega, by go_num, b2⟩
      case measure => simp [intOf]; omega
    case neg =>
      obtain rfl : k = 7 := by omega
      rw [show ((7 : Nat) : Int) = 7 from rfl]
      go_wp2_with fail
      obtain ⟨w2, hw2⟩ : ∃ x, x = wr := ⟨_, rfl⟩
      rw [← hw2]
      have bw2 : Below w.heap.size w w2 := by rw [hw2]; exact ext_trans b1 (ext_trans bW1 hb)
      clear hw2
      obtain ⟨W2, hW2⟩ : ∃ x, x = ((((w2.alloc (Obj.cells #[Value.int IntKind.u8 2] 5)).alloc (Obj.cells #[Value.int IntKind.u8 2, Value.int IntKind.u8 1] 5)).alloc (Obj.cells #[Value.int IntKind.u8 2, Value.int IntKind.u8 1, Value.int IntKind.u8 0, Value.int IntKind.u8 3] 5)).alloc (Obj.cells #[Value.int IntKind.u8 5, Value.int IntKind.u8 1] 5)).alloc (Obj.cells #[Value.slice none 0 0, Value.slice (some ⟨w2.heap.size, 0, none⟩) 1 1, Value.slice (some ⟨w2.heap.size + 1, 0, none⟩) 2 2, Value.slice (some ⟨w2.heap.size + 1 + 1, 0, none⟩) 4 4, Value.slice (some ⟨w2.heap.size + 1 + 1 + 1, 0, none⟩) 2 2] 25) := ⟨_, rfl⟩
      rw [← hW2]
      obtain ⟨G2, hG2⟩ : ∃ x, x = w2.heap.size + 1 + 1 + 1 + 1 := ⟨_, rfl⟩
      rw [← hG2]
      have eW2 : W2 = (litsW 5 w2 [[2], [2, 1], [2, 1, 0, 3], [5, 1]]).alloc (Obj.cells #[Value.slice none 0 0, Value.slice (some ⟨w2.heap.size, 0, none⟩) 1 1, Value.slice (some ⟨w2.heap.size + 1, 0, none⟩) 2 2, Value.slice (some ⟨w2.heap.size + 1 + 1, 0, none⟩) 4 4, Value.slice (some ⟨w2.heap.size + 1 + 1 + 1, 0, none⟩) 2 2] 25) := hW2
      have HL := lits_rows 5 [[2], [2, 1], [2, 1, 0, 3], [5, 1]] w2 (by simp only [List.forall_mem_cons]; exact ⟨⟨byt_of _ rfl, by decide⟩, ⟨byt_of _ rfl, by decide⟩, ⟨byt_of _ rfl, by decide⟩, ⟨byt_of _ rfl, by decide⟩, fun L hL => by simp at hL⟩)
      have HRW2 : Hid (∀ k, k < 5 → ∃ (ad : Option Addr) (n : Nat) (bs : List Int), W2.cell? ⟨G2, k, none⟩ = some (.slice ad n n) ∧ Row W2 ad n n bs ∧ n ≤ 100 ∧ tlE bs = 3 ∧ tlN bs = 0 ∧ tlD bs = 0 ∧ tlP bs = []) := by
        obtain ⟨_, h2, h3⟩ := HL
        have hG : W2.heap[G2]? = some (.cells #[Value.slice none 0 0, Value.slice (some ⟨w2.heap.size, 0, none⟩) 1 1, Value.slice (some ⟨w2.heap.size + 1, 0, none⟩) 2 2, Value.slice (some ⟨w2.heap.size + 1 + 1, 0, none⟩) 4 4, Value.slice (some ⟨w2.heap.size + 1 + 1 + 1, 0, none⟩) 2 2] 25 (0, 0)) := by rw [eW2]; exact heap_new_at _ _ _ (by rw [h2, hG2]; rfl)
        replace h3 := fun i L hi => (h3 i L hi).below (below_alloc _ (Obj.cells #[Value.slice none 0 0, Value.slice (some ⟨w2.heap.size, 0, none⟩) 1 1, Value.slice (some ⟨w2.heap.size + 1, 0, none⟩) 2 2, Value.slice (some ⟨w2.heap.size + 1 + 1, 0, none⟩) 4 4, Value.slice (some ⟨w2.heap.size + 1 + 1 + 1, 0, none⟩) 2 2] 25))
        rw [← eW2] at h3
        intro k hk
        match k, hk with
        | 0, _ => exact ⟨none, 0, [], cell_of_heap hG 0 _ rfl, Row.nil _, by omega, by decide +kernel⟩
        | 1, _ => exact ⟨_, 1, [2], cell_of_heap hG 1 _ rfl, h3 0 _ rfl, by omega, by decide +kernel⟩
        | 2, _ => exact ⟨_, 2, [2, 1], cell_of_heap hG 2 _ rfl, h3 1 _ rfl, by omega, by decide +kernel⟩
        | 3, _ => exact ⟨_, 4, [2, 1, 0, 3], cell_of_heap hG 3 _ rfl, h3 2 _ rfl, by omega, by decide +kernel⟩
        | 4, _ => exact ⟨_, 2, [5, 1], cell_of_heap hG 4 _ rfl, h3 3 _ rfl, by omega, by decide +kernel⟩
      have bW2 : Below w2.heap.size w2 W2 := by rw [eW2]; exact ext_trans HL.1 (below_alloc _ _)
      clear hW2 hG2 eW2 HL
      go_loopw [7] (fun iv wr => ∃ k : Nat, k ≤ 5 ∧ iv = .int .i64 k ∧ Below W2.heap.size W2 wr) (fun i _ => 5 - (intOf i).toNat)
      case atStart => exact ⟨0, by omega, rfl, Below.refl _ _⟩
      case round =>
        obtain ⟨k, hk, rfl, hb⟩ := hrel
        by_cases hlt : k < 5
        case pos =>
          obtain ⟨ad, n, bs, hc, hr, hn, f1, f2, f3, f4⟩ := HRW2.out k hlt
          have hp : (k : Int) < 5 := by omega
          have hc' : wr.cell? ⟨G2, k, none⟩ = some (.slice ad n n) := by rw [hb.cell (lt_of_cell hc)]; exact hc
          have ht := ltake_any ad n n bs wr (hr.below hb) (by omega)
          rw [f1, f2, f3, f4] at ht
          clear hc hr f1 f2 f3 f4
          go_wp2_with fail
          refine ht.mono ?_
          rintro e V ⟨so, kk, co, rfl, o1, b1⟩
          obtain rfl : kk = 0 := o1.1.symm
          clear o1 ht
          have b2 := ext_trans hb (ext_trans b1 (below_alloc V (Obj.cells #[Value.int IntKind.u8 0, Value.slice so 0 co] 24)))
          go_wp2_with fail
          go_roundw
          case rel => exact ⟨k + 1, by omega, by go_num, b2⟩
          case measure => simp [intOf]; omega
        case neg =>
          obtain rfl : k = 5 := by omega
          rw [show ((5 : Nat) : Int) = 5 from rfl]
          go_wp2_with fail
          go_ret
          exact ⟨rfl, ext_trans bw2 (ext_trans bW2 hb)⟩
end Go.Proofs.Ytilgijmclmkboaa
