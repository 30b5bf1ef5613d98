/- Which labels may be: contracts of May and of the document's own. -/
import Derived.Test.YtdoemkncgfgkhaaLabRead2
namespace Go.Proofs.Ytdoemkncgfgkhaa
open Go.RowKit
set_option maxRecDepth 100000

/-- May a thread or an object have a label? -/
def mayB (d : Int) (xs : List (Int × Int)) : Bool := decide (1 ≤ d ∧ d ≤ 4) && decide (xs.length ≤ 16) && (xs.all fun p => decide (p.2 ≤ 4 ∧ p.2 ≠ d)) && asc (xs.map Prod.fst)
theorem mayB_iff {d : Int} {xs : List (Int × Int)} : mayB d xs = true ↔ (1 ≤ d ∧ d ≤ 4) ∧ xs.length ≤ 16 ∧ (∀ p ∈ xs, p.2 ≤ 4 ∧ p.2 ≠ d) ∧ UpL xs := by
  simp only [mayB, Bool.and_eq_true, decide_eq_true_eq, List.all_eq_true, asc_iff, ← up_iff]
  constructor
  · rintro ⟨⟨⟨h1, h2⟩, h3⟩, h4⟩; exact ⟨h1, h2, h3, h4⟩
  · rintro ⟨h1, h2, h3, h4⟩; exact ⟨⟨⟨h1, h2⟩, h3⟩, h4⟩
theorem mayB_false {d : Int} {xs : List (Int × Int)} (h : ¬ ((1 ≤ d ∧ d ≤ 4) ∧ xs.length ≤ 16 ∧ (∀ p ∈ xs, p.2 ≤ 4 ∧ p.2 ≠ d) ∧ UpL xs)) : mayB d xs = false := by
  cases hc : mayB d xs
  · rfl
  · exact absurd (mayB_iff.1 hc) h
theorem up_of {xs : List (Int × Int)} (h2 : ∀ (j : Nat) (x y x' y' : Int), xs[j]? = some (x, y) → xs[j + 1]? = some (x', y') → x < x') : UpL xs := by
  refine up_iff.2 (Srt.of_steps fun i hi => ?_)
  simp only [List.length_map] at hi
  have e1 : xs[i]? = some (xs[i].1, xs[i].2) := List.getElem?_eq_getElem (by omega)
  have e2 : xs[i + 1]? = some (xs[i + 1].1, xs[i + 1].2) := List.getElem?_eq_getElem hi
  have := h2 i _ _ _ _ e1 e2
  rw [getD_eq (by simp; omega), getD_eq (by simp; omega)]
  simpa using this

set_option maxHeartbeats 2000000 in
theorem refMayL_any (d : Int) (a : Option Addr) (n cap : Nat) (xs : List (Int × Int)) (w : World) (hr : RowG PE w a n cap xs) :
    Calls Try.prog 10 #[.agg #[.int .u8 d, .slice a n cap]] w fun e w' => e = .returned (.bool (mayB d xs)) ∧ Below w.heap.size w w' := by
  have hl : Hid (xs.length = n) := hr.len
  have hcap := hr.cap_le
  have hcc := canon_any d a n cap xs _ (hr.below (below_alloc w (Obj.cells #[Value.int IntKind.u8 d, Value.slice a n cap] 24)))
  have hbo := fun w1 (h : Below (w.alloc (Obj.cells #[Value.int IntKind.u8 d, Value.slice a n cap] 24)).heap.size (w.alloc (Obj.cells #[Value.int IntKind.u8 d, Value.slice a n cap] 24)) w1) => (ext_trans (below_alloc w _) h : Below w.heap.size w w1)
  have hk : ∀ w1, Below (w.alloc (Obj.cells #[Value.int IntKind.u8 d, Value.slice a n cap] 24)).heap.size (w.alloc (Obj.cells #[Value.int IntKind.u8 d, Value.slice a n cap] 24)) w1 → w1.cell? ⟨w.heap.size, 0, none⟩ = some (.int .u8 d) ∧ w1.cell? ⟨w.heap.size, 1, none⟩ = some (.slice a n cap) := fun w1 h => ⟨by rw [h.cell (by simp)]; simp, by rw [h.cell (by simp)]; simp⟩
  have HK : Hid (_) := And.intro hbo hk
  clear hbo hk
  go_enter Try.func10, Try.ntmps10
  go_wp2_with fail
  refine hcc.mono ?_
  rintro e w1 ⟨rfl, hb1⟩
  obtain ⟨c0, c1⟩ := HK.out.2 w1 hb1
  have hbw := HK.out.1 w1 hb1
  clear HK hb1 hcc
  cases hcan : canB d xs
  · go_wp2_with fail
    go_ret
    refine ⟨?_, hbw⟩
    rw [mayB_false (fun h => by
      have := canB_iff.2 ⟨by omega, fun p hp => by have := (h.2.2.1 p hp).1; omega, h.2.2.2, fun p hp => (h.2.2.1 p hp).2⟩
      rw [hcan] at this; simp at this)]; rfl
  · have HCN : Hid (d ≤ 5 ∧ (∀ p ∈ xs, p.2 ≤ 5) ∧ CanL d xs) := canB_iff.1 hcan
    clear hcan
    by_cases hd1 : d < 1
    · go_wp2_with fail
      go_ret
      refine ⟨?_, hbw⟩
      rw [mayB_false (fun h => by have := h.1.1; omega)]; rfl
    · have hd1' : decide (d < 1) = false := by simpa using hd1
      by_cases hd4 : 4 < d
      · go_wp2_with fail
        go_ret
        refine ⟨?_, hbw⟩
        rw [mayB_false (fun h => by have := h.1.2; omega)]; rfl
      · have hd4' : decide (4 < d) = false := by simpa using hd4
        by_cases hn : 16 < n
        · have hn' : (16 : Int) < (n : Int) := by omega
          go_wp2_with fail
          go_ret
          refine ⟨?_, hbw⟩
          rw [mayB_false (fun h => by have := h.2.1; have := hl.out; omega)]; rfl
        · have hn' : decide ((16 : Int) < (n : Int)) = false := by simp; omega
          go_wp2_with fail
          go_loop [3] (fun i => ∃ k : Nat, k ≤ n ∧ i = .int .i64 k ∧ (∀ (j : Nat) (x y : Int), j < k → xs[j]? = some (x, y) → y ≤ 4)) (fun i => n - (intOf i).toNat)
          case atStart => exact ⟨0, by omega, rfl, fun j _ _ h => by omega⟩
          case round =>
            obtain ⟨k, hk, rfl, hup⟩ := hrel
            have HU1 : Hid (∀ (j : Nat) (x y : Int), j < k → xs[j]? = some (x, y) → y ≤ 4) := hup
            clear hup
            by_cases hlt : k < n
            · have hp : (k : Int) < (n : Int) := by omega
              obtain ⟨b1, off1, rfl, _⟩ := hr.at (by omega)
              obtain ⟨X, Y, hX, HXb⟩ := hr.get2 k hlt
              obtain ⟨t1, t2⟩ := (hr.below hbw).pair hX
              have HX : Hid (xs[k]? = some (X, Y)) := hX
              clear hX
              by_cases hY : 4 < Y
              · go_wp2_with fail
                go_ret
                refine ⟨?_, hbw⟩
                rw [mayB_false (fun h => by have := (h.2.2.1 _ (List.mem_of_getElem? HX.out)).1; simp only at this; omega)]; rfl
              · have hY' : decide (4 < Y) = false := by simpa using hY
                go_wp2_with fail
                go_round
                case rel =>
                  refine ⟨k + 1, by omega, by go_num, fun j x y hj hx => ?_⟩
                  by_cases h : j < k
                  · exact HU1.out j x y h hx
                  · obtain rfl : j = k := by omega
                    have := HX.out; rw [hx] at this; simp at this; omega
                case measure => simp [intOf]; omega
            · obtain rfl : n = k := by omega
              go_wp2_with fail
              go_ret
              refine ⟨?_, hbw⟩
              have hll := hl.out
              rw [mayB_iff.2 ⟨by omega, by omega, fun p hp => by
                obtain ⟨i, hi, rfl⟩ := List.mem_iff_getElem.1 hp
                exact ⟨HU1.out i xs[i].1 xs[i].2 (by omega) (List.getElem?_eq_getElem hi), HCN.out.2.2.2 _ hp⟩, HCN.out.2.2.1⟩]; rfl
end Go.Proofs.Ytdoemkncgfgkhaa
