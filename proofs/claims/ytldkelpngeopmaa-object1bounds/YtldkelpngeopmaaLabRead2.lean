/- What Same, and the document's own functions that only read labels, answer: contracts. -/
import Derived.Test.YtldkelpngeopmaaJFind
namespace Go.Proofs.Ytldkelpngeopmaa
open Go.RowKit
set_option maxRecDepth 100000

theorem two_allocs (w : World) (x y : Obj) : Below w.heap.size w ((w.alloc x).alloc y) := ext_trans (below_alloc _ _) (below_alloc _ _)
theorem cell_old {w : World} {p : Addr} {v : Value} (o : Obj) (h : w.cell? p = some v) : (w.alloc o).cell? p = some v := by rw [(below_alloc w o).cell (lt_of_cell h)]; exact h
theorem atL_drop {d : Int} {xs : List (Int × Int)} {k : Nat} {c : Int} (h : ∀ j x y, j < k → xs[j]? = some (x, y) → x ≠ c) : atL d xs c = atL d (xs.drop k) c := by
  induction k generalizing xs with
  | zero => rfl
  | succ k ih =>
    cases xs with
    | nil => rfl
    | cons p xs =>
      rw [List.drop_succ_cons, atL_cons, if_neg (h 0 p.1 p.2 (by omega) rfl)]
      exact ih fun j x y hj hx => h (j + 1) x y (by omega) (by simpa using hx)
theorem atL_here {d : Int} {xs : List (Int × Int)} {k : Nat} {c y : Int} (h : ∀ j x y, j < k → xs[j]? = some (x, y) → x ≠ c) (hk : xs[k]? = some (c, y)) : atL d xs c = y := by
  obtain ⟨h1, h2⟩ := List.getElem?_eq_some_iff.1 hk
  rw [atL_drop h, List.drop_eq_getElem_cons h1, h2, atL_cons, if_pos rfl]

/-- Is a label as P5.2 asks? -/
def canB (d : Int) (xs : List (Int × Int)) : Bool := decide (d ≤ 5) && (xs.all fun p => decide (p.2 ≤ 5 ∧ p.2 ≠ d)) && asc (xs.map Prod.fst)
theorem up_iff {xs : List (Int × Int)} : UpL xs ↔ Srt (xs.map Prod.fst) := by
  unfold UpL Srt
  rw [List.pairwise_map]
theorem canB_iff {d : Int} {xs : List (Int × Int)} : canB d xs = true ↔ d ≤ 5 ∧ (∀ p ∈ xs, p.2 ≤ 5) ∧ CanL d xs := by
  simp only [canB, Bool.and_eq_true, decide_eq_true_eq, List.all_eq_true, asc_iff, ← up_iff, CanL]
  constructor
  · rintro ⟨⟨h1, h2⟩, h3⟩; exact ⟨h1, fun p hp => (h2 p hp).1, h3, fun p hp => (h2 p hp).2⟩
  · rintro ⟨h1, h2, h3, h4⟩; exact ⟨⟨h1, fun p hp => ⟨h2 p hp, h4 p hp⟩⟩, h3⟩
theorem canB_of {d : Int} {xs : List (Int × Int)} (hd : d ≤ 5) (h1 : ∀ (j : Nat) (x y : Int), xs[j]? = some (x, y) → y ≤ 5 ∧ y ≠ d) (h2 : ∀ (j : Nat) (x y x' y' : Int), xs[j]? = some (x, y) → xs[j + 1]? = some (x', y') → x < x') : canB d xs = true := by
  have hp : ∀ p ∈ xs, p.2 ≤ 5 ∧ p.2 ≠ d := fun p hp => by
    obtain ⟨i, hi, rfl⟩ := List.mem_iff_getElem.1 hp
    exact h1 i xs[i].1 xs[i].2 (List.getElem?_eq_getElem hi)
  refine canB_iff.2 ⟨hd, fun p h => (hp p h).1, up_iff.2 (Srt.of_steps fun i hi => ?_), fun p h => (hp p h).2⟩
  simp only [List.length_map] at hi
  have e1 : xs[i]? = some (xs[i].1, xs[i].2) := List.getElem?_eq_getElem (by omega)
  have e2 : xs[i + 1]? = some (xs[i + 1].1, xs[i + 1].2) := List.getElem?_eq_getElem hi
  have := h2 i _ _ _ _ e1 e2
  rw [getD_eq (by simp; omega), getD_eq (by simp; omega)]
  simpa using this
theorem canB_not1 {d : Int} {xs : List (Int × Int)} {j : Nat} {x y : Int} (h : xs[j]? = some (x, y)) (hb : ¬ (y ≤ 5 ∧ y ≠ d)) : canB d xs = false := by
  cases hc : canB d xs
  · rfl
  · obtain ⟨_, h2, _, h4⟩ := canB_iff.1 hc
    have hm := List.mem_of_getElem? h
    exact absurd ⟨h2 _ hm, h4 _ hm⟩ hb
theorem canB_not2 {d : Int} {xs : List (Int × Int)} {j : Nat} {x y x' y' : Int} (h : xs[j]? = some (x, y)) (h' : xs[j + 1]? = some (x', y')) (hb : x' ≤ x) : canB d xs = false := by
  cases hc : canB d xs
  · rfl
  · obtain ⟨_, _, h3, _⟩ := canB_iff.1 hc
    have := h3.lt (show j < j + 1 by omega) h h'
    omega
theorem canB_not0 {d : Int} {xs : List (Int × Int)} (hb : 5 < d) : canB d xs = false := by
  cases hc : canB d xs
  · rfl
  · have := (canB_iff.1 hc).1; omega

set_option maxHeartbeats 1000000 in
theorem canon_any (d : Int) (a : Option Addr) (n cap : Nat) (xs : List (Int × Int)) (w : World) (hr : RowG PE w a n cap xs) :
    Calls Try.prog 43 #[.agg #[.int .u8 d, .slice a n cap]] w fun e w' => e = .returned (.bool (canB d xs)) ∧ Below w.heap.size w w' := by
  have hl : Hid (xs.length = n) := hr.len
  have hcap := hr.cap_le
  by_cases hd : 5 < d
  · have hd' : (5 : Int) < d := hd
    go_enter Try.func43, Try.ntmps43
    go_wp2_with fail
    go_ret
    refine ⟨?_, below_alloc _ _⟩
    rw [canB_not0 hd]; rfl
  · have hd' : decide ((5 : Int) < d) = false := by simpa using hd
    go_enter Try.func43, Try.ntmps43
    go_wp2_with fail
    obtain ⟨W, hW⟩ : ∃ W, W = (w.alloc (Obj.cells #[Value.int IntKind.u8 d, Value.slice a n cap] 25)) := ⟨_, rfl⟩
    rw [← hW]
    have hb0 : Below w.heap.size w W := hW ▸ below_alloc _ _
    have k0 : W.cell? ⟨w.heap.size, 0, none⟩ = some (.int .u8 d) := by rw [hW]; simp
    have k1 : W.cell? ⟨w.heap.size, 1, none⟩ = some (.slice a n cap) := by rw [hW]; simp
    clear hW
    go_loopw [3] (fun i wr => ∃ k : Nat, k ≤ n ∧ i = .int .i64 k ∧ Below W.heap.size W wr ∧ (∀ (j : Nat) (x y : Int), j < k → xs[j]? = some (x, y) → y ≤ 5 ∧ y ≠ d) ∧ (∀ (j : Nat) (x y x' y' : Int), j + 1 < k → xs[j]? = some (x, y) → xs[j + 1]? = some (x', y') → x < x')) (fun i _ => n - (intOf i).toNat)
    case atStart => exact ⟨0, by omega, rfl, Below.refl _ _, fun j _ _ h => by omega, fun j _ _ _ _ h => by omega⟩
    case round =>
      obtain ⟨k, hk, rfl, hbel, hup1, hup2⟩ := hrel
      have hbel' := ext_trans hb0 hbel
      have k0' : wr.cell? ⟨w.heap.size, 0, none⟩ = some (.int .u8 d) := by rw [hbel.cell (lt_of_cell k0)]; exact k0
      have k1' : wr.cell? ⟨w.heap.size, 1, none⟩ = some (.slice a n cap) := by rw [hbel.cell (lt_of_cell k1)]; exact k1
      by_cases hlt : k < n
      · have hp : (k : Int) < (n : Int) := by omega
        obtain ⟨b1, off1, rfl, _⟩ := hr.at (by omega)
        obtain ⟨X, Y, hX, _⟩ := hr.get2 k hlt
        obtain ⟨c1, c2⟩ := (hr.below hbel').pair hX
        have HX : Hid (xs[k]? = some (X, Y)) := hX
        have HU1 : Hid (∀ (j : Nat) (x y : Int), j < k → xs[j]? = some (x, y) → y ≤ 5 ∧ y ≠ d) := hup1
        have HU2 : Hid (∀ (j : Nat) (x y x' y' : Int), j + 1 < k → xs[j]? = some (x, y) → xs[j + 1]? = some (x', y') → x < x') := hup2
        clear hX hup1 hup2
        go_wp2_with fail
        obtain ⟨W2, hW2⟩ : ∃ W2, W2 = wr.alloc (Obj.cells #[Value.int IntKind.u16 X, Value.int IntKind.u8 Y] 46) := ⟨_, rfl⟩
        rw [← hW2]
        have hbel2 : Below W.heap.size W W2 := hW2 ▸ ext_trans hbel (below_alloc _ _)
        have hbel2' := ext_trans hb0 hbel2
        have g0 : W2.cell? ⟨w.heap.size, 0, none⟩ = some (.int .u8 d) := hW2 ▸ cell_old _ k0'
        have g1 : W2.cell? ⟨w.heap.size, 1, none⟩ = some (.slice (some ⟨b1, off1, none⟩) n cap) := hW2 ▸ cell_old _ k1'
        have g2 : W2.cell? ⟨wr.heap.size, 0, none⟩ = some (.int .u16 X) := by rw [hW2]; simp
        have g3 : W2.cell? ⟨wr.heap.size, 1, none⟩ = some (.int .u8 Y) := by rw [hW2]; simp
        clear hW2
        by_cases hY5 : 5 < Y
        · have t1 : (5 : Int) < Y := hY5
          go_quiet (fail)
          go_wp2
          go_ret
          refine ⟨?_, bel_drewN hbel2' _⟩
          rw [canB_not1 HX.out (by omega)]; rfl
        · have t1 : decide ((5 : Int) < Y) = false := by simpa using hY5
          by_cases hYd : Y = d
          · subst hYd
            go_quiet (fail)
            go_wp2
            go_ret
            refine ⟨?_, bel_drewN hbel2' _⟩
            rw [canB_not1 HX.out (by omega)]; rfl
          · have t2 : (Y == d) = false := by simpa using hYd
            have HB1 : Hid (∀ (j : Nat) (x y : Int), j < k + 1 → xs[j]? = some (x, y) → y ≤ 5 ∧ y ≠ d) := fun j x y hj hx => by
              by_cases h : j < k
              · exact HU1.out j x y h hx
              · obtain rfl : j = k := by omega
                have := HX.out; rw [hx] at this; simp at this; omega
            by_cases hk0 : k = 0
            · have t3 : decide ((0 : Int) < (k : Int)) = false := by simp; omega
              go_quiet (fail)
              go_wp2
              go_roundw
              case rel => exact ⟨k + 1, by omega, by go_num, bel_drewN hbel2 _, HB1.out, fun j _ _ _ _ h => by omega⟩
              case measure => simp [intOf]; omega
            · have t3 : 0 < k := by omega
              have hq : ((k : Int) - 1) = ((k - 1 : Nat) : Int) := by omega
              have hq2 : k - 1 < n := by omega
              have hq3 : ((k - 1 : Nat) : Int) < (n : Int) := by omega
              obtain ⟨X', Y', hX', _⟩ := hr.get2 (k - 1) hq2
              obtain ⟨c3, c4⟩ := (hr.below hbel2').pair hX'
              have HX' : Hid (xs[k - 1]? = some (X', Y')) := hX'
              clear hX'
              by_cases hle : X ≤ X'
              · go_quiet (fail)
                go_wp2
                go_ret
                refine ⟨?_, bel_drewN hbel2' _⟩
                rw [canB_not2 HX'.out (show xs[k - 1 + 1]? = some (X, Y) by rw [show k - 1 + 1 = k by omega]; exact HX.out) hle]; rfl
              · have t4 : decide (X ≤ X') = false := by simpa using hle
                go_quiet (fail)
                go_wp2
                go_roundw
                case rel =>
                  refine ⟨k + 1, by omega, by go_num, bel_drewN hbel2 _, HB1.out, fun j x y x' y' hj hx hx' => ?_⟩
                  by_cases h : j + 1 < k
                  · exact HU2.out j x y x' y' h hx hx'
                  · obtain rfl : j + 1 = k := by omega
                    have h1 := HX.out; have h2 := HX'.out
                    rw [hx'] at h1; rw [Nat.add_sub_cancel, hx] at h2
                    simp at h1 h2; omega
                case measure => simp [intOf]; omega
      · obtain rfl : k = n := by omega
        have HU1 : Hid (∀ (j : Nat) (x y : Int), j < k → xs[j]? = some (x, y) → y ≤ 5 ∧ y ≠ d) := hup1
        have HU2 : Hid (∀ (j : Nat) (x y x' y' : Int), j + 1 < k → xs[j]? = some (x, y) → xs[j + 1]? = some (x', y') → x < x') := hup2
        clear hup1 hup2
        go_wp2
        go_ret
        refine ⟨?_, hbel'⟩
        have hll := hl.out
        rw [canB_of (by omega) (fun j x y hx => HU1.out j x y (by have := (List.getElem?_eq_some_iff.1 hx).1; omega) hx) (fun j x y x' y' hx hx' => HU2.out j x y x' y' (by have := (List.getElem?_eq_some_iff.1 hx').1; omega) hx hx')]; rfl

def lightB (d : Int) (xs : List (Int × Int)) : Bool := decide (xs.length ≤ 24) && canB d xs
end Go.Proofs.Ytldkelpngeopmaa
