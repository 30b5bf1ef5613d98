/- Which labels may be: contracts of May and of the document's own. -/
import Derived.Test.YtldkelpngeopmaaLabRead2
namespace Go.Proofs.Ytldkelpngeopmaa
open Go.RowKit
set_option maxRecDepth 100000

/-- May a thread or an object have a label? -/
def mayB (d : Int) (xs : List (Int × Int)) : Bool := decide (1 ≤ d ∧ d ≤ 4) && decide (xs.length ≤ 16) && (xs.all fun p => decide (p.2 ≤ 4 ∧ p.2 ≠ d)) && asc (xs.map Prod.fst)
theorem mayB_iff {d : Int} {xs : List (Int × Int)} : mayB d xs = true ↔ (1 ≤ d ∧ d ≤ 4) ∧ xs.length ≤ 16 ∧ (∀ p ∈ xs, p.2 ≤ 4 ∧ p.2 ≠ d) ∧ UpL xs := by
  simp only [mayB, Bool.and_eq_true, decide_eq_true_eq, List.all_eq_true, asc_iff, ← up_iff]
  constructor
  · rintro ⟨⟨⟨h1, h2⟩, h3⟩, h4⟩; exact ⟨h1, h2, h3, h4⟩
  · rintro ⟨h1, h2, h3, h4⟩; exact ⟨⟨⟨h1, h2⟩, h3⟩, h4⟩
theorem mayB_false {d : Int} {xs : List (Int × Int)} (h : ¬ ((1 ≤ d ∧ d ≤ 4) ∧ xs.length ≤ 16 ∧ (∀ p ∈ xs, p.2 ≤ 4 ∧ p.2 ≠ d) ∧ UpL xs)) : mayB d xs = false := by
  cases hc : mayB d xs
  · rfl
  · exact absurd (mayB_iff.1 hc) h
theorem up_of {xs : List (Int × Int)} (h2 : ∀ (j : Nat) (x y x' y' : Int), xs[j]? = some (x, y) → xs[j + 1]? = some (x', y') → x < x') : UpL xs := by
  refine up_iff.2 (Srt.of_steps fun i hi => ?_)
  simp only [List.length_map] at hi
  have e1 : xs[i]? = some (xs[i].1, xs[i].2) := List.getElem?_eq_getElem (by omega)
  have e2 : xs[i + 1]? = some (xs[i + 1].1, xs[i + 1].2) := List.getElem?_eq_getElem hi
  have := h2 i _ _ _ _ e1 e2
  rw [getD_eq (by simp; omega), getD_eq (by simp; omega)]
  simpa using this

set_option maxHeartbeats 2000000 in
theorem mayL_any (d : Int) (hd0 : 0 ≤ d) (a : Option Addr) (n cap : Nat) (xs : List (Int × Int)) (w : World) (hr : RowG PE w a n cap xs) :
    Calls Try.prog 33 #[.agg #[.int .u8 d, .slice a n cap]] w fun e w' => e = .returned (.bool (mayB d xs)) ∧ Below w.heap.size w w' := by
  have hl : Hid (xs.length = n) := hr.len
  have hcap := hr.cap_le
  by_cases hz : d = 0
  · subst hz
    go_enter Try.func33, Try.ntmps33
    go_wp2_with fail
    go_ret
    refine ⟨?_, below_alloc _ _⟩
    rw [mayB_false (fun h => by have := h.1; omega)]; rfl
  · have hz' : (d == 0) = false := by simpa using hz
    by_cases hd4 : d ≤ 4
    · have hd4' : decide (d ≤ 4) = true := by simpa using hd4
      by_cases hn : 16 < n
      · have hn' : (16 : Int) < (n : Int) := by omega
        go_enter Try.func33, Try.ntmps33
        go_wp2_with fail
        refine (lmay_num d hd0 _).mono ?_
        rintro e w1 ⟨rfl, rfl⟩
        go_wp2_with fail
        go_ret
        refine ⟨?_, below_alloc _ _⟩
        rw [mayB_false (fun h => by have := h.2.1; have := hl.out; omega)]; rfl
      · have hn' : decide ((16 : Int) < (n : Int)) = false := by simp; omega
        go_enter Try.func33, Try.ntmps33
        go_wp2_with fail
        refine (lmay_num d hd0 _).mono ?_
        rintro e w1 ⟨rfl, rfl⟩
        go_wp2_with fail
        obtain ⟨W, hW⟩ : ∃ W, W = (w.alloc (Obj.cells #[Value.int IntKind.u8 d, Value.slice a n cap] 25)) := ⟨_, rfl⟩
        rw [← hW]
        have hb0 : Below w.heap.size w W := hW ▸ below_alloc _ _
        have k0 : W.cell? ⟨w.heap.size, 0, none⟩ = some (.int .u8 d) := by rw [hW]; simp
        have k1 : W.cell? ⟨w.heap.size, 1, none⟩ = some (.slice a n cap) := by rw [hW]; simp
        clear hW
        go_loopw [23] (fun i wr => ∃ k : Nat, k ≤ n ∧ i = .int .i64 k ∧ Below W.heap.size W wr ∧ (∀ (j : Nat) (x y : Int), j < k → xs[j]? = some (x, y) → y ≤ 4 ∧ y ≠ d) ∧ (∀ (j : Nat) (x y x' y' : Int), j + 1 < k → xs[j]? = some (x, y) → xs[j + 1]? = some (x', y') → x < x')) (fun i _ => n - (intOf i).toNat)
        case atStart => exact ⟨0, by omega, rfl, Below.refl _ _, fun j _ _ h => by omega, fun j _ _ _ _ h => by omega⟩
        case round =>
          obtain ⟨k, hk, rfl, hbel, hup1, hup2⟩ := hrel
          have hbel' := ext_trans hb0 hbel
          have k0' : wr.cell? ⟨w.heap.size, 0, none⟩ = some (.int .u8 d) := by rw [hbel.cell (lt_of_cell k0)]; exact k0
          have k1' : wr.cell? ⟨w.heap.size, 1, none⟩ = some (.slice a n cap) := by rw [hbel.cell (lt_of_cell k1)]; exact k1
          have HU1 : Hid (∀ (j : Nat) (x y : Int), j < k → xs[j]? = some (x, y) → y ≤ 4 ∧ y ≠ d) := hup1
          have HU2 : Hid (∀ (j : Nat) (x y x' y' : Int), j + 1 < k → xs[j]? = some (x, y) → xs[j + 1]? = some (x', y') → x < x') := hup2
          clear hup1 hup2
          by_cases hlt : k < n
          · have hp : (k : Int) < (n : Int) := by omega
            obtain ⟨b1, off1, rfl, _⟩ := hr.at (by omega)
            obtain ⟨X, Y, hX, HXb⟩ := hr.get2 k hlt
            obtain ⟨c1, c2⟩ := (hr.below hbel').pair hX
            have HX : Hid (xs[k]? = some (X, Y)) := hX
            clear hX
            go_wp2_with fail
            obtain ⟨W2, hW2⟩ : ∃ W2, W2 = wr.alloc (Obj.cells #[Value.int IntKind.u16 X, Value.int IntKind.u8 Y] 46) := ⟨_, rfl⟩
            rw [← hW2]
            have hbel2 : Below W.heap.size W W2 := hW2 ▸ ext_trans hbel (below_alloc _ _)
            have hbel2' := ext_trans hb0 hbel2
            have g0 : W2.cell? ⟨w.heap.size, 0, none⟩ = some (.int .u8 d) := hW2 ▸ cell_old _ k0'
            have g1 : W2.cell? ⟨w.heap.size, 1, none⟩ = some (.slice (some ⟨b1, off1, none⟩) n cap) := hW2 ▸ cell_old _ k1'
            have g2 : W2.cell? ⟨wr.heap.size, 0, none⟩ = some (.int .u16 X) := by rw [hW2]; simp
            have g3 : W2.cell? ⟨wr.heap.size, 1, none⟩ = some (.int .u8 Y) := by rw [hW2]; simp
            clear hW2
            by_cases hY4 : Y ≤ 4
            · have t1 : decide (Y ≤ 4) = true := by simpa using hY4
              by_cases hYd : Y = d
              · subst hYd
                go_quiet (first | (go_at_call 57; refine Calls.quiet_of_same (lmay_num Y HXb.2.1 _)))
                go_wp2
                go_ret
                refine ⟨?_, bel_drewN hbel2' _⟩
                rw [mayB_false (fun h => (h.2.2.1 _ (List.mem_of_getElem? HX.out)).2 rfl)]; rfl
              · have t2 : (Y == d) = false := by simpa using hYd
                have HB1 : Hid (∀ (j : Nat) (x y : Int), j < k + 1 → xs[j]? = some (x, y) → y ≤ 4 ∧ y ≠ d) := fun j x y hj hx => by
                  by_cases h : j < k
                  · exact HU1.out j x y h hx
                  · obtain rfl : j = k := by omega
                    have := HX.out; rw [hx] at this; simp at this; omega
                by_cases hk0 : k = 0
                · have t3 : decide ((0 : Int) < (k : Int)) = false := by simp; omega
                  go_quiet (first | (go_at_call 57; refine Calls.quiet_of_same (lmay_num Y HXb.2.1 _)))
                  go_wp2
                  go_roundw
                  case rel => exact ⟨k + 1, by omega, by go_num, bel_drewN hbel2 _, HB1.out, fun j _ _ _ _ h => by omega⟩
                  case measure => simp [intOf]; omega
                · have t3 : 0 < k := by omega
                  have hq : ((k : Int) - 1) = ((k - 1 : Nat) : Int) := by omega
                  have hq2 : k - 1 < n := by omega
                  have hq3 : ((k - 1 : Nat) : Int) < (n : Int) := by omega
                  obtain ⟨X', Y', hX', _⟩ := hr.get2 (k - 1) hq2
                  obtain ⟨c3, c4⟩ := (hr.below hbel2').pair hX'
                  have HX' : Hid (xs[k - 1]? = some (X', Y')) := hX'
                  clear hX'
                  by_cases hle : X ≤ X'
                  · go_quiet (first | (go_at_call 57; refine Calls.quiet_of_same (lmay_num Y HXb.2.1 _)))
                    go_wp2
                    go_ret
                    refine ⟨?_, bel_drewN hbel2' _⟩
                    rw [mayB_false (fun h => by
                      have := h.2.2.2.lt (show k - 1 < k by omega) HX'.out HX.out
                      omega)]; rfl
                  · have t4 : decide (X ≤ X') = false := by simpa using hle
                    go_quiet (first | (go_at_call 57; refine Calls.quiet_of_same (lmay_num Y HXb.2.1 _)))
                    go_wp2
                    go_roundw
                    case rel =>
                      refine ⟨k + 1, by omega, by go_num, bel_drewN hbel2 _, HB1.out, fun j x y x' y' hj hx hx' => ?_⟩
                      by_cases h : j + 1 < k
                      · exact HU2.out j x y x' y' h hx hx'
                      · obtain rfl : j + 1 = k := by omega
                        have h1 := HX.out; have h2 := HX'.out
                        rw [hx'] at h1; rw [Nat.add_sub_cancel, hx] at h2
                        simp at h1 h2; omega
                    case measure => simp [intOf]; omega
            · have t1 : decide (Y ≤ 4) = false := by simpa using hY4
              go_quiet (first | (go_at_call 57; refine Calls.quiet_of_same (lmay_num Y HXb.2.1 _)))
              go_wp2
              go_ret
              refine ⟨?_, bel_drewN hbel2' _⟩
              rw [mayB_false (fun h => by have := (h.2.2.1 _ (List.mem_of_getElem? HX.out)).1; simp only at this; omega)]; rfl
          · obtain rfl : n = k := by omega
            go_wp2
            go_ret
            refine ⟨?_, hbel'⟩
            have hll := hl.out
            rw [mayB_iff.2 ⟨by omega, by omega, fun p hp => by
              obtain ⟨i, hi, rfl⟩ := List.mem_iff_getElem.1 hp
              exact HU1.out i xs[i].1 xs[i].2 (by omega) (List.getElem?_eq_getElem hi), up_of fun j x y x' y' hx hx' => HU2.out j x y x' y' (by have := (List.getElem?_eq_some_iff.1 hx').1; omega) hx hx'⟩]; rfl
    · have hd4' : decide (d ≤ 4) = false := by simpa using hd4
      go_enter Try.func33, Try.ntmps33
      go_wp2_with fail
      refine (lmay_num d hd0 _).mono ?_
      rintro e w1 ⟨rfl, rfl⟩
      go_wp2_with fail
      go_ret
      refine ⟨?_, below_alloc _ _⟩
      rw [mayB_false (fun h => by have := h.1.2; omega)]; rfl

set_option maxHeartbeats 2000000 in
theorem refMayL_any (d : Int) (a : Option Addr) (n cap : Nat) (xs : List (Int × Int)) (w : World) (hr : RowG PE w a n cap xs) :
    Calls Try.prog 22 #[.agg #[.int .u8 d, .slice a n cap]] w fun e w' => e = .returned (.bool (mayB d xs)) ∧ Below w.heap.size w w' := by
  have hl : Hid (xs.length = n) := hr.len
  have hcap := hr.cap_le
  have hcc := canon_any d a n cap xs _ (hr.below (below_alloc w (Obj.cells #[Value.int IntKind.u8 d, Value.slice a n cap] 25)))
  have hbo := fun w1 (h : Below (w.alloc (Obj.cells #[Value.int IntKind.u8 d, Value.slice a n cap] 25)).heap.size (w.alloc (Obj.cells #[Value.int IntKind.u8 d, Value.slice a n cap] 25)) w1) => (ext_trans (below_alloc w _) h : Below w.heap.size w w1)
  have hk : ∀ w1, Below (w.alloc (Obj.cells #[Value.int IntKind.u8 d, Value.slice a n cap] 25)).heap.size (w.alloc (Obj.cells #[Value.int IntKind.u8 d, Value.slice a n cap] 25)) w1 → w1.cell? ⟨w.heap.size, 0, none⟩ = some (.int .u8 d) ∧ w1.cell? ⟨w.heap.size, 1, none⟩ = some (.slice a n cap) := fun w1 h => ⟨by rw [h.cell (by simp)]; simp, by rw [h.cell (by simp)]; simp⟩
  have HK : Hid (_) := And.intro hbo hk
  clear hbo hk
  go_enter Try.func22, Try.ntmps22
  go_wp2_with fail
  refine hcc.mono ?_
  rintro e w1 ⟨rfl, hb1⟩
  obtain ⟨c0, c1⟩ := HK.out.2 w1 hb1
  have hbw := HK.out.1 w1 hb1
  clear HK hb1 hcc
  cases hcan : canB d xs
  · go_wp2_with fail
    go_ret
    refine ⟨?_, hbw⟩
    rw [mayB_false (fun h => by
      have := canB_iff.2 ⟨by omega, fun p hp => by have := (h.2.2.1 p hp).1; omega, h.2.2.2, fun p hp => (h.2.2.1 p hp).2⟩
      rw [hcan] at this; simp at this)]; rfl
  · have HCN : Hid (d ≤ 5 ∧ (∀ p ∈ xs, p.2 ≤ 5) ∧ CanL d xs) := canB_iff.1 hcan
    clear hcan
    by_cases hd1 : d < 1
    · go_wp2_with fail
      go_ret
      refine ⟨?_, hbw⟩
      rw [mayB_false (fun h => by have := h.1.1; omega)]; rfl
    · have hd1' : decide (d < 1) = false := by simpa using hd1
      by_cases hd4 : 4 < d
      · go_wp2_with fail
        go_ret
        refine ⟨?_, hbw⟩
        rw [mayB_false (fun h => by have := h.1.2; omega)]; rfl
      · have hd4' : decide (4 < d) = false := by simpa using hd4
        by_cases hn : 16 < n
        · have hn' : (16 : Int) < (n : Int) := by omega
          go_wp2_with fail
          go_ret
          refine ⟨?_, hbw⟩
          rw [mayB_false (fun h => by have := h.2.1; have := hl.out; omega)]; rfl
        · have hn' : decide ((16 : Int) < (n : Int)) = false := by simp; omega
          go_wp2_with fail
          go_loop [3] (fun i => ∃ k : Nat, k ≤ n ∧ i = .int .i64 k ∧ (∀ (j : Nat) (x y : Int), j < k → xs[j]? = some (x, y) → y ≤ 4)) (fun i => n - (intOf i).toNat)
          case atStart => exact ⟨0, by omega, rfl, fun j _ _ h => by omega⟩
          case round =>
            obtain ⟨k, hk, rfl, hup⟩ := hrel
            have HU1 : Hid (∀ (j : Nat) (x y : Int), j < k → xs[j]? = some (x, y) → y ≤ 4) := hup
            clear hup
            by_cases hlt : k < n
            · have hp : (k : Int) < (n : Int) := by omega
              obtain ⟨b1, off1, rfl, _⟩ := hr.at (by omega)
              obtain ⟨X, Y, hX, HXb⟩ := hr.get2 k hlt
              obtain ⟨t1, t2⟩ := (hr.below hbw).pair hX
              have HX : Hid (xs[k]? = some (X, Y)) := hX
              clear hX
              by_cases hY : 4 < Y
              · go_wp2_with fail
                go_ret
                refine ⟨?_, hbw⟩
                rw [mayB_false (fun h => by have := (h.2.2.1 _ (List.mem_of_getElem? HX.out)).1; simp only at this; omega)]; rfl
              · have hY' : decide (4 < Y) = false := by simpa using hY
                go_wp2_with fail
                go_round
                case rel =>
                  refine ⟨k + 1, by omega, by go_num, fun j x y hj hx => ?_⟩
                  by_cases h : j < k
                  · exact HU1.out j x y h hx
                  · obtain rfl : j = k := by omega
                    have := HX.out; rw [hx] at this; simp at this; omega
                case measure => simp [intOf]; omega
            · obtain rfl : n = k := by omega
              go_wp2_with fail
              go_ret
              refine ⟨?_, hbw⟩
              have hll := hl.out
              rw [mayB_iff.2 ⟨by omega, by omega, fun p hp => by
                obtain ⟨i, hi, rfl⟩ := List.mem_iff_getElem.1 hp
                exact ⟨HU1.out i xs[i].1 xs[i].2 (by omega) (List.getElem?_eq_getElem hi), HCN.out.2.2.2 _ hp⟩, HCN.out.2.2.1⟩]; rfl
end Go.Proofs.Ytldkelpngeopmaa
