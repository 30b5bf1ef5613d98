/- What the functions that only read labels answer: contracts. -/
import Derived.Test.YtldkelpngeopmaaLabFind
namespace Go.Proofs.Ytldkelpngeopmaa
open Go.RowKit
set_option maxRecDepth 100000

theorem atL_found {d : Int} {xs : List (Int × Int)} (hs : UpL xs) {p : Nat} {c y : Int} (h : xs[p]? = some (c, y)) : atL d xs c = y := atL_mem d hs (List.mem_of_getElem? h)
theorem atL_lost {d : Int} {xs : List (Int × Int)} {p : Nat} {c : Int} (hlo : ∀ t x y, xs[t]? = some (x, y) → t < p → x < c) (hhi : ∀ t x y, xs[t]? = some (x, y) → p ≤ t → c ≤ x) (hs : UpL xs) (hn : ¬ ∃ y, xs[p]? = some (c, y)) : atL d xs c = d := by
  refine atL_off d xs c fun q hq => ?_
  obtain ⟨i, hi, rfl⟩ := List.mem_iff_getElem.1 hq
  intro he
  have hx : xs[i]? = some (c, xs[i].2) := by rw [List.getElem?_eq_getElem hi, ← he]
  by_cases h1 : i < p
  · have := hlo i _ _ hx h1; omega
  · by_cases h2 : i = p
    · subst h2; exact hn ⟨_, hx⟩
    · have hp : p < xs.length := by omega
      have h3 : xs[p]? = some (xs[p].1, xs[p].2) := List.getElem?_eq_getElem hp
      have h4 := hhi p _ _ h3 (Nat.le_refl _)
      have h5 := hs.lt (show p < i by omega) h3 hx
      omega
theorem pairs_ext {xs ys : List (Int × Int)} (hl : xs.length = ys.length) (h : ∀ (i : Nat) (x y x' y' : Int), xs[i]? = some (x, y) → ys[i]? = some (x', y') → x = x' ∧ y = y') : xs = ys := by
  apply List.ext_getElem hl
  intro i h1 h2
  obtain ⟨e1, e2⟩ := h i xs[i].1 xs[i].2 ys[i].1 ys[i].2 (List.getElem?_eq_getElem h1) (List.getElem?_eq_getElem h2)
  exact Prod.ext e1 e2
set_option maxHeartbeats 1000000 in
theorem equal_any (a : Option Addr) (n cap : Nat) (xs : List (Int × Int)) (b : Option Addr) (m cap2 : Nat) (ys : List (Int × Int)) (w : World) (hr : RowG PE w a n cap xs) (hs : RowG PE w b m cap2 ys) :
    Calls Try.prog 50 #[.slice a n cap, .slice b m cap2] w fun e w' => e = .returned (.bool (decide (xs = ys))) ∧ Below w.heap.size w w' := by
  have hl : Hid (xs.length = n) := hr.len
  have hm : Hid (ys.length = m) := hs.len
  have hcap := hr.cap_le
  by_cases hnm : n = m
  · subst hnm
    go_enter Try.func50, Try.ntmps50
    go_wp2_with fail
    go_loopw [13] (fun i wr => ∃ k : Nat, k ≤ n ∧ i = .int .i64 k ∧ Below w.heap.size w wr ∧ ∀ j x y x' y', j < k → xs[j]? = some (x, y) → ys[j]? = some (x', y') → x = x' ∧ y = y') (fun i _ => n - (intOf i).toNat)
    case atStart => exact ⟨0, by omega, rfl, Below.refl _ _, fun j _ _ _ _ h => by omega⟩
    case round =>
      obtain ⟨k, hk, rfl, hbel, hup⟩ := hrel
      by_cases hlt : k < n
      · have hp : (k : Int) < (n : Int) := by omega
        obtain ⟨b1, off1, rfl, _⟩ := hr.at (by omega)
        obtain ⟨b2, off2, rfl, _⟩ := hs.at (by omega)
        obtain ⟨X, Y, hX, _⟩ := hr.get2 k hlt
        obtain ⟨X', Y', hX', _⟩ := hs.get2 k hlt
        obtain ⟨c1, c2⟩ := (hr.below hbel).pair hX
        obtain ⟨c3, c4⟩ := (hs.below hbel).pair hX'
        have HX : Hid (xs[k]? = some (X, Y)) := hX
        have HX' : Hid (ys[k]? = some (X', Y')) := hX'
        clear hX hX'
        by_cases hle : X = X' ∧ Y = Y'
        · obtain ⟨rfl, rfl⟩ := hle
          go_wp2
          go_quiet (fail)
          go_wp2
          go_roundw
          case rel =>
            refine ⟨k + 1, by omega, by go_num, bel_drewN hbel _, fun j x y x' y' h2 hx hx' => ?_⟩
            by_cases hj : j < k
            · exact hup j x y x' y' hj hx hx'
            · obtain rfl : j = k := by omega
              rw [HX.out] at hx; rw [HX'.out] at hx'
              simp only [Option.some.injEq, Prod.mk.injEq] at hx hx'
              omega
          case measure => simp [intOf]; omega
        · by_cases hXX : X = X'
          · subst hXX
            have hle' : (Y == Y') = false := by simp only [beq_eq_false_iff_ne, ne_eq]; exact fun e => hle ⟨rfl, e⟩
            go_wp2
            go_quiet (fail)
            go_wp2
            go_ret
            refine ⟨?_, bel_drewN hbel _⟩
            rw [decide_eq_false (fun e => (show ¬ Y = Y' by simpa using hle') (by have h1 := HX.out; rw [e, HX'.out] at h1; simp at h1; exact h1.symm))]; rfl
          · have hle' : (X == X') = false := by simpa using hXX
            go_wp2
            go_quiet (fail)
            go_wp2
            go_ret
            refine ⟨?_, bel_drewN hbel _⟩
            rw [decide_eq_false (fun e => hle (by have h1 := HX.out; rw [e, HX'.out] at h1; simp at h1; exact ⟨h1.1.symm, h1.2.symm⟩))]; rfl
      · obtain rfl : k = n := by omega
        go_wp2
        go_ret
        refine ⟨?_, hbel⟩
        rw [decide_eq_true (pairs_ext (hl.out.trans hm.out.symm) (fun j x y x' y' hx hx' => hup j x y x' y' (by have := hl.out; have := (List.getElem?_eq_some_iff.1 hx).1; omega) hx hx'))]; rfl
  · have h1 : ((n : Int) == (m : Int)) = false := by simp; omega
    go_enter Try.func50, Try.ntmps50
    go_wp2_with fail
    go_ret
    refine ⟨?_, Below.refl _ _⟩
    rw [decide_eq_false (fun e => hnm (by rw [← hl.out, ← hm.out, e]))]; rfl
end Go.Proofs.Ytldkelpngeopmaa
