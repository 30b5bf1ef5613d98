/- What the functions that only read labels answer: contracts. -/
import Derived.Test.YtdoemkncgfgkhaaLabFind
namespace Go.Proofs.Ytdoemkncgfgkhaa
open Go.RowKit
set_option maxRecDepth 100000

set_option maxHeartbeats 400000 in
theorem find_any (a : Option Addr) (n cap : Nat) (xs : List (Int × Int)) (c : Int) (w : World) (hr : RowG PE w a n cap xs) (hs : UpL xs) (hbd : n ≤ 70368744177664) :
    Calls Try.prog 62 #[.slice a n cap, .int .u16 c] w fun e w' => ∃ (p : Nat) (q : Bool), e = .returned (.tuple #[.int .i64 p, .bool q]) ∧ p ≤ n ∧ (∀ t x y, xs[t]? = some (x, y) → t < p → x < c) ∧ (∀ t x y, xs[t]? = some (x, y) → p ≤ t → c ≤ x) ∧ (q = true ↔ ∃ y, xs[p]? = some (c, y)) ∧ Below w.heap.size w w' := by
  go_enter Try.func62, Try.ntmps62
  go_wp2_with fail
  refine (search_any a n cap xs c w hr hs hbd).mono ?_
  rintro e w1 ⟨p, q, rfl, h⟩
  have H : Hid (_ ∧ _) := h
  clear h
  go_wp2_with fail
  go_ret2
  exact ⟨p, q, rfl, H.out⟩
theorem atL_found {d : Int} {xs : List (Int × Int)} (hs : UpL xs) {p : Nat} {c y : Int} (h : xs[p]? = some (c, y)) : atL d xs c = y := atL_mem d hs (List.mem_of_getElem? h)
theorem atL_lost {d : Int} {xs : List (Int × Int)} {p : Nat} {c : Int} (hlo : ∀ t x y, xs[t]? = some (x, y) → t < p → x < c) (hhi : ∀ t x y, xs[t]? = some (x, y) → p ≤ t → c ≤ x) (hs : UpL xs) (hn : ¬ ∃ y, xs[p]? = some (c, y)) : atL d xs c = d := by
  refine atL_off d xs c fun q hq => ?_
  obtain ⟨i, hi, rfl⟩ := List.mem_iff_getElem.1 hq
  intro he
  have hx : xs[i]? = some (c, xs[i].2) := by rw [List.getElem?_eq_getElem hi, ← he]
  by_cases h1 : i < p
  · have := hlo i _ _ hx h1; omega
  · by_cases h2 : i = p
    · subst h2; exact hn ⟨_, hx⟩
    · have hp : p < xs.length := by omega
      have h3 : xs[p]? = some (xs[p].1, xs[p].2) := List.getElem?_eq_getElem hp
      have h4 := hhi p _ _ h3 (Nat.le_refl _)
      have h5 := hs.lt (show p < i by omega) h3 hx
      omega
set_option maxHeartbeats 400000 in
theorem at_any (d : Int) (a : Option Addr) (n cap : Nat) (xs : List (Int × Int)) (c : Int) (w : World) (hr : RowG PE w a n cap xs) (hs : UpL xs) (hbd : n ≤ 70368744177664) :
    Calls Try.prog 74 #[.agg #[.int .u8 d, .slice a n cap], .int .u16 c] w fun e w' => e = .returned (.int .u8 (atL d xs c)) ∧ Below w.heap.size w w' := by
  go_enter Try.func74, Try.ntmps74
  go_wp2_with fail
  have hb0 := below_alloc w (.cells #[.int .u8 d, .slice a n cap] 24)
  refine (find_any a n cap xs c _ (hr.below hb0) hs hbd).mono ?_
  rintro e w1 ⟨p, q, rfl, hp, hlo, hhi, hq, hb1⟩
  have k1 : w1.cell? ⟨w.heap.size, 0, none⟩ = some (.int .u8 d) := by rw [hb1.cell (by simp)]; simp
  have k2 : w1.cell? ⟨w.heap.size, 1, none⟩ = some (.slice a n cap) := by rw [hb1.cell (by simp)]; simp
  have hb2 := ext_trans hb0 hb1
  cases q
  · have hat : Hid (atL d xs c = d) := atL_lost hlo hhi hs (fun h => by simpa using hq.2 h)
    clear hq hlo hhi
    go_wp2_with fail
    go_ret
    exact ⟨by rw [hat.out]; rfl, hb2⟩
  · obtain ⟨y, hy⟩ := hq.1 rfl
    have hat : Hid (atL d xs c = y) := atL_found hs hy
    have hpn : p < n := by have := (List.getElem?_eq_some_iff.1 hy).1; have := hr.len; omega
    have hpn' : (p : Int) < (n : Int) := by omega
    obtain ⟨b, off, rfl, _⟩ := hr.at (by omega)
    obtain ⟨c1, c2⟩ := (hr.below hb2).pair hy
    clear hq hlo hhi hy
    go_wp2_with fail
    go_ret
    exact ⟨by rw [hat.out]; rfl, hb2⟩

theorem pairs_ext {xs ys : List (Int × Int)} (hl : xs.length = ys.length) (h : ∀ (i : Nat) (x y x' y' : Int), xs[i]? = some (x, y) → ys[i]? = some (x', y') → x = x' ∧ y = y') : xs = ys := by
  apply List.ext_getElem hl
  intro i h1 h2
  obtain ⟨e1, e2⟩ := h i xs[i].1 xs[i].2 ys[i].1 ys[i].2 (List.getElem?_eq_getElem h1) (List.getElem?_eq_getElem h2)
  exact Prod.ext e1 e2
end Go.Proofs.Ytdoemkncgfgkhaa
