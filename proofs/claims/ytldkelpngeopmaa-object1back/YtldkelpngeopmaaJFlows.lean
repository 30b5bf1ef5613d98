/- What goes through two labels at once, by goto, answers: a contract, for every two labels. What Join and Meet answer: contracts, over what goes through two labels at once. What the document's own Make of a list of categories is: a contract, for every list. What Flows, Stars and the document's Levels answer of labels: contracts. -/
import Derived.Test.YtldkelpngeopmaaJLabOut
import Derived.Test.YtldkelpngeopmaaJFind
import Derived.Test.YtldkelpngeopmaaRegion
namespace Go.Proofs.Ytldkelpngeopmaa
open Go.RowKit
set_option maxRecDepth 100000

theorem mg_first (d e : Int) {xs ys : List (Int × Int)} {X Y : Int} (hx : xs[0]? = some (X, Y)) (h : ys = [] ∨ ∃ X' Y', ys[0]? = some (X', Y') ∧ X < X') : mg d e xs ys = (X, Y, e) :: mg d e (xs.drop 1) ys := by
  cases xs with
  | nil => simp at hx
  | cons p ps =>
    obtain rfl : p = (X, Y) := by simpa using hx
    cases ys with
    | nil => rw [mg]; rfl
    | cons q qs =>
      rcases h with h | ⟨X', Y', h1, h2⟩
      · simp at h
      · obtain rfl : q = (X', Y') := by simpa using h1
        rw [mg, if_pos h2]; rfl
theorem mg_second (d e : Int) {xs ys : List (Int × Int)} {X Y : Int} (hx : ys[0]? = some (X, Y)) (h : xs = [] ∨ ∃ X' Y', xs[0]? = some (X', Y') ∧ X < X') : mg d e xs ys = (X, d, Y) :: mg d e xs (ys.drop 1) := by
  cases ys with
  | nil => simp at hx
  | cons p ps =>
    obtain rfl : p = (X, Y) := by simpa using hx
    cases xs with
    | nil => rw [mg]; rfl
    | cons q qs =>
      rcases h with h | ⟨X', Y', h1, h2⟩
      · simp at h
      · obtain rfl : q = (X', Y') := by simpa using h1
        rw [mg, if_neg (by simp only; omega), if_pos h2]; rfl
theorem mg_same (d e : Int) {xs ys : List (Int × Int)} {X Y Y' : Int} (hx : xs[0]? = some (X, Y)) (hy : ys[0]? = some (X, Y')) : mg d e xs ys = (X, Y, Y') :: mg d e (xs.drop 1) (ys.drop 1) := by
  cases xs with
  | nil => simp at hx
  | cons p ps =>
    obtain rfl : p = (X, Y) := by simpa using hx
    cases ys with
    | nil => simp at hy
    | cons q qs =>
      obtain rfl : q = (X, Y') := by simpa using hy
      rw [mg, if_neg (by simp only; omega), if_neg (by simp only; omega)]; rfl

/-- A slot of a run. -/
def sl (a : Act) (i : Nat) : Value := a.tmps.getD i undef
def LMu (l : Nat) (a' : Act) (_ : World) : Nat := 2 * (slen (a'.tmps.getD 6 undef) + slen (a'.tmps.getD 7 undef)) + (if l = 0 then 1 else 0)

end Go.Proofs.Ytldkelpngeopmaa

namespace Go.Proofs.Ytldkelpngeopmaa
open Go.RowKit
set_option maxRecDepth 100000

theorem cmb_snoc (D : Int) (f : Int → Int → Int) (rs : List (Int × Int × Int)) (r : Int × Int × Int) : cmb D f (rs ++ [r]) = cmb D f rs ++ unl r.1 (f r.2.1 r.2.2) D := by
  induction rs with
  | nil => simp [cmb, unl]
  | cons q rs ih =>
    rw [List.cons_append, cmb, cmb, ih]
    split <;> simp
theorem mg_lv (d e : Int) (xs ys : List (Int × Int)) (hx : LvL d xs) (hy : LvL e ys) : ∀ r ∈ mg d e xs ys, (0 ≤ r.2.1 ∧ r.2.1 ≤ 5) ∧ 0 ≤ r.2.2 ∧ r.2.2 ≤ 5 := by
  have hd := hx.1; have he := hy.1
  replace hx := hx.2; replace hy := hy.2
  fun_induction mg d e xs ys with
  | case1 => simp
  | case2 p ps ih =>
    intro r hr
    rcases List.mem_cons.1 hr with rfl | hr
    · exact ⟨hx p (by simp), he⟩
    · exact ih (fun q hq => hx q (by simp [hq])) hy r hr
  | case3 q qs ih =>
    intro r hr
    rcases List.mem_cons.1 hr with rfl | hr
    · exact ⟨hd, hy q (by simp)⟩
    · exact ih hx (fun q' hq => hy q' (by simp [hq])) r hr
  | case4 p ps q qs h ih =>
    intro r hr
    rcases List.mem_cons.1 hr with rfl | hr
    · exact ⟨hx p (by simp), he⟩
    · exact ih (fun q hq => hx q (by simp [hq])) hy r hr
  | case5 p ps q qs h h' ih =>
    intro r hr
    rcases List.mem_cons.1 hr with rfl | hr
    · exact ⟨hd, hy q (by simp)⟩
    · exact ih hx (fun q' hq => hy q' (by simp [hq])) r hr
  | case6 p ps q qs h h' ih =>
    intro r hr
    rcases List.mem_cons.1 hr with rfl | hr
    · exact ⟨hx p (by simp), hy q (by simp)⟩
    · exact ih (fun q hq => hx q (by simp [hq])) (fun q' hq => hy q' (by simp [hq])) r hr

end Go.Proofs.Ytldkelpngeopmaa

namespace Go.Proofs.Ytldkelpngeopmaa
open Go.RowKit
set_option maxRecDepth 100000

theorem mem_take_succ {xs : List Int} {i : Nat} (hi : i < xs.length) {x : Int} : x ∈ xs.take (i + 1) ↔ x ∈ xs.take i ∨ x = xs.getD i 0 := by
  rw [List.take_succ_eq_append_getElem hi, List.mem_append, List.mem_singleton, getD_eq hi]
theorem ownw_lit_at (w : World) (g : Nat) (hg : w.heap.size = g) (e : TypeId) (xs : List Int) (n : Nat) (hn : xs.length = n) (hm : n ≤ 9223372036854775807) (hb : Wrd xs) {B : Nat} (hB : B ≤ w.heap.size) : OwnW e (w.alloc (.cells (xs.map (Value.int .u16)).toArray e)) B (some ⟨g, 0, none⟩) n n xs := by
  subst hg; exact (ownw_lit w e xs n hn hm hb).mono hB
theorem roww_lit_at (w : World) (g : Nat) (hg : w.heap.size = g) (e : TypeId) (xs : List Int) (n : Nat) (hn : xs.length = n) (hm : n ≤ 9223372036854775807) (hb : Wrd xs) : RowW (w.alloc (.cells (xs.map (Value.int .u16)).toArray e)) (some ⟨g, 0, none⟩) n n xs := by
  subst hg; exact roww_lit w e xs n hn hm hb

end Go.Proofs.Ytldkelpngeopmaa

namespace Go.Proofs.Ytldkelpngeopmaa
open Go.RowKit
set_option maxRecDepth 100000

/-- The categories of pairs of a level. -/
def starsL (lev : Int) (ps : List (Int × Int)) : List Int := (ps.filter fun p => decide (p.2 = lev)).map Prod.fst
theorem stars_snoc_y (lev : Int) (ps : List (Int × Int)) (x : Int) : starsL lev (ps ++ [(x, lev)]) = starsL lev ps ++ [x] := by simp [starsL]
theorem stars_snoc_n (lev : Int) (ps : List (Int × Int)) (x y : Int) (h : y ≠ lev) : starsL lev (ps ++ [(x, y)]) = starsL lev ps := by simp [starsL, h]
theorem info25 : (Try.prog.info? 42).map (fun i => (i.zero, i.size, i.bytes)) = some (some (.int .u16 0), 1, 2) := by kernel_rfl

set_option maxHeartbeats 1000000 in
theorem levels_any (d : Int) (a : Option Addr) (n cap : Nat) (xs : List (Int × Int)) (lev : Int) (w : World) (hr : RowG PE w a n cap xs) (hbd : n ≤ 1000000) :
    Calls Try.prog 23 #[.agg #[.int .u8 d, .slice a n cap], .int .u8 lev] w fun e w' => ∃ so k co, e = .returned (.slice so k co) ∧ OwnW 42 w' w.heap.size so k co (starsL lev xs) ∧ Below w.heap.size w w' := by
  have hl : Hid (xs.length = n) := hr.len
  have hcap := hr.cap_le
  go_enter Try.func23, Try.ntmps23
  go_wp2_with fail
  obtain ⟨W, hW⟩ : ∃ W, W = (w.alloc (Obj.cells #[Value.int IntKind.u8 d, Value.slice a n cap] 25)) := ⟨_, rfl⟩
  rw [← hW]
  have hb0 : Below w.heap.size w W := hW ▸ below_alloc _ _
  have k1 : W.cell? ⟨w.heap.size, 1, none⟩ = some (.slice a n cap) := by rw [hW]; simp
  clear hW
  go_loopw [5, 6] (fun o i wr => ∃ (j : Nat) (so : Option Addr) (no co : Nat), j ≤ n ∧ o = .slice so no co ∧ i = .int .i64 j ∧ OwnW 42 wr W.heap.size so no co (starsL lev (xs.take j)) ∧ Below W.heap.size W wr ∧ no ≤ j) (fun _ i _ => n - (intOf i).toNat)
  case atStart => exact ⟨0, none, 0, 0, by omega, rfl, rfl, by simpa [starsL] using OwnW.of_nil 42 _ _, Below.refl _ _, by omega⟩
  case round =>
    obtain ⟨j, so, no, co, hj, rfl, rfl, hown, hbr, hno⟩ := hrel
    have k1' : wr.cell? ⟨w.heap.size, 1, none⟩ = some (.slice a n cap) := by rw [hbr.cell (lt_of_cell k1)]; exact k1
    by_cases hlt : j < n
    · have hp : (j : Int) < (n : Int) := by omega
      obtain ⟨b, off, rfl, _⟩ := hr.at (by omega)
      obtain ⟨X, Y, hX, HXb⟩ := hr.get2 j hlt
      obtain ⟨t1, t2⟩ := (hr.below (ext_trans hb0 hbr)).pair hX
      have HX : Hid (xs[j]? = some (X, Y)) := hX
      clear hX
      by_cases hY : Y = lev
      · subst hY
        have h1 := below_alloc wr (.cells #[.int .u16 X] 42)
        go_wp2_with (at_builtin; refine wp_append_words _ rfl (.tmp 22) (.tmp 29) 26 rfl 42 Try.underlying26 info25 W.heap.size no co so _ rfl (hown.below h1) (some ⟨wr.heap.size, 0, none⟩) 1 1 [X] rfl (roww_lit_at _ _ (by simp) 42 [X] 1 rfl (by omega) (Wrd.one HXb.1)) (by omega) (by simp; have := hbr.size; omega) W (ext_trans hbr h1) ?_; intro so' co' w3 hown3 hbel3)
        go_roundw
        case rel =>
          refine ⟨j + 1, so', no + 1, co', by omega, rfl, by go_num, ?_, hbel3, by omega⟩
          rw [take_snoc HX.out, stars_snoc_y]
          exact hown3
        case measure => simp [intOf]; omega
      · have hY' : (Y == lev) = false := by simpa using hY
        go_wp2_with fail
        go_roundw
        case rel =>
          refine ⟨j + 1, so, no, co, by omega, rfl, by go_num, ?_, hbr, by omega⟩
          rw [take_snoc HX.out, stars_snoc_n _ _ _ _ hY]
          exact hown
        case measure => simp [intOf]; omega
    · obtain rfl : j = n := by omega
      go_wp2_with fail
      go_ret
      refine ⟨so, no, co, rfl, ?_, ext_trans hb0 hbr⟩
      rw [List.take_of_length_le (by rw [hl.out]; exact Nat.le_refl _)] at hown
      exact hown.mono hb0.size
end Go.Proofs.Ytldkelpngeopmaa
