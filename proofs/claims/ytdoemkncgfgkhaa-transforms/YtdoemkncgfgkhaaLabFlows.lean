/- What Flows, Stars and the document's Levels answer of labels: contracts. -/
import Derived.Test.YtdoemkncgfgkhaaLabJoin
import Derived.Test.YtdoemkncgfgkhaaRefSet
namespace Go.Proofs.Ytdoemkncgfgkhaa
open Go.RowKit
set_option maxRecDepth 100000

set_option maxHeartbeats 1000000 in
theorem flowsL_any (d d' : Int) (a1 a2 : Option Addr) (n1 c1 n2 c2 : Nat) (xs ys : List (Int × Int)) (w : World) (hr : RowG PE w a1 n1 c1 xs) (hs : RowG PE w a2 n2 c2 ys) (hlx : LvL d xs) (hly : LvL d' ys) (hux : UpL xs) (huy : UpL ys) (hbd : n1 + n2 ≤ 1000) :
    Calls Try.prog 30 #[.agg #[.int .u8 d, .slice a1 n1 c1], .agg #[.int .u8 d', .slice a2 n2 c2]] w fun e w' => ∃ q : Bool, e = .returned (.bool q) ∧ (q = true ↔ FlL d xs d' ys) ∧ Below w.heap.size w w' := by
  have hcap1 := hr.cap_le
  have hcap2 := hs.cap_le
  have hlv := mg_lv d d' xs ys hlx hly
  have hfl : Hid (FlL d xs d' ys ↔ (∀ r ∈ mg d d' xs ys, r.2.1 ≤ r.2.2) ∧ d ≤ d') := fl_iff d d' hux huy (fun p hp => (hr.ok p hp).1.1) (fun p hp => (hs.ok p hp).1.1)
  go_enter Try.func30, Try.ntmps30
  go_wp2_with fail
  refine (mergeL_any d d' a1 a2 n1 c1 n2 c2 xs ys _ (hr.below (two_allocs _ _ _)) (hs.below (two_allocs _ _ _)) (by have := hlx.1; omega) (by have := hly.1; omega) (by omega)).mono ?_
  rintro e W0 ⟨ro, k, rc, rfl, hrow, hk, hb⟩
  have hbW : Below w.heap.size w W0 := ext_trans (two_allocs _ _ _) hb
  have k0 : W0.cell? ⟨w.heap.size, 0, none⟩ = some (.int .u8 d) := by rw [hb.cell (by simp <;> omega)]; simp
  have k1 : W0.cell? ⟨w.heap.size + 1, 0, none⟩ = some (.int .u8 d') := by rw [hb.cell (by simp)]; simp
  have hrl : Hid ((mg d d' xs ys).length = k) := hrow.1
  replace hrow := hrow.row
  have hrc := hrow.cap_le
  have HLV : Hid (∀ r ∈ mg d d' xs ys, (0 ≤ r.2.1 ∧ r.2.1 ≤ 5) ∧ 0 ≤ r.2.2 ∧ r.2.2 ≤ 5) := hlv
  clear hlv hb
  generalize mg d d' xs ys = rs at hrow hrl HLV hfl
  go_wp2_with fail
  go_loopw [13] (fun i wr => ∃ j : Nat, j ≤ k ∧ i = .int .i64 j ∧ Below W0.heap.size W0 wr ∧ ∀ (t : Nat) (x y z : Int), t < j → rs[t]? = some (x, y, z) → y ≤ z) (fun i _ => k - (intOf i).toNat)
  case atStart => exact ⟨0, by omega, rfl, Below.refl _ _, fun t _ _ _ h => by omega⟩
  case round =>
    obtain ⟨j, hj, rfl, hbr, hup⟩ := hrel
    have HUP : Hid (∀ (t : Nat) (x y z : Int), t < j → rs[t]? = some (x, y, z) → y ≤ z) := hup
    clear hup
    by_cases hlt : j < k
    · have hp : (j : Int) < (k : Int) := by omega
      obtain ⟨rb, roff, rfl, _⟩ := hrow.at (by omega)
      obtain ⟨X, Y, Z, hX, HX3⟩ := hrow.get3 j hlt
      have hlvk := HLV.out _ (List.mem_of_getElem? hX)
      simp only at hlvk
      obtain ⟨t1, t2, t3⟩ := (hrow.below hbr).three hX
      have HX : Hid (rs[j]? = some (X, Y, Z)) := hX
      clear hX
      go_wp2_with fail
      refine (lflows_num Y Z hlvk.1 hlvk.2 _).mono ?_
      rintro e w3 ⟨rfl, rfl⟩
      by_cases hYZ : Y ≤ Z
      · have hYZ' : decide (Y ≤ Z) = true := by simpa using hYZ
        go_wp2_with fail
        go_roundw
        case rel =>
          refine ⟨j + 1, by omega, by go_num, ext_trans hbr (below_alloc _ _), fun t x y z ht hx => ?_⟩
          by_cases h : t < j
          · exact HUP.out t x y z h hx
          · obtain rfl : t = j := by omega
            have := HX.out; rw [hx] at this; simp at this; omega
        case measure => simp [intOf]; omega
      · have hYZ' : decide (Y ≤ Z) = false := by simpa using hYZ
        go_wp2_with fail
        go_ret
        refine ⟨false, rfl, ⟨fun h => by simp at h, fun h => ?_⟩, ext_trans hbW (ext_trans hbr (below_alloc _ _))⟩
        have h1 := (hfl.out.1 h).1 _ (List.mem_of_getElem? HX.out)
        simp only at h1
        omega
    · obtain rfl : j = k := by omega
      have e1 : ((j : Int) == 65536) = false := by simp; omega
      have k0' : wr.cell? ⟨w.heap.size, 0, none⟩ = some (.int .u8 d) := by rw [hbr.cell (lt_of_cell k0)]; exact k0
      have k1' : wr.cell? ⟨w.heap.size + 1, 0, none⟩ = some (.int .u8 d') := by rw [hbr.cell (lt_of_cell k1)]; exact k1
      go_wp2_with fail
      refine (lflows_num d d' hlx.1 hly.1 _).mono ?_
      rintro e w3 ⟨rfl, rfl⟩
      have hdd : Hid (decide (d ≤ d') = true ↔ d ≤ d') := decide_eq_true_iff
      generalize decide (d ≤ d') = q at hdd
      go_wp2_with fail
      go_ret
      refine ⟨q, rfl, ?_, ext_trans hbW hbr⟩
      rw [hdd.out, hfl.out]
      refine ⟨fun h => ⟨fun r hr => ?_, h⟩, fun h => h.2⟩
      obtain ⟨i, hi, rfl⟩ := List.mem_iff_getElem.1 hr
      exact HUP.out i rs[i].1 rs[i].2.1 rs[i].2.2 (by have := hrl.out; omega) (List.getElem?_eq_getElem hi)

/-- The categories of pairs of a level. -/
def starsL (lev : Int) (ps : List (Int × Int)) : List Int := (ps.filter fun p => decide (p.2 = lev)).map Prod.fst
theorem stars_snoc_y (lev : Int) (ps : List (Int × Int)) (x : Int) : starsL lev (ps ++ [(x, lev)]) = starsL lev ps ++ [x] := by simp [starsL]
theorem stars_snoc_n (lev : Int) (ps : List (Int × Int)) (x y : Int) (h : y ≠ lev) : starsL lev (ps ++ [(x, y)]) = starsL lev ps := by simp [starsL, h]
theorem info25 : (Try.prog.info? 38).map (fun i => (i.zero, i.size, i.bytes)) = some (some (.int .u16 0), 1, 2) := by kernel_rfl

set_option maxHeartbeats 1000000 in
theorem stars_any (d : Int) (a : Option Addr) (n cap : Nat) (xs : List (Int × Int)) (w : World) (hr : RowG PE w a n cap xs) (hbd : n ≤ 1000000) :
    Calls Try.prog 41 #[.agg #[.int .u8 d, .slice a n cap]] w fun e w' => ∃ so k co, e = .returned (.slice so k co) ∧ OwnW 38 w' w.heap.size so k co (starsL 0 xs) ∧ Below w.heap.size w w' := by
  have hl : Hid (xs.length = n) := hr.len
  have hcap := hr.cap_le
  go_enter Try.func41, Try.ntmps41
  go_wp2_with fail
  go_loopw [3, 9] (fun o i wr => ∃ (j : Nat) (so : Option Addr) (no co : Nat), j ≤ n ∧ o = .slice so no co ∧ i = .int .i64 j ∧ OwnW 38 wr w.heap.size so no co (starsL 0 (xs.take j)) ∧ Below w.heap.size w wr ∧ no ≤ j) (fun _ i _ => n - (intOf i).toNat)
  case atStart => exact ⟨0, none, 0, 0, by omega, rfl, rfl, by simpa [starsL] using OwnW.of_nil 38 _ _, below_alloc _ _, by omega⟩
  case round =>
    obtain ⟨j, so, no, co, hj, rfl, rfl, hown, hbr, hno⟩ := hrel
    by_cases hlt : j < n
    · have hp : (j : Int) < (n : Int) := by omega
      obtain ⟨b, off, rfl, _⟩ := hr.at (by omega)
      obtain ⟨X, Y, hX, HXb⟩ := hr.get2 j hlt
      obtain ⟨t1, t2⟩ := (hr.below hbr).pair hX
      have HX : Hid (xs[j]? = some (X, Y)) := hX
      clear hX
      by_cases hY : Y = 0
      · subst hY
        have h1 := two_allocs wr (.cells #[.int .u16 X, .int .u8 0] 40) (.cells #[.int .u16 X] 38)
        go_wp2_with (at_builtin; refine wp_append_words _ rfl (.tmp 16) (.tmp 19) 25 rfl 38 Try.underlying25 info25 w.heap.size no co so _ rfl (hown.below h1) (some ⟨wr.heap.size + 1, 0, none⟩) 1 1 [X] rfl (roww_lit_at _ _ (by simp) 38 [X] 1 rfl (by omega) (Wrd.one HXb.1)) (by omega) (by simp; have := hbr.size; omega) w (ext_trans hbr h1) ?_; intro so' co' w3 hown3 hbel3)
        go_roundw
        case rel =>
          refine ⟨j + 1, so', no + 1, co', by omega, rfl, by go_num, ?_, hbel3, by omega⟩
          rw [take_snoc HX.out, stars_snoc_y]
          exact hown3
        case measure => simp [intOf]; omega
      · have hY' : (Y == 0) = false := by simpa using hY
        go_wp2_with fail
        go_roundw
        case rel =>
          refine ⟨j + 1, so, no, co, by omega, rfl, by go_num, ?_, ext_trans hbr (below_alloc _ _), by omega⟩
          rw [take_snoc HX.out, stars_snoc_n _ _ _ _ hY]
          exact hown.below (below_alloc _ _)
        case measure => simp [intOf]; omega
    · obtain rfl : j = n := by omega
      go_wp2_with fail
      go_ret
      refine ⟨so, no, co, rfl, ?_, hbr⟩
      rwa [List.take_of_length_le (by rw [hl.out]; exact Nat.le_refl _)] at hown

set_option maxHeartbeats 1000000 in
theorem levels_any (d : Int) (a : Option Addr) (n cap : Nat) (xs : List (Int × Int)) (lev : Int) (w : World) (hr : RowG PE w a n cap xs) (hbd : n ≤ 1000000) :
    Calls Try.prog 27 #[.agg #[.int .u8 d, .slice a n cap], .int .u8 lev] w fun e w' => ∃ so k co, e = .returned (.slice so k co) ∧ OwnW 38 w' w.heap.size so k co (starsL lev xs) ∧ Below w.heap.size w w' := by
  have hl : Hid (xs.length = n) := hr.len
  have hcap := hr.cap_le
  go_enter Try.func27, Try.ntmps27
  go_wp2_with fail
  obtain ⟨W, hW⟩ : ∃ W, W = (w.alloc (Obj.cells #[Value.int IntKind.u8 d, Value.slice a n cap] 24)) := ⟨_, rfl⟩
  rw [← hW]
  have hb0 : Below w.heap.size w W := hW ▸ below_alloc _ _
  have k1 : W.cell? ⟨w.heap.size, 1, none⟩ = some (.slice a n cap) := by rw [hW]; simp
  clear hW
  go_loopw [5, 6] (fun o i wr => ∃ (j : Nat) (so : Option Addr) (no co : Nat), j ≤ n ∧ o = .slice so no co ∧ i = .int .i64 j ∧ OwnW 38 wr W.heap.size so no co (starsL lev (xs.take j)) ∧ Below W.heap.size W wr ∧ no ≤ j) (fun _ i _ => n - (intOf i).toNat)
  case atStart => exact ⟨0, none, 0, 0, by omega, rfl, rfl, by simpa [starsL] using OwnW.of_nil 38 _ _, Below.refl _ _, by omega⟩
  case round =>
    obtain ⟨j, so, no, co, hj, rfl, rfl, hown, hbr, hno⟩ := hrel
    have k1' : wr.cell? ⟨w.heap.size, 1, none⟩ = some (.slice a n cap) := by rw [hbr.cell (lt_of_cell k1)]; exact k1
    by_cases hlt : j < n
    · have hp : (j : Int) < (n : Int) := by omega
      obtain ⟨b, off, rfl, _⟩ := hr.at (by omega)
      obtain ⟨X, Y, hX, HXb⟩ := hr.get2 j hlt
      obtain ⟨t1, t2⟩ := (hr.below (ext_trans hb0 hbr)).pair hX
      have HX : Hid (xs[j]? = some (X, Y)) := hX
      clear hX
      by_cases hY : Y = lev
      · subst hY
        have h1 := below_alloc wr (.cells #[.int .u16 X] 38)
        go_wp2_with (at_builtin; refine wp_append_words _ rfl (.tmp 22) (.tmp 29) 25 rfl 38 Try.underlying25 info25 W.heap.size no co so _ rfl (hown.below h1) (some ⟨wr.heap.size, 0, none⟩) 1 1 [X] rfl (roww_lit_at _ _ (by simp) 38 [X] 1 rfl (by omega) (Wrd.one HXb.1)) (by omega) (by simp; have := hbr.size; omega) W (ext_trans hbr h1) ?_; intro so' co' w3 hown3 hbel3)
        go_roundw
        case rel =>
          refine ⟨j + 1, so', no + 1, co', by omega, rfl, by go_num, ?_, hbel3, by omega⟩
          rw [take_snoc HX.out, stars_snoc_y]
          exact hown3
        case measure => simp [intOf]; omega
      · have hY' : (Y == lev) = false := by simpa using hY
        go_wp2_with fail
        go_roundw
        case rel =>
          refine ⟨j + 1, so, no, co, by omega, rfl, by go_num, ?_, hbr, by omega⟩
          rw [take_snoc HX.out, stars_snoc_n _ _ _ _ hY]
          exact hown
        case measure => simp [intOf]; omega
    · obtain rfl : j = n := by omega
      go_wp2_with fail
      go_ret
      refine ⟨so, no, co, rfl, ?_, ext_trans hb0 hbr⟩
      rw [List.take_of_length_le (by rw [hl.out]; exact Nat.le_refl _)] at hown
      exact hown.mono hb0.size
end Go.Proofs.Ytdoemkncgfgkhaa
