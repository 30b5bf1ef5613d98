/- 'PagesApart' answers true: what one name writes no other reads, and what was unmapped is not told to who maps anew. -/
import Derived.Test.YtdmdamidknbjoaaPgStr
import Derived.Test.YtdmdamidknbjoaaPgBegun
import Derived.Deep.QuietTactic
import Derived.BigQuiet
namespace Go.Proofs.Ytdmdamidknbjoaa
open Go.RowKit
set_option maxRecDepth 100000

/-- The ids below j have sz i noughts each. -/
def tS (sz : Nat → Nat) (j : Nat) : Txt := fun i => if 0 ≤ i ∧ i < (j : Int) then some (sz i.toNat, fun _ => 0) else none
theorem tS_zero (sz : Nat → Nat) : tS sz 0 = fun _ => none := by
  funext i
  unfold tS
  rw [if_neg (by omega)]
theorem tS_next (sz : Nat → Nat) (j : Nat) : setI (tS sz j) (j : Int) (some (sz j, fun _ => 0)) = tS sz (j + 1) := by
  funext i
  unfold setI tS
  by_cases h : i = (j : Int)
  · rw [if_pos h, if_pos (by omega)]; subst h; rfl
  · rw [if_neg h]
    by_cases h2 : 0 ≤ i ∧ i < (j : Int)
    · rw [if_pos h2, if_pos (by omega)]
    · rw [if_neg h2, if_neg (by omega)]
theorem tS_ge {sz : Nat → Nat} {j : Nat} {i : Int} (h : (j : Int) ≤ i) : tS sz j i = none := if_neg (by omega)
theorem tS_lt {sz : Nat → Nat} {j i : Nat} (h : i < j) : tS sz j (i : Int) = some (sz i, fun _ => 0) := by
  unfold tS
  rw [if_pos (by omega)]; rfl
theorem uS {j : Nat} (h : j < 1000) : U (j : Int) := ⟨by omega, by omega⟩
theorem byte_of {w : World} {a : Option Addr} {n cap : Nat} {xs : List Int} (h : Row w a n cap xs) {j : Nat} (hj : j < n) : 0 ≤ xs.getD j 0 ∧ xs.getD j 0 < 256 := by
  have hl : j < xs.length := by rw [h.len]; exact hj
  rw [show xs.getD j 0 = xs[j] by simp [List.getD, hl]]
  exact h.byt _ (List.getElem_mem hl)
set_option maxHeartbeats 2000000 in
set_option maxRecDepth 100000 in
theorem pagesApart_all (a : Option Addr) (l cap : Nat) (xs : List Int) (y : Int) (a2 : Option Addr) (m cap2 : Nat) (bs : List Int) (hy : 0 ≤ y ∧ y < 256) (W : World) (hr : Row W a l cap xs) (hr2 : Row W a2 m cap2 bs) :
    Calls Try.prog 4 #[.slice a l cap, .int .u8 y, .slice a2 m cap2] W fun e w' => e = .returned (.bool true) ∧ Below W.heap.size W w' := by
  have hcap := hr.cap_le
  have hcap2 := hr2.cap_le
  by_cases h0 : l = 0
  · subst h0
    go_enter Try.func4, Try.ntmps4
    go_wp2_with fail
    refine (begun13_true _).mono ?_
    rintro e w1 ⟨rfl, hb1⟩
    go_wp2_with fail
    go_ret
    exact ⟨rfl, hb1⟩
  have hl0 : ((l : Int) == 0) = false := by rw [beq_eq_false_iff_ne]; omega
  by_cases hl : l ≤ 8
  case neg =>
    have hl' : (8 : Int) < (l : Int) := by omega
    go_enter Try.func4, Try.ntmps4
    go_wp2_with fail
    refine (begun13_true _).mono ?_
    rintro e w1 ⟨rfl, hb1⟩
    go_wp2_with fail
    go_ret
    exact ⟨rfl, hb1⟩
  have hl' : decide ((8 : Int) < (l : Int)) = false := by simp; omega
  by_cases hm : m ≤ 64
  case neg =>
    have hm' : (64 : Int) < (m : Int) := by omega
    go_enter Try.func4, Try.ntmps4
    go_wp2_with fail
    refine (begun13_true _).mono ?_
    rintro e w1 ⟨rfl, hb1⟩
    go_wp2_with fail
    go_ret
    exact ⟨rfl, hb1⟩
  have hm' : decide ((64 : Int) < (m : Int)) = false := by simp; omega
  obtain ⟨sz, hsz⟩ : ∃ sz : Nat → Nat, ∀ i, sz i = (xs.getD i 0 % 65).toNat := ⟨fun i => (xs.getD i 0 % 65).toNat, fun _ => rfl⟩
  have hS : Hid (∀ i, i < l → sz i ≤ 64 ∧ (xs.getD i 0).tmod 65 = (sz i : Int)) := fun i hi => by
    have hb := byte_of hr hi
    rw [hsz i, Int.tmod_eq_emod_of_nonneg hb.1]
    omega
  clear hsz
  obtain ⟨k, hk, ek⟩ : ∃ k : Nat, k < l ∧ y.tmod (l : Int) = (k : Int) := by
    have h1 := Int.emod_nonneg y (show (l : Int) ≠ 0 by omega)
    have h2 := Int.emod_lt_of_pos y (show 0 < (l : Int) by omega)
    exact ⟨(y % (l : Int)).toNat, by omega, by rw [Int.tmod_eq_emod_of_nonneg hy.1]; omega⟩
  obtain ⟨bb, bo, rfl, hcell⟩ := hr.at (by omega)
  clear hcell
  have hd2 : ∀ x, a2 = some x → 0 < m → x.block < W.heap.size := fun x hx hm0 => by
    obtain ⟨b2, o2, e2, hc⟩ := hr2.at (by omega)
    rw [hx] at e2
    obtain rfl := Option.some.inj e2
    exact lt_of_cell (hc 0 (by omega))
  go_enter Try.func4, Try.ntmps4
  go_wp2_with fail
  refine (begun13_true _).mono ?_
  rintro e w1 ⟨rfl, hb1⟩
  go_wp2_with fail
  refine (po_new hb1 64 64 rfl).mono ?_
  rintro e w2 ⟨q, rfl, h2⟩
  clear hb1
  go_wp2_with fail
  go_loopw [8] (fun i wr => ∃ j fr : Nat, j ≤ l ∧ i = .int .i64 j ∧ Hid (64 ≤ fr + 4 * j) ∧ Po W wr q 64 j fr (tS sz j)) (fun i _ => l - (intOf i).toNat)
  case atStart => exact ⟨0, 64, by omega, rfl, by show 64 ≤ 64 + 4 * 0; omega, by rw [tS_zero]; exact h2⟩
  case round =>
    obtain ⟨j, fr, hj, rfl, hfr, hp⟩ := hrel
    clear h2
    by_cases e : j < l
    · have hjl : (j : Int) < (l : Int) := by omega
      obtain ⟨hs1, hs2⟩ := hS.out j e
      obtain ⟨b3, o3, e3, hc⟩ := (hr.below hp.below).at (by omega)
      simp only [Option.some.injEq, Addr.mk.injEq, and_true] at e3
      obtain ⟨rfl, rfl⟩ := e3
      replace hc := hc j e
      have hxb := byte_of hr e
      have hpg := pg_64 hs1
      obtain ⟨X, hX⟩ : ∃ X, X = xs.getD j 0 := ⟨_, rfl⟩
      rw [← hX] at hc hs2 hxb
      clear hX
      have HS : Hid (sz j ≤ 64) := hs1
      obtain ⟨s, hs⟩ : ∃ s, s = sz j := ⟨_, rfl⟩
      rw [← hs] at hs2 hs1
      have HSS : Hid (s = sz j) := hs
      clear hs
      go_wp2_with fail
      refine (po_map hp j (uS (by omega)) (tS_ge (Int.le_refl _)) s hs1 (by rw [HSS.out]; have := hfr.out; omega) (by omega)).mono ?_
      rw [HSS.out, tS_next]
      rintro e w3 ⟨rfl, h3⟩
      go_wp2_with fail
      go_roundw
      case rel => exact ⟨j + 1, _, by omega, by go_num, by have := hfr.out; show 64 ≤ fr - pg (sz j) + 4 * (j + 1); omega, h3⟩
      case measure => simp [intOf]; omega
    · obtain rfl : l = j := by omega
      obtain ⟨b3, o3, e3, hc⟩ := (hr.below hp.below).at (by omega)
      simp only [Option.some.injEq, Addr.mk.injEq, and_true] at e3
      obtain ⟨rfl, rfl⟩ := e3
      replace hc := hc k hk
      obtain ⟨hs1, hs2⟩ := hS.out k hk
      have hkl : (k : Int) < (l : Int) := by omega
      have hxb := byte_of hr hk
      obtain ⟨X, hX⟩ : ∃ X, X = xs.getD k 0 := ⟨_, rfl⟩
      rw [← hX] at hc hs2 hxb
      clear hX
      obtain ⟨n, hn⟩ : ∃ n, n = min m (sz k) := ⟨_, rfl⟩
      have hn2 : min (m : Int) (sz k : Int) = (n : Int) := by omega
      have hnm : n ≤ m := by omega
      have hns : n ≤ sz k := by omega
      have hnc : n ≤ cap2 := by omega
      clear hn
      go_wp2_with fail
      refine (po_write hp k (uS (by omega)) (sz k) _ (tS_lt hk) a2 n cap2 (bs.take n) (((hr2.below hp.below).pre n hnm)) (fun x hx h1 => hd2 x hx (by omega)) 0 (by omega)).mono ?_
      rintro e w3 ⟨rfl, h3⟩
      obtain ⟨T, hT⟩ : ∃ T, T = setI (tS sz l) (k : Int) (some (sz k, fW (fun _ => 0) 0 (bs.take n) n)) := ⟨_, rfl⟩
      have hTi : Hid (∀ i, i < l → ∃ f, T (i : Int) = some (sz i, f) ∧ ∀ j, j < sz i → f j = if i = k ∧ j < n then bs.getD j 0 else 0) := fun i hi => by
        rw [hT]
        by_cases e2 : i = k
        · subst e2
          refine ⟨_, setI_same _ _ _, fun j _ => ?_⟩
          unfold fW
          by_cases hjn : j < n
          · rw [if_pos (by omega), if_pos (by omega)]
            simp [List.getD, hjn]
          · rw [if_neg (by omega), if_neg (by omega)]
        · exact ⟨_, (setI_other _ _ (by omega)).trans (tS_lt hi), fun j _ => by rw [if_neg (by omega)]⟩
      have hT99 : T 99 = none := by rw [hT]; exact (setI_other _ _ (by omega)).trans (tS_ge (by omega))
      rw [← hT] at h3
      have hfr32 : Hid (32 ≤ fr) := by have := hfr.out; show 32 ≤ fr; omega
      clear hT hc hs2 hxb hp
      go_wp2_with fail
      go_loopw [11, 12, 13, 14] (fun i s12 s13 s14 wr => ∃ j : Nat, j ≤ l ∧ i = .int .i64 j ∧ (∃ z : Value, s12 = z) ∧ (∃ z : Value, s13 = z) ∧ (∃ z : Value, s14 = z) ∧ Po W wr q 64 l fr T) (fun i _ _ _ _ => l - (intOf i).toNat)
      case atStart => exact ⟨0, by omega, rfl, ⟨_, rfl⟩, ⟨_, rfl⟩, ⟨_, rfl⟩, h3⟩
      case round =>
        obtain ⟨i, hi, rfl, ⟨z12, rfl⟩, ⟨z13, rfl⟩, ⟨z14, rfl⟩, hp⟩ := hrel
        clear h3
        by_cases e : i < l
        · have hil : (i : Int) < (l : Int) := by omega
          obtain ⟨b3, o3, e3, hc⟩ := (hr.below hp.below).at (by omega)
          simp only [Option.some.injEq, Addr.mk.injEq, and_true] at e3
          obtain ⟨rfl, rfl⟩ := e3
          replace hc := hc i e
          obtain ⟨hs1, hs2⟩ := hS.out i e
          have hxb := byte_of hr e
          obtain ⟨X, hX⟩ : ∃ X, X = xs.getD i 0 := ⟨_, rfl⟩
          rw [← hX] at hc hs2 hxb
          clear hX
          obtain ⟨f, hTf, hff⟩ := hTi.out i e
          obtain ⟨s, hs⟩ : ∃ s, s = sz i := ⟨_, rfl⟩
          rw [← hs] at hs2 hs1 hTf hff
          have hff : Hid (∀ j, j < s → f j = if i = k ∧ j < n then bs.getD j 0 else 0) := hff
          clear hs
          go_wp2_with fail
          refine (po_read hp i (uS (by omega)) s f hTf 0 s (by omega)).mono ?_
          rintro e w4 ⟨r, rfl, hrow, _, hb4⟩
          have h4 := hp.on hb4
          replace hc := (hb4.cell (lt_of_cell hc)).trans hc
          have hrow : w4.rowIs r 5 s (fun j => .int .u8 (f j)) := hrow.congr fun j _ => by rw [Nat.zero_add]
          clear hp hb4
          go_wp2_with fail
          go_loopw [14] (fun jv wr => ∃ j : Nat, j ≤ s ∧ jv = .int .i64 j ∧ wr.rowIs r 5 s (fun j => .int .u8 (f j)) ∧ Po W wr q 64 l fr T) (fun jv _ => s - (intOf jv).toNat)
          case atStart => exact ⟨0, by omega, rfl, hrow, h4⟩
          case round =>
            obtain ⟨j, hj, rfl, hrow, hp⟩ := hrel
            clear h4 hc
            by_cases e2 : j < s
            · have hjs : (j : Int) < (s : Int) := by omega
              have c0 := hrow.cell e2
              by_cases hik : i = k
              · by_cases hjn : j < n
                · have hv : f j = bs.getD j 0 := by rw [hff.out j e2, if_pos ⟨hik, hjn⟩]
                  rw [hv] at c0
                  obtain ⟨b4, o4, rfl, hc4⟩ := (hr2.below hp.below).at (by omega)
                  replace hc4 := hc4 j (by omega)
                  obtain ⟨B, hB⟩ : ∃ B, B = bs.getD j 0 := ⟨_, rfl⟩
                  rw [← hB] at c0 hc4
                  clear hB hv
                  subst hik
                  have t1 : (j : Int) < (n : Int) := by omega
                  have t2 : decide ((n : Int) ≤ (j : Int)) = false := by simp; omega
                  have t3 : (j : Int) < (m : Int) := by omega
                  have t4 : ¬ n ≤ j := by omega
                  have t5 : ¬ (n : Int) ≤ (j : Int) := by omega
                  go_wp2_with fail
                  go_quiet (fail)
                  go_wp2_with fail
                  go_roundw
                  case rel => exact ⟨j + 1, by omega, by go_num, hrow, hp.on (below_drewN (Below.refl _ _) _)⟩
                  case measure => simp [intOf]; omega
                · have hv : f j = 0 := by rw [hff.out j e2, if_neg (by omega)]
                  rw [hv] at c0
                  subst hik
                  have t1 : decide ((j : Int) < (n : Int)) = false := by simp; omega
                  have t2 : (n : Int) ≤ (j : Int) := by omega
                  clear hv
                  go_wp2_with fail
                  go_quiet (fail)
                  go_wp2_with fail
                  go_roundw
                  case rel => exact ⟨j + 1, by omega, by go_num, hrow, hp.on (below_drewN (Below.refl _ _) _)⟩
                  case measure => simp [intOf]; omega
              · have hv : f j = 0 := by rw [hff.out j e2, if_neg (by omega)]
                rw [hv] at c0
                have t1 : ((i : Int) == (k : Int)) = false := by rw [beq_eq_false_iff_ne]; omega
                have t2 : ((i : Int) != (k : Int)) = true := by simp; omega
                have t3 : ¬ (i : Int) = (k : Int) := by omega
                clear hv
                go_wp2_with fail
                go_quiet (fail)
                go_wp2_with fail
                go_roundw
                case rel => exact ⟨j + 1, by omega, by go_num, hrow, hp.on (below_drewN (Below.refl _ _) _)⟩
                case measure => simp [intOf]; omega
            · obtain rfl : s = j := by omega
              go_wp2_with fail
              go_roundw
              case rel => exact ⟨i + 1, by omega, by go_num, ⟨_, rfl⟩, ⟨_, rfl⟩, ⟨_, rfl⟩, hp⟩
              case measure => simp [intOf]; omega
        · obtain rfl : l = i := by omega
          obtain ⟨f, hTk, _⟩ := hTi.out k hk
          go_wp2_with fail
          refine (po_unmap hp k (uS (by omega)) (sz k) f hTk).mono ?_
          rintro e w4 ⟨rfl, h4⟩
          clear hp
          go_wp2_with fail
          refine (po_map h4 99 ⟨by decide, by decide⟩ ((setI_other _ _ (by omega)).trans hT99) 64 (by omega) (by have := hfr32.out; show 4 ≤ _; omega) (by omega)).mono ?_
          rintro e w5 ⟨rfl, h5⟩
          clear h4
          go_wp2_with fail
          refine (po_read h5 99 ⟨by decide, by decide⟩ 64 _ (setI_same _ _ _) 0 64 (by omega)).mono ?_
          rintro e w6 ⟨r, rfl, hrow, _, hb6⟩
          have h6 := h5.on hb6
          clear h5 hb6
          go_wp2_with fail
          go_loopw [17] (fun jv wr => ∃ j : Nat, j ≤ 64 ∧ jv = .int .i64 j ∧ wr.rowIs r 5 64 (fun _ => .int .u8 0) ∧ Po W wr q 64 (l + 1) (fr + pg (sz k) - pg 64) (setI (setI T (k : Int) none) 99 (some (64, fun _ => 0)))) (fun jv _ => 64 - (intOf jv).toNat)
          case atStart => exact ⟨0, by omega, rfl, hrow, h6⟩
          case round =>
            obtain ⟨j, hj, rfl, hrow, hp⟩ := hrel
            clear h6
            by_cases e2 : j < 64
            · have hjs : (j : Int) < 64 := by omega
              have c0 := hrow.cell e2
              go_wp2_with fail
              go_roundw
              case rel => exact ⟨j + 1, by omega, by go_num, hrow, hp⟩
              case measure => simp [intOf]; omega
            · obtain rfl : j = 64 := by omega
              have hb := hp.below
              clear hp hrow
              go_wp2_with fail
              go_ret
              exact ⟨rfl, hb⟩
end Go.Proofs.Ytdmdamidknbjoaa
