/- LabelMost answers true: the walk. -/
import Derived.Test.YtgpndbfefbdibabLabBegun
namespace Go.Proofs.Ytgpndbfefbdibab
open Go.RowKit

/-- The pairs that LabelMost builds. -/
def mostP (lev : Int) (k : Nat) : List (Int × Int) := (List.range k).map fun (i : Nat) => ((i : Int), lev)
theorem most_up (lev : Int) (k : Nat) : UpL (mostP lev k) := by
  unfold UpL mostP
  rw [List.pairwise_map]
  refine List.Pairwise.imp (fun {a b} h => ?_) List.pairwise_lt_range
  simp only
  omega
theorem most_may (d lev : Int) (k : Nat) : mayB d (mostP lev k) = (decide (1 ≤ d) && decide (d ≤ 4) && (decide (k = 0) || (decide (k ≤ 16) && decide (lev ≤ 4) && !decide (lev = d)))) := by
  have h : mayB d (mostP lev k) = true ↔ (decide (1 ≤ d) && decide (d ≤ 4) && (decide (k = 0) || (decide (k ≤ 16) && decide (lev ≤ 4) && !decide (lev = d)))) = true := by
    rw [mayB_iff]
    simp only [Bool.and_eq_true, Bool.or_eq_true, decide_eq_true_eq, Bool.not_eq_true', decide_eq_false_iff_not]
    constructor
    · rintro ⟨h1, h2, h3, _⟩
      refine ⟨h1, ?_⟩
      by_cases h0 : k = 0
      · exact .inl h0
      · right
        have := h3 (0, lev) (by unfold mostP; exact List.mem_map.2 ⟨0, List.mem_range.2 (by omega), rfl⟩)
        simp [mostP] at h2
        exact ⟨⟨h2, this.1⟩, this.2⟩
    · rintro ⟨h1, h2⟩
      refine ⟨h1, ?_, ?_, most_up lev k⟩
      · simp [mostP]; rcases h2 with h2 | h2 <;> omega
      · intro p hp
        obtain ⟨i, hi, rfl⟩ := List.mem_map.1 hp
        have := List.mem_range.1 hi
        rcases h2 with h2 | h2
        · omega
        · exact ⟨h2.1.2, h2.2⟩
  exact Bool.eq_iff_iff.2 h

set_option maxHeartbeats 800000 in
theorem labelMost_walk (n lev d : Int) (hn : 0 ≤ n ∧ n < 256) (hl : 0 ≤ lev ∧ lev < 256) (hd : 0 ≤ d ∧ d < 256) (w : World) :
    Calls Try.prog 3 #[.int .u8 n, .int .u8 lev, .int .u8 d] w fun e w' => e = .returned (.bool true) ∧ Below w.heap.size w w' := by
  obtain ⟨k, hk⟩ : ∃ k : Nat, n % 24 = (k : Int) := ⟨(n % 24).toNat, by omega⟩
  have hk24 : k < 24 := by omega
  have e1 : n.tmod 24 = (k : Int) := by rw [← hk]; exact Int.tmod_eq_emod_of_nonneg hn.1
  go_enter Try.func3, Try.ntmps3
  go_wp2_with fail
  refine (begun_true _).mono ?_
  rintro e w1 ⟨rfl, hb1⟩
  go_wp2_with fail
  go_loopw [8, 9] (fun o i wr => ∃ (j : Nat) (so : Option Addr) (no co : Nat), j ≤ k ∧ o = .slice so no co ∧ i = .int .i64 j ∧ OwnG PE 26 wr w.heap.size so no co (mostP lev j) ∧ Below w.heap.size w wr ∧ no ≤ j) (fun _ i _ => k - (intOf i).toNat)
  case atStart => exact ⟨0, none, 0, 0, by omega, rfl, rfl, OwnG.of_nil _ _ _ _, hb1, by omega⟩
  case round =>
    obtain ⟨j, so, no, co, hj, rfl, rfl, hown, hbr, hno⟩ := hrel
    by_cases hlt : j < k
    · have hp : (j : Int) < (k : Int) := by omega
      have hwr : IntKind.u16.wrap (j : Int) = (j : Int) := by rw [IntKind.wrap_u16]; omega
      have hwr2 : (j : Int) % 65536 = (j : Int) := by omega
      have h1 := below_alloc wr (.cells #[.int .u16 (j : Int), .int .u8 lev] 26)
      go_wp2_with (at_builtin; refine wp_append_g (E := PE) _ rfl (.tmp 21) (.tmp 26) 23 rfl 26 Try.underlying23 (.agg #[.int .u16 0, .int .u8 0]) 4 info29 rfl (by omega) w.heap.size no co so _ rfl (hown.below h1) (some ⟨wr.heap.size, 0, none⟩) 1 1 [((j : Int), lev)] rfl (owng_lit PE _ 26 [((j : Int), lev)] _ rfl 1 rfl (by omega) (Enc.Ok.one ⟨by omega, hl⟩) _ wr.heap.size (by simp) (by omega)).row (by omega) (by simpa using Nat.le_succ_of_le hbr.size) w (ext_trans hbr h1) ?_; intro so' co' w3 hown3 hb3 _)
      go_roundw
      case rel =>
        refine ⟨j + 1, so', no + 1, co', by omega, rfl, by go_num, ?_, hb3, by omega⟩
        rw [show mostP lev (j + 1) = mostP lev j ++ [((j : Int), lev)] by simp [mostP, List.range_succ]]
        exact hown3
      case measure => simp [intOf]; omega
    · obtain rfl : k = j := by omega
      by_cases c1 : 1 ≤ d
      · have c1' : decide (1 ≤ d) = true := by simpa using c1
        by_cases c2 : d ≤ 4
        · have c2' : decide (d ≤ 4) = true := by simpa using c2
          by_cases c3 : k = 0
          · have c3' : ((k : Int) == 0) = true := by simp; omega
            skip
            have hv : mayB d (mostP lev k) = true := by rw [most_may]; simp; omega
            go_wp2_with fail
            refine (may_any d hd.1 so no co _ _ hown.row).mono ?_
            rintro e w5 ⟨rfl, hb5⟩
            rw [hv]
            have hbf := ext_trans hbr hb5
            go_wp2_with fail
            go_ret
            exact ⟨rfl, hbf⟩
          · have c3' : ((k : Int) == 0) = false := by simp; omega
            by_cases c4 : k ≤ 16
            · have c4' : decide ((k : Int) ≤ 16) = true := by simp; omega
              by_cases c5 : lev ≤ 4
              · have c5' : decide (lev ≤ 4) = true := by simpa using c5
                by_cases c6 : lev = d
                · have c6' : (lev == d) = true := by simpa using c6
                  have c6'' : (lev != d) = false := by simpa using c6
                  skip
                  have hv : mayB d (mostP lev k) = false := by rw [most_may]; simp; omega
                  go_wp2_with fail
                  refine (may_any d hd.1 so no co _ _ hown.row).mono ?_
                  rintro e w5 ⟨rfl, hb5⟩
                  rw [hv]
                  have hbf := ext_trans hbr hb5
                  go_wp2_with fail
                  go_ret
                  exact ⟨rfl, hbf⟩
                · have c6' : (lev == d) = false := by simpa using c6
                  have c6'' : (lev != d) = true := by simpa using c6
                  skip
                  have hv : mayB d (mostP lev k) = true := by rw [most_may]; simp; omega
                  go_wp2_with fail
                  refine (may_any d hd.1 so no co _ _ hown.row).mono ?_
                  rintro e w5 ⟨rfl, hb5⟩
                  rw [hv]
                  have hbf := ext_trans hbr hb5
                  go_wp2_with fail
                  go_ret
                  exact ⟨rfl, hbf⟩
              · have c5' : decide (lev ≤ 4) = false := by simpa using c5
                skip
                have hv : mayB d (mostP lev k) = false := by rw [most_may]; simp; omega
                go_wp2_with fail
                refine (may_any d hd.1 so no co _ _ hown.row).mono ?_
                rintro e w5 ⟨rfl, hb5⟩
                rw [hv]
                have hbf := ext_trans hbr hb5
                go_wp2_with fail
                go_ret
                exact ⟨rfl, hbf⟩
            · have c4' : decide ((k : Int) ≤ 16) = false := by simp; omega
              skip
              have hv : mayB d (mostP lev k) = false := by rw [most_may]; simp; omega
              go_wp2_with fail
              refine (may_any d hd.1 so no co _ _ hown.row).mono ?_
              rintro e w5 ⟨rfl, hb5⟩
              rw [hv]
              have hbf := ext_trans hbr hb5
              go_wp2_with fail
              go_ret
              exact ⟨rfl, hbf⟩
        · have c2' : decide (d ≤ 4) = false := by simpa using c2
          skip
          have hv : mayB d (mostP lev k) = false := by rw [most_may]; simp; omega
          go_wp2_with fail
          refine (may_any d hd.1 so no co _ _ hown.row).mono ?_
          rintro e w5 ⟨rfl, hb5⟩
          rw [hv]
          have hbf := ext_trans hbr hb5
          go_wp2_with fail
          go_ret
          exact ⟨rfl, hbf⟩
      · have c1' : decide (1 ≤ d) = false := by simpa using c1
        skip
        have hv : mayB d (mostP lev k) = false := by rw [most_may]; simp; omega
        go_wp2_with fail
        refine (may_any d hd.1 so no co _ _ hown.row).mono ?_
        rintro e w5 ⟨rfl, hb5⟩
        rw [hv]
        have hbf := ext_trans hbr hb5
        go_wp2_with fail
        go_ret
        exact ⟨rfl, hbf⟩
end Go.Proofs.Ytgpndbfefbdibab
