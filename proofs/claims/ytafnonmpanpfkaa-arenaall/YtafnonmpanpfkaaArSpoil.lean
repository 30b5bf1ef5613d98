/- transomlaw0's Spoil: contract. -/
import Derived.Test.YtafnonmpanpfkaaArTake
namespace Go.Proofs.Ytafnonmpanpfkaa
open Go.RowKit
set_option maxRecDepth 100000
set_option linter.unusedVariables false

set_option maxHeartbeats 1000000 in
theorem spoil_block {w : World} {g n c : Nat} {cur : Array Value} (hg : w.heap[g]? = some (.cells cur 5 (0, 0))) (hs : cur.size = c) (hn : n ≤ c) (hc : c ≤ 9223372036854775807) :
    Calls Try.prog 12 #[.slice (some ⟨g, 0, none⟩) n c] w fun e w' => e = .returned (.tuple #[]) ∧ w.grownBy w' (some g) := by
  have hcc : (c : Int) ≤ (c : Int) := by omega
  have HG : Hid (∃ cur : Array Value, w.heap[g]? = some (.cells cur 5 (0, 0)) ∧ cur.size = c) := ⟨cur, hg, hs⟩
  clear hg hs
  go_enter Try.func12, Try.ntmps12
  go_wp2_with fail
  go_loopw [3] (fun s3 wr => ∃ k : Nat, k ≤ c ∧ s3 = .int .i64 k ∧ w.grownBy wr (some g) ∧ ∃ cur : Array Value, wr.heap[g]? = some (.cells cur 5 (0, 0)) ∧ cur.size = c) (fun s3 _ => c - (intOf s3).toNat)
  case atStart => exact ⟨0, by omega, rfl, World.grownBy.refl _ _, HG.out⟩
  case round =>
    obtain ⟨k, hk, rfl, hgr, cu, hcu, hsz⟩ := hrel
    by_cases hlt : k < c
    · have h1 : (k : Int) < (c : Int) := by omega
      obtain ⟨d1, d2⟩ := cell_fz hcu k cu[k] (Array.getElem?_eq_getElem (by omega))
      go_wp2_with fail
      go_roundw
      case rel =>
        refine ⟨k + 1, by omega, by go_num, hgr.trans (grown_cell wr ⟨g, k, none⟩ _), cu.setIfInBounds k (.int .u8 90), ?_, by simpa using hsz⟩
        simp [World.setCell, Array.getElem?_modify, hcu]
      case measure => simp [intOf]; omega
    · obtain rfl : k = c := by omega
      go_wp2_with fail
      go_end0
      exact ⟨rfl, hgr⟩
theorem spoil_le {w : World} {B n c : Nat} {a : Option Addr} {xs : List Int} (h : LeO w B ⟨a, n, c, xs⟩) (hB : B ≤ w.heap.size) (hn : 0 < n) :
    Calls Try.prog 12 #[.slice a n c] w fun e w' => e = .returned (.tuple #[]) ∧ Below B w w' := by
  rcases h with ⟨_, h0, _⟩ | ⟨g, h1, ho⟩
  · simp only at h0; omega
  · simp only at h1
    subst h1
    obtain ⟨cur, hg, hBg, hnc, hcm, hs, _⟩ := Own.block ho
    refine (spoil_block hg hs hnc hcm).mono ?_
    rintro e w' ⟨rfl, hgr⟩
    exact ⟨rfl, hgr.os, hgr.tape, hgr.output, hgr.size, fun k hk => hgr.block k (by omega) (fun e => by simp at e; omega)⟩
end Go.Proofs.Ytafnonmpanpfkaa
