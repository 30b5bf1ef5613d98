/- What trans' appendIf answers, and a label of sets that a call builds in a variable of its own, two sets at once: contracts. -/
import Derived.Test.YtdoemkncgfgkhaaTrMath
import Derived.Test.YtdoemkncgfgkhaaLabOut
import Derived.OwnWalk
import Derived.ArgAppend
namespace Go.Proofs.Ytdoemkncgfgkhaa
open Go.RowKit
set_option maxRecDepth 100000

theorem infoU : (Try.prog.info? 38).map (fun i => (i.zero, i.size, i.bytes)) = some (some (.int .u16 0), 1, 2) := by kernel_rfl
theorem ownw_block {e : TypeId} {w : World} {B n cap : Nat} {so : Option Addr} {ys : List Int} (hown : OwnW e w B so n cap ys) : ∀ k, (Value.slice so n cap).ownBlock = some k → B ≤ k ∧ k < w.heap.size := by
  intro k hk
  rcases hown.cases with ⟨rfl, _⟩ | ⟨g, cur, rfl, hBg, hg, _⟩
  · simp [Value.ownBlock] at hk
  · obtain rfl : g = k := by simpa [Value.ownBlock] using hk
    exact ⟨hBg, (Array.getElem?_eq_some_iff.1 hg).1⟩
theorem OwnW.grownBy {e : TypeId} {w w' : World} {B n cap : Nat} {a : Option Addr} {xs : List Int} {r : Option Nat} (h : OwnW e w B a n cap xs) (hg : w.grownBy w' r) (hne : ∀ p, a = some p → r ≠ some p.block) : OwnW e w' B a n cap xs := by
  rcases h.cases with ⟨rfl, rfl, rfl, rfl⟩ | ⟨g, cur, rfl, hB, hk, hn, hm, hs, ht⟩
  · exact OwnW.of_nil _ _ _
  · exact OwnW.of_cells hB ((hg.block g (Array.getElem?_eq_some_iff.1 hk).1 (fun e => hne _ rfl e.symm)).trans hk) hn hm hs h.1 h.2.1 ht
/-- What is kept of a category. -/
def has (q : Bool) (c : Int) : List Int := if q = true then [c] else []
set_option maxHeartbeats 1000000 in
theorem tput_any (so : Option Addr) (n cap : Nat) (ys : List Int) (c : Int) (q : Bool) (hc : 0 ≤ c ∧ c < 65536) (w : World) (B : Nat) (hB : B ≤ w.heap.size) (hown : OwnW 38 w B so n cap ys) (hbd : n + 1 ≤ 1000000) :
    Calls Try.prog 40 #[.slice so n cap, .int .u16 c, .bool q] w fun e w' => ∃ so' k cap', e = .returned (.slice so' k cap') ∧ OwnW 38 w' B so' k cap' (ys ++ has q c) ∧ k ≤ n + 1 ∧ w.grownBy w' (Value.slice so n cap).ownBlock ∧ (so' = so ∨ ∀ p, so' = some p → w.heap.size ≤ p.block) := by
  cases q
  · go_enter Try.func40, Try.ntmps40
    go_wp2_with fail
    go_ret
    exact ⟨so, n, cap, rfl, by simpa [has] using hown, by omega, World.grownBy.refl _ _, .inl rfl⟩
  · obtain ⟨i, hi, hz0, hz1, hz2⟩ := info_parts infoU
    have hb := below_alloc w (.cells #[.int .u16 c] 38)
    have hrow := roww_lit w 38 [c] 1 rfl (by omega) (Wrd.one hc)
    have ho2 := hown.below hb
    have hlen := hown.1
    have hw2 : Wrd (ys ++ [c]) := hown.2.1.append (Wrd.one hc)
    by_cases hfit : n + 1 ≤ cap
    · obtain ⟨g, cur, rfl, _⟩ : ∃ (g : Nat) (cur : Array Value), so = some ⟨g, 0, none⟩ ∧ True := by
        rcases hown.cases with ⟨_, _, h0, _⟩ | ⟨g, cur, h, _⟩
        · omega
        · exact ⟨g, cur, h, trivial⟩
      go_enter Try.func40, Try.ntmps40
      go_wp2_with (at_builtin; refine wpList_append_fits _ rfl (.tmp 10) (.tmp 12) 25 rfl B 38 i 1 Try.underlying25 hi hz1 g n cap (ys.map (Value.int .u16)) rfl ho2.2.2 ⟨w.heap.size, 0, none⟩ 1 1 [.int .u16 c] rfl rfl hrow.news (words_one [c]) hfit ?_; intro w1 hown1 hgr1)
      go_ret
      refine ⟨some ⟨g, 0, none⟩, n + 1, cap, rfl, ⟨by simp [has, hlen], by simpa [has] using hw2, by simpa [has] using hown1⟩, Nat.le_refl _, ?_, .inl rfl⟩
      exact grown_trans (grown_of_below hb _) hgr1 (fun x hx => .inl (by simpa [Value.ownBlock] using hx))
    · have hr := hown.row
      have hz6 : (Value.int IntKind.u16 0).cells.size = 1 := rfl
      go_enter Try.func40, Try.ntmps40
      go_wp2_with (at_builtin; refine wpList_append_grows _ rfl (.tmp 10) (.tmp 12) 25 rfl 38 i (.int .u16 0) 1 2 Try.underlying25 hi hz0 hz1 hz2 hz6 (by decide) so n cap (ys.map (Value.int .u16)) rfl hr.2.2.2.2.1 (by simp [hlen]) (fun b hb' => by subst hb'; exact ho2.row.news) ⟨w.heap.size, 0, none⟩ 1 1 [.int .u16 c] rfl rfl hrow.news (words_one [c]) (by omega) (by unfold maxLen; omega) (by omega) ?_; intro v1 w1 hown1 hgr1)
      have hl2 : (ys ++ [c]).length = n + 1 := by simp [hlen]
      have h1' : w1.ownsRow (w.heap.size + 1) 38 1 v1 (n + 1) ((ys ++ [c]).map (Value.int .u16)) := by simpa using hown1
      rcases h1'.2 with ⟨_, h0⟩ | ⟨g, co, cur, rfl, hBg, r⟩
      · omega
      · go_ret
        refine ⟨some ⟨g, 0, none⟩, n + 1, co, rfl, OwnW.mono ⟨by simp [has, hlen], by simpa [has] using hw2, by simpa [has] using h1'⟩ (by omega), Nat.le_refl _, ?_, .inr fun p hp => by injection hp with hp; subst hp; simp only; omega⟩
        exact grown_trans (grown_of_below hb _) hgr1 (fun x hx => by simp at hx)
end Go.Proofs.Ytdoemkncgfgkhaa
