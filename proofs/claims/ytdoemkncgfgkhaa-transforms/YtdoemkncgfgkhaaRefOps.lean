/- What the document's own Or, And, Less, In of lists of categories are: contracts. -/
import Derived.Test.YtdoemkncgfgkhaaRefSet
namespace Go.Proofs.Ytdoemkncgfgkhaa
open Go.RowKit
set_option maxRecDepth 100000

set_option maxHeartbeats 400000 in
theorem refOr_any (a b : Option Addr) (n cap m cap2 : Nat) (xs ys : List Int) (w : World) (hr : RowW w a n cap xs) (hs : RowW w b m cap2 ys) (hbd : n + m ≤ 1000000) :
    Calls Try.prog 38 #[.slice a n cap, .slice b m cap2] w fun e w' => ∃ so k co zs, e = .returned (.slice so k co) ∧ OwnW 38 w' w.heap.size so k co zs ∧ Below w.heap.size w w' ∧ Srt zs ∧ (∀ x, x ∈ zs ↔ x ∈ xs ++ ys) := by
  go_enter Try.func38, Try.ntmps38
  go_wp2_with (first | (at_builtin; refine wp_append_words _ rfl (.tmp 5) (.tmp 6) 25 rfl 38 Try.underlying25 info27 w.heap.size 0 0 _ [] rfl (ownw_lit_at w _ rfl 38 [] 0 rfl (by omega) Wrd.nil (Nat.le_refl _)) a n cap xs rfl (hr.below (below_alloc _ _)) (by omega) (by simp) w (below_alloc _ _) ?_; intro s1 c1 w1 o1 b1; rw [Nat.zero_add, List.nil_append] at o1) | (at_builtin; refine wp_append_words _ rfl (.tmp 7) (.tmp 8) 25 rfl 38 Try.underlying25 info27 w.heap.size n c1 s1 xs rfl o1 b m cap2 ys rfl (hs.below b1) (by omega) b1.size w b1 ?_; intro s2 c2 w2 o2 b2) | fail)
  refine (refMake_any _ _ _ _ _ o2.row (by omega)).mono ?_
  rintro e w3 ⟨so, k, co, zs, rfl, hown, hbel, hs, hm, _⟩
  go_wp2_with fail
  go_ret
  exact ⟨so, k, co, zs, rfl, hown.mono b2.size, ext_trans b2 hbel, hs, hm⟩
end Go.Proofs.Ytdoemkncgfgkhaa
