/- Two labels that one statement makes: what the stores leave; what Join and Meet have. -/
import Derived.Test.YtgpndbfefbdibaaLabelRisesWalk
namespace Go.Proofs.Ytgpndbfefbdibaa
open Go.RowKit

theorem lab_store {V : World} {g : Nat} {D : Int} {so : Option Addr} {k co : Nat} (H : V.heap[g]? = some (.cells #[.int .u8 0, .slice none 0 0] 24 (0, 0))) :
    ((V.setCell ⟨g, 0, none⟩ (.int .u8 D)).setCell ⟨g, 1, none⟩ (.slice so k co)).heap[g]? = some (.cells #[.int .u8 D, .slice so k co] 24 (0, 0)) ∧ V.grownBy ((V.setCell ⟨g, 0, none⟩ (.int .u8 D)).setCell ⟨g, 1, none⟩ (.slice so k co)) (some g) := by
  have h1 : (V.setCell ⟨g, 0, none⟩ (.int .u8 D)).heap[g]? = some (.cells #[.int .u8 D, .slice none 0 0] 24 (0, 0)) := by rw [heap_setCell_same V g 0 _ 24 _ H]; rfl
  exact ⟨by rw [heap_setCell_same _ g 1 _ 24 _ h1]; rfl, grown_trans (grown_set _ _ _ _) (grown_set _ _ _ _) (fun x hx => .inl hx)⟩
theorem comb_lv {f : Int → Int → Int} (hf : ∀ x y, (0 ≤ x ∧ x ≤ 5) → (0 ≤ y ∧ y ≤ 5) → 0 ≤ f x y ∧ f x y ≤ 5) {d e : Int} {xs ys : List (Int × Int)} (hx : LvL d xs) (hy : LvL e ys) : LvL (f d e) (comb f d e xs ys) :=
  ⟨hf _ _ hx.1 hy.1, fun p hp => by
    obtain ⟨_, r, hr, rfl⟩ := cmb_cats _ _ _ p hp
    have := mg_lv d e xs ys hx hy r hr
    exact hf _ _ this.1 this.2⟩
theorem max_lv (x y : Int) (hx : 0 ≤ x ∧ x ≤ 5) (hy : 0 ≤ y ∧ y ≤ 5) : 0 ≤ max x y ∧ max x y ≤ 5 := by omega
theorem min_lv (x y : Int) (hx : 0 ≤ x ∧ x ≤ 5) (hy : 0 ≤ y ∧ y ≤ 5) : 0 ≤ min x y ∧ min x y ≤ 5 := by omega
theorem can_of_lv {d : Int} {xs : List (Int × Int)} (h : LvL d xs) (hc : CanL d xs) : canB d xs = true := canB_iff.2 ⟨h.1.2, fun p hp => (h.2 p hp).2, hc⟩
end Go.Proofs.Ytgpndbfefbdibaa
