/- 'append' of bytes as one operation of a region that draws its order: the block alone that it may write is named. -/
import Derived.Test.YtafnonmpanpfkaaBytes
namespace Go.Proofs.Ytafnonmpanpfkaa
open Go.RowKit
set_option maxRecDepth 100000

section
variable {P : Program} {o : Oper} {a : Act} {Q : Exit → Act → World → Prop}
theorem opb_append {K : Act → World → Prop} (w : World) (s x : Operand) (t : TypeId) (ho : o.op = .call { callee := .builtin .append, args := #[s, x], argTypes := #[t, t] })
    (e : TypeId) (ht : P.underlying t = some (.slice e)) (hinfo : (P.info? e).map (fun i => (i.zero, i.size, i.bytes)) = some (some (.int .u8 0), 1, 1))
    (B g n cap : Nat) (ys : List Int) (hs : a.eval s = .slice (some ⟨g, 0, none⟩) n cap) (hown : Own e w B g n cap ys)
    (ao : Option Addr) (m c : Nat) (xs : List Int) (hx : a.eval x = .slice ao m c) (hrow : Row w ao m c xs) (hbd : n + m ≤ 140737488355328) (hB : B ≤ w.heap.size)
    (w0 : World) (hbel : Below B w0 w)
    (h : ∀ g' cap' w', Own e w' B g' (n + m) cap' (ys ++ xs) → Below B w0 w' → w.grownBy w' (some g) → K (a.put o.dst (.slice (some ⟨g', 0, none⟩) (n + m) cap')) w') : Oper.wp P o a w K Q := by
  obtain ⟨i, hi, hz0, hz1, hz2⟩ := info_parts hinfo
  have hob : (Value.slice (some ⟨g, 0, none⟩) n cap).ownBlock = some g := by simp [Value.ownBlock]
  have hbn : ∀ k, (Value.slice (some ⟨g, 0, none⟩) n cap).ownBlock = some k → B ≤ k := by
    intro k hk; obtain rfl : g = k := by simpa [Value.ownBlock] using hk
    exact hown.lt.1
  have fin : ∀ v' w', w'.ownsRow B e 1 v' (n + m) (ys.map (Value.int .u8) ++ xs.map (Value.int .u8)) → w.grownBy w' (Value.slice (some ⟨g, 0, none⟩) n cap).ownBlock → (v' = .slice none 0 0 ↔ Value.slice (some ⟨g, 0, none⟩) n cap = .slice none 0 0 ∧ m = 0) → K (a.put o.dst v') w' := by
    intro v' w' h1 h2 h3
    have hne : v' ≠ .slice none 0 0 := fun hv => by have := h3.1 hv; simp at this
    rcases h1.2 with ⟨hv, _⟩ | ⟨g', cap', cur, hv, r⟩
    · exact absurd hv hne
    · subst hv
      exact h g' cap' w' ⟨by simp [hown.1, hrow.1], hown.2.1.append hrow.byt, by simpa using h1⟩ (hbel.grown h2 hB hbn) (hob ▸ h2)
  cases ao with
  | some ad =>
    exact wp_append_own w s x t ho B e i (.int .u8 0) 1 1 ht hi hz0 hz1 hz2 rfl (by decide) _ n _ hs hown.2.2 ad m c (xs.map (Value.int .u8)) hx (by simp [hrow.1]) hrow.news (ints_one xs) (by unfold maxLen; omega) (by omega) hB fin
  | none =>
    obtain ⟨rfl, rfl⟩ := hrow.2.2.2.2.1 rfl
    have hnil : xs = [] := List.eq_nil_of_length_eq_zero hrow.1
    subst hnil
    have hrun := run_append_owned_none (P := P) w B t o.type e i 1 ht hi (.slice (some ⟨g, 0, none⟩) n cap) n (ys.map (Value.int .u8)) hown.2.2
    unfold Oper.wp
    simp [execOp, ho, resolve, invoke, builtin, hs, hx, hrun, Result.andThen]
    exact (show K (a.put o.dst (.slice (some ⟨g, 0, none⟩) n cap)) w by simpa using h g cap w (by simpa using hown) hbel ⟨rfl, rfl, rfl, Nat.le_refl _, fun _ _ _ => rfl⟩)
end

theorem rowL_grown {w w' : World} {a : Option Addr} {n cap : Nat} {xs : List Int} {r : Option Nat} (h : Row w a n cap xs) (hg : w.grownBy w' r) (hne : 0 < n → ∀ x, a = some x → r ≠ some x.block) : Row w' a n cap xs := by
  obtain ⟨h1, h2, h3, h4, h5, h6, h7⟩ := h
  refine ⟨h1, h2, h3, h4, h5, h6, fun x hx i hi => ?_⟩
  have hc := h7 x hx i hi
  have hb : (x.add i).block = x.block := by simp [Addr.add]; split <;> rfl
  exact hg.cell hc (by rw [hb]; exact fun e => hne (by omega) x hx e.symm)
end Go.Proofs.Ytafnonmpanpfkaa
