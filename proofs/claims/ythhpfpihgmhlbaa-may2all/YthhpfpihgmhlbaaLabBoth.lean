/- What the document's own Join and Meet answer of labels: contracts. -/
import Derived.Test.YthhpfpihgmhlbaaLabMk
import Derived.Lib.MinMax
namespace Go.Proofs.Ythhpfpihgmhlbaa
open Go.RowKit

theorem up_one {ps : List (Int × Int)} (h : UpL ps) {p q : Int × Int} (hp : p ∈ ps) (hq : q ∈ ps) (e : p.1 = q.1) : p = q := by
  obtain ⟨i, hi, rfl⟩ := List.mem_iff_getElem.1 hp
  obtain ⟨j, hj, rfl⟩ := List.mem_iff_getElem.1 hq
  have hlt := List.pairwise_iff_getElem.1 h
  by_cases h1 : i < j
  · have := hlt i j hi hj h1; omega
  · by_cases h2 : j < i
    · have := hlt j i hj hi h2; omega
    · obtain rfl : i = j := by omega
      rfl
theorem atL_uniq (d : Int) {ps : List (Int × Int)} (h : ∀ p ∈ ps, ∀ q ∈ ps, p.1 = q.1 → p = q) {p : Int × Int} (hp : p ∈ ps) : atL d ps p.1 = p.2 := by
  induction ps with
  | nil => simp at hp
  | cons q ps ih =>
    rw [atL_cons]
    by_cases e : q.1 = p.1
    · rw [if_pos e, h q (by simp) p hp e]
    · rw [if_neg e]
      rcases List.mem_cons.1 hp with rfl | hp
      · exact absurd rfl e
      · exact ih (fun a ha b hb => h a (by simp [ha]) b (by simp [hb])) hp
theorem at_rev (d : Int) {ps : List (Int × Int)} (h : UpL ps) (c : Int) : atL d ps.reverse c = atL d ps c := by
  by_cases hc : ∃ p ∈ ps, p.1 = c
  · obtain ⟨p, hp, rfl⟩ := hc
    rw [atL_mem d h hp, atL_uniq d (fun a ha b hb e => up_one h (by simpa using ha) (by simpa using hb) e) (by simpa using hp)]
  · rw [atL_off d ps c (fun p hp e => hc ⟨p, hp, e⟩), atL_off d _ c (fun p hp e => hc ⟨p, by simpa using hp, e⟩)]
theorem both_at (f : Int → Int → Int) (d d' D : Int) (hD : D = f d d') {xs ys : List (Int × Int)} {zs : List Int} (h : Srt zs) (hm : ∀ x, x ∈ zs ↔ x ∈ (xs ++ ys).map Prod.fst) (c : Int) :
    atL D (zs.map fun c => (c, f (atL d xs c) (atL d' ys c))).reverse c = f (atL d xs c) (atL d' ys c) := by
  have hu : UpL (zs.map fun c => (c, f (atL d xs c) (atL d' ys c))) := List.pairwise_map.2 h
  rw [at_rev D hu]
  by_cases hc : c ∈ zs
  · exact atL_mem D hu (List.mem_map.2 ⟨c, hc, rfl⟩ : (c, f (atL d xs c) (atL d' ys c)) ∈ _)
  · have hn := fun hm' => hc ((hm c).2 hm')
    rw [List.map_append, List.mem_append] at hn
    rw [atL_off d xs c (fun p hp e => hn (.inl (List.mem_map.2 ⟨p, hp, e⟩))), atL_off d' ys c (fun p hp e => hn (.inr (List.mem_map.2 ⟨p, hp, e⟩))), ← hD]
    exact atL_off D _ c (fun p hp e => by obtain ⟨x, hx, rfl⟩ := List.mem_map.1 hp; exact hc (e ▸ hx))

end Go.Proofs.Ythhpfpihgmhlbaa
