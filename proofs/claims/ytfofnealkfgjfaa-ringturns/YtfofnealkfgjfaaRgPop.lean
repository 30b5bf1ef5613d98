/- ring's Pop of a list that has one: a contract. (Written by tools/drafts/mkrgpop.py.) -/
import Derived.Test.YtfofnealkfgjfaaRgOps
import Derived.Deep.CutRange
namespace Go.Proofs.Ytfofnealkfgjfaa
open Go.RowKit
set_option maxRecDepth 100000
set_option linter.unusedVariables false

set_option maxHeartbeats 2000000 in
set_option maxRecDepth 100000 in
theorem pop_more (g off k c : Nat) (p : Le) (rs : List Le) (w : World) (hr : RowR w (some ⟨g, off, none⟩) (k + 1) (c + 2) (p :: rs)) (hk : k ≤ 100000) (hp : ∀ q ∈ p :: rs, q.n ≤ 70368744177664) :
    Calls Try.prog 9 #[.slice (some ⟨g, off, none⟩) (k + 1) (c + 2)] w fun e w' => ∃ (a' so : Option Addr) (c' co : Nat) (qs : List Le), e = .returned (.tuple #[.slice a' p.n c', .slice so k co, .bool true]) ∧ LeO w' w.heap.size ⟨a', p.n, c', p.xs⟩ ∧ OwnR w' w.heap.size so k co qs ∧ txt qs = txt rs ∧ Below w.heap.size w w' := by
  have HC : Hid (∀ W, Below w.heap.size w W → W.cell? ⟨g, off, none⟩ = some (.slice p.a p.n p.c) ∧ Row W p.a p.n p.c p.xs) := fun W hb => by
    have := (hr.below hb).cell (i := 0) (p := p) rfl
    simpa using this
  have hcap := hr.cap_le
  have HT : Hid (∀ W, Below w.heap.size w W → RowR W (some ⟨g, off + 1, none⟩) k (c + 1) rs) := fun W hb => by
    have := (hr.below hb).tail 1 (by omega)
    simpa using this
  have hp0 : p.n ≤ 140737488351232 := by have := hp p (by simp); omega
  have hp1 : ∀ q ∈ rs, q.n ≤ 70368744177664 := fun q hq => hp q (by simp [hq])
  clear hr hp
  have h0 : ((((k + 1 : Nat)) : Int) == 0) = false := by first | rfl | (simp; omega)
  have h2 : (1 : Int) ≤ (k : Int) + 1 := by omega
  go_enter Try.func9, Try.ntmps9
  go_upto_region 3 with fail
  refine wp_region_noPanic ?_
  refine wp_region_held_drew (S := fun W => Below w.heap.size w W) (by kernel_rfl) (ext_drew w) fun hS => ?_
  refine take_to (i := 0) (v := ?_) 8 rfl rfl (by kernel_rfl) (by kernel_rfl) (by kernel_rfl) (fun _ _ _ h => h) (Or.inl ⟨by rfl, ?_⟩) hS ?_
  rotate_left
  · intro W hW
    obtain ⟨s0, _⟩ := HC.out W hW
    go_simp
    try with_reducible rfl
  simp only [List.setIfInBounds_toArray, List.set_cons_zero, List.set_cons_succ]
  refine take_to (i := 1) (v := ?_) 9 rfl rfl (by kernel_rfl) (by kernel_rfl) (by kernel_rfl) (fun _ _ _ h => h) (Or.inl ⟨by rfl, ?_⟩) hS ?_
  rotate_left
  · intro W hW
    obtain ⟨s0, _⟩ := HC.out W hW
    go_simp
    try with_reducible rfl
  simp only [List.setIfInBounds_toArray, List.set_cons_zero, List.set_cons_succ]
  refine take_to (i := 2) (v := ?_) 10 rfl rfl (by kernel_rfl) (by kernel_rfl) (by kernel_rfl) (fun _ _ _ h => h) (Or.inl ⟨by rfl, ?_⟩) hS ?_
  rotate_left
  · intro W hW
    obtain ⟨s0, _⟩ := HC.out W hW
    go_simp
    try with_reducible rfl
  simp only [List.setIfInBounds_toArray, List.set_cons_zero, List.set_cons_succ]
  refine take_to (i := 4) (v := ?_) 12 rfl rfl (by kernel_rfl) (by kernel_rfl) (by kernel_rfl) (fun _ _ _ h => h) (Or.inl ⟨by rfl, ?_⟩) hS ?_
  rotate_left
  · intro W hW
    obtain ⟨s0, _⟩ := HC.out W hW
    go_simp
    try with_reducible rfl
  simp only [List.setIfInBounds_toArray, List.set_cons_zero, List.set_cons_succ]
  refine take_to (i := 5) (v := ?_) 13 rfl rfl (by kernel_rfl) (by kernel_rfl) (by kernel_rfl) (fun _ _ _ h => h) (Or.inl ⟨by rfl, ?_⟩) hS ?_
  rotate_left
  · intro W hW
    obtain ⟨s0, _⟩ := HC.out W hW
    go_simp
    try with_reducible rfl
  simp only [List.setIfInBounds_toArray, List.set_cons_zero, List.set_cons_succ]
  refine wpAnyH_ready (rs := [3]) (by kernel_rfl) (by simp) ?_
  refine AllReadyH.cons rfl (fun K hK => ?_) AllReadyH.nil
  go_simp
  obtain ⟨_, r1⟩ := HC.out _ hS
  refine (cloneR_any p.a p.n p.c p.xs _ r1 hp0).mono ?_
  rintro e w1 ⟨a', c', rfl, hL, b1⟩
  have hS2 : Below w.heap.size w w1 := ext_trans hS b1
  clear r1
  refine hK.out _ _ hS2 fun _ => ?_
  refine wpAnyH_more (S' := fun W => Below w1.heap.size w1 W) (fun W hW => ext_trans hS2 hW) _ _ _ _ ?_
  have hS3 : Below w1.heap.size w1 w1 := Below.refl _ _
  clear hK K
  refine wpAnyH_ready (rs := [6]) (by kernel_rfl) (by simp) ?_
  refine AllReadyH.cons rfl (fun K hK => ?_) AllReadyH.nil
  go_simp
  refine (letters_any _ _ _ _ _ (HT.out _ hS2) (by omega) hp1).mono ?_
  rintro e w2 ⟨so, co, qs, rfl, ho, ht, b2⟩
  have hS4 : Below w.heap.size w w2 := ext_trans hS2 b2
  refine hK.out _ _ b2 fun _ => ?_
  refine wpAnyH_more (S' := fun W => Below w2.heap.size w2 W) (fun W hW => ext_trans b2 hW) _ _ _ _ ?_
  have hS5 : Below w2.heap.size w2 w2 := Below.refl _ _
  clear hK K
  refine take_to (i := 7) (v := ?_) 2 rfl rfl (by kernel_rfl) (by kernel_rfl) (by kernel_rfl) (fun _ _ _ h => h) (Or.inl ⟨by rfl, ?_⟩) hS5 ?_
  rotate_left
  · intro W hW
    go_simp
    try with_reducible rfl
  simp only [List.setIfInBounds_toArray, List.set_cons_zero, List.set_cons_succ]
  refine take_to (i := 8) (v := ?_) 3 rfl rfl (by kernel_rfl) (by kernel_rfl) (by kernel_rfl) (fun _ _ _ h => h) (Or.inl ⟨by rfl, ?_⟩) hS5 ?_
  rotate_left
  · intro W hW
    go_simp
    try with_reducible rfl
  simp only [List.setIfInBounds_toArray, List.set_cons_zero, List.set_cons_succ]
  refine take_to (i := 9) (v := ?_) 4 rfl rfl (by kernel_rfl) (by kernel_rfl) (by kernel_rfl) (fun _ _ _ h => h) (Or.inl ⟨by rfl, ?_⟩) hS5 ?_
  rotate_left
  · intro W hW
    go_simp
    try with_reducible rfl
  simp only [List.setIfInBounds_toArray, List.set_cons_zero, List.set_cons_succ]
  refine wpAnyH_done (by kernel_rfl) ?_ _
  refine NoPanic.normal ?_
  go_wp2_with fail
  go_ret3
  exact ⟨a', so, c', co, qs, rfl, hL.below b2, ho.mono hS2.size, ht, hS4⟩
set_option maxHeartbeats 2000000 in
set_option maxRecDepth 100000 in
theorem pop_last (g off : Nat) (p : Le) (rs : List Le) (w : World) (hr : RowR w (some ⟨g, off, none⟩) 1 1 (p :: rs)) (hp : ∀ q ∈ p :: rs, q.n ≤ 70368744177664) :
    Calls Try.prog 9 #[.slice (some ⟨g, off, none⟩) 1 1] w fun e w' => ∃ (a' so : Option Addr) (c' co : Nat) (qs : List Le), e = .returned (.tuple #[.slice a' p.n c', .slice so 0 co, .bool true]) ∧ LeO w' w.heap.size ⟨a', p.n, c', p.xs⟩ ∧ OwnR w' w.heap.size so 0 co qs ∧ txt qs = txt rs ∧ Below w.heap.size w w' := by
  have HC : Hid (∀ W, Below w.heap.size w W → W.cell? ⟨g, off, none⟩ = some (.slice p.a p.n p.c) ∧ Row W p.a p.n p.c p.xs) := fun W hb => by
    have := (hr.below hb).cell (i := 0) (p := p) rfl
    simpa using this
  have hcap := hr.cap_le
  have HT : Hid (∀ W, Below w.heap.size w W → RowR W (some ⟨g, off, none⟩) 0 0 rs) := fun W hb => by
    have := (hr.below hb).tail0 1 (by omega) rfl
    simpa using this
  have hp0 : p.n ≤ 140737488351232 := by have := hp p (by simp); omega
  have hp1 : ∀ q ∈ rs, q.n ≤ 70368744177664 := fun q hq => hp q (by simp [hq])
  clear hr hp
  have h0 : ((((1 : Nat)) : Int) == 0) = false := by first | rfl | (simp; omega)
  have h2 : (1 : Int) ≤ (1 : Int) := by omega
  go_enter Try.func9, Try.ntmps9
  go_upto_region 3 with fail
  refine wp_region_noPanic ?_
  refine wp_region_held_drew (S := fun W => Below w.heap.size w W) (by kernel_rfl) (ext_drew w) fun hS => ?_
  refine take_to (i := 0) (v := ?_) 8 rfl rfl (by kernel_rfl) (by kernel_rfl) (by kernel_rfl) (fun _ _ _ h => h) (Or.inl ⟨by rfl, ?_⟩) hS ?_
  rotate_left
  · intro W hW
    obtain ⟨s0, _⟩ := HC.out W hW
    go_simp
    try with_reducible rfl
  simp only [List.setIfInBounds_toArray, List.set_cons_zero, List.set_cons_succ]
  refine take_to (i := 1) (v := ?_) 9 rfl rfl (by kernel_rfl) (by kernel_rfl) (by kernel_rfl) (fun _ _ _ h => h) (Or.inl ⟨by rfl, ?_⟩) hS ?_
  rotate_left
  · intro W hW
    obtain ⟨s0, _⟩ := HC.out W hW
    go_simp
    try with_reducible rfl
  simp only [List.setIfInBounds_toArray, List.set_cons_zero, List.set_cons_succ]
  refine take_to (i := 2) (v := ?_) 10 rfl rfl (by kernel_rfl) (by kernel_rfl) (by kernel_rfl) (fun _ _ _ h => h) (Or.inl ⟨by rfl, ?_⟩) hS ?_
  rotate_left
  · intro W hW
    obtain ⟨s0, _⟩ := HC.out W hW
    go_simp
    try with_reducible rfl
  simp only [List.setIfInBounds_toArray, List.set_cons_zero, List.set_cons_succ]
  refine take_to (i := 4) (v := ?_) 12 rfl rfl (by kernel_rfl) (by kernel_rfl) (by kernel_rfl) (fun _ _ _ h => h) (Or.inl ⟨by rfl, ?_⟩) hS ?_
  rotate_left
  · intro W hW
    obtain ⟨s0, _⟩ := HC.out W hW
    go_simp
    try with_reducible rfl
  simp only [List.setIfInBounds_toArray, List.set_cons_zero, List.set_cons_succ]
  refine take_to (i := 5) (v := ?_) 13 rfl rfl (by kernel_rfl) (by kernel_rfl) (by kernel_rfl) (fun _ _ _ h => h) (Or.inl ⟨by rfl, ?_⟩) hS ?_
  rotate_left
  · intro W hW
    obtain ⟨s0, _⟩ := HC.out W hW
    go_simp
    try with_reducible rfl
  simp only [List.setIfInBounds_toArray, List.set_cons_zero, List.set_cons_succ]
  refine wpAnyH_ready (rs := [3]) (by kernel_rfl) (by simp) ?_
  refine AllReadyH.cons rfl (fun K hK => ?_) AllReadyH.nil
  go_simp
  obtain ⟨_, r1⟩ := HC.out _ hS
  refine (cloneR_any p.a p.n p.c p.xs _ r1 hp0).mono ?_
  rintro e w1 ⟨a', c', rfl, hL, b1⟩
  have hS2 : Below w.heap.size w w1 := ext_trans hS b1
  clear r1
  refine hK.out _ _ hS2 fun _ => ?_
  refine wpAnyH_more (S' := fun W => Below w1.heap.size w1 W) (fun W hW => ext_trans hS2 hW) _ _ _ _ ?_
  have hS3 : Below w1.heap.size w1 w1 := Below.refl _ _
  clear hK K
  refine wpAnyH_ready (rs := [6]) (by kernel_rfl) (by simp) ?_
  refine AllReadyH.cons rfl (fun K hK => ?_) AllReadyH.nil
  go_simp
  refine (letters_any _ 0 0 rs _ (HT.out _ hS2) (Nat.zero_le _) hp1).mono ?_
  rintro e w2 ⟨so, co, qs, rfl, ho, ht, b2⟩
  have hS4 : Below w.heap.size w w2 := ext_trans hS2 b2
  refine hK.out _ _ b2 fun _ => ?_
  refine wpAnyH_more (S' := fun W => Below w2.heap.size w2 W) (fun W hW => ext_trans b2 hW) _ _ _ _ ?_
  have hS5 : Below w2.heap.size w2 w2 := Below.refl _ _
  clear hK K
  refine take_to (i := 7) (v := ?_) 2 rfl rfl (by kernel_rfl) (by kernel_rfl) (by kernel_rfl) (fun _ _ _ h => h) (Or.inl ⟨by rfl, ?_⟩) hS5 ?_
  rotate_left
  · intro W hW
    go_simp
    try with_reducible rfl
  simp only [List.setIfInBounds_toArray, List.set_cons_zero, List.set_cons_succ]
  refine take_to (i := 8) (v := ?_) 3 rfl rfl (by kernel_rfl) (by kernel_rfl) (by kernel_rfl) (fun _ _ _ h => h) (Or.inl ⟨by rfl, ?_⟩) hS5 ?_
  rotate_left
  · intro W hW
    go_simp
    try with_reducible rfl
  simp only [List.setIfInBounds_toArray, List.set_cons_zero, List.set_cons_succ]
  refine take_to (i := 9) (v := ?_) 4 rfl rfl (by kernel_rfl) (by kernel_rfl) (by kernel_rfl) (fun _ _ _ h => h) (Or.inl ⟨by rfl, ?_⟩) hS5 ?_
  rotate_left
  · intro W hW
    go_simp
    try with_reducible rfl
  simp only [List.setIfInBounds_toArray, List.set_cons_zero, List.set_cons_succ]
  refine wpAnyH_done (by kernel_rfl) ?_ _
  refine NoPanic.normal ?_
  go_wp2_with fail
  go_ret3
  exact ⟨a', so, c', co, qs, rfl, hL.below b2, ho.mono hS2.size, ht, hS4⟩

theorem pop_some (a : Option Addr) (k c : Nat) (p : Le) (rs : List Le) (w : World) (hr : RowR w a (k + 1) c (p :: rs)) (hk : k ≤ 100000) (hp : ∀ q ∈ p :: rs, q.n ≤ 70368744177664) :
    Calls Try.prog 9 #[.slice a (k + 1) c] w fun e w' => ∃ (a' so : Option Addr) (c' co : Nat) (qs : List Le), e = .returned (.tuple #[.slice a' p.n c', .slice so k co, .bool true]) ∧ LeO w' w.heap.size ⟨a', p.n, c', p.xs⟩ ∧ OwnR w' w.heap.size so k co qs ∧ txt qs = txt rs ∧ Below w.heap.size w w' := by
  obtain ⟨g, off, rfl, hr'⟩ := hr.at (by omega)
  have hc := hr.cap_le
  match c, hc, hr' with
  | 0, hc, _ => omega
  | 1, hc, hr' =>
    obtain rfl : k = 0 := by omega
    exact pop_last g off p rs w hr' hp
  | c + 2, hc, hr' => exact pop_more g off k c p rs w hr' hk hp
end Go.Proofs.Ytfofnealkfgjfaa
