/- The law's run: a memory of frames and, beside it, an array of slices that is to hold the same; what each call and each store of the law leaves of the two. -/
import Derived.Test.YtdnlldmpigfadaaFrOpsArg
namespace Go.Proofs.Ytdnlldmpigfadaa
open Go.RowKit

/-- A memory at p that holds A, an array of slices at h that holds A2; the two share nothing, and both were made since W. -/
def St (W w : World) (p k h : Nat) (A A2 : Mm) : Prop :=
  ∃ (S S2 : Nat → Prop) (g : Nat) (b b2 : Nat → Nat), Mem w S p k A g b ∧ Tab w S2 27 h 512 A2 b2 ∧ (∀ x, S x → ¬ S2 x) ∧ (∀ x, S x → W.heap.size ≤ x) ∧ (∀ x, S2 x → W.heap.size ≤ x) ∧ Below W.heap.size W w
/-- And an operation in a variable at v. -/
def Rd (W w : World) (p k h v : Nat) (A A2 : Mm) (K F O B : Int) : Prop :=
  ∃ (S S2 : Nat → Prop) (g : Nat) (b b2 : Nat → Nat), Mem w S p k A g b ∧ Tab w S2 27 h 512 A2 b2 ∧ (∀ x, S x → ¬ S2 x) ∧ (∀ x, S x → W.heap.size ≤ x) ∧ (∀ x, S2 x → W.heap.size ≤ x) ∧ Below W.heap.size W w ∧
    ¬ S v ∧ ¬ S2 v ∧ w.heap[v]? = some (.cells #[.int .i64 K, .int .i64 F, .int .i64 O, .int .u8 B] 29 (0, 0))
section
variable {W w : World} {p k h v : Nat} {A A2 : Mm} {K F O B : Int}
theorem St.below (s : St W w p k h A A2) : Below W.heap.size W w := by obtain ⟨_, _, _, _, _, _, _, _, _, _, hb⟩ := s; exact hb
theorem Rd.below (s : Rd W w p k h v A A2 K F O B) : Below W.heap.size W w := by obtain ⟨_, _, _, _, _, _, _, _, _, _, hb, _⟩ := s; exact hb
theorem Rd.st (s : Rd W w p k h v A A2 K F O B) : St W w p k h A A2 := by obtain ⟨S, S2, g, b, b2, h1, h2, h3, h4, h5, h6, _⟩ := s; exact ⟨S, S2, g, b, b2, h1, h2, h3, h4, h5, h6⟩
theorem Rd.drew (s : Rd W w p k h v A A2 K F O B) (n : Nat) : Rd W (w.drewN n) p k h v A A2 K F O B := by
  obtain ⟨S, S2, g, b, b2, h1, h2, h3, h4, h5, h6, h7, h8, h9⟩ := s
  exact ⟨S, S2, g, b, b2, h1.kept (fun _ _ => rfl) (Nat.le_refl _), h2.kept (fun _ _ => rfl) (Nat.le_refl _), h3, h4, h5, ⟨h6.os, h6.tape, h6.output, h6.size, h6.block⟩, h7, h8, h9⟩
theorem St.lid (s : St W w p k h A A2) : k ≤ 512 := by obtain ⟨_, _, _, _, _, h1, _⟩ := s; exact h1.lid
theorem Rd.cells (s : Rd W w p k h v A A2 K F O B) : w.cell? ⟨v, 0, none⟩ = some (.int .i64 K) ∧ w.cell? ⟨v, 1, none⟩ = some (.int .i64 F) ∧ w.cell? ⟨v, 2, none⟩ = some (.int .i64 O) ∧ w.cell? ⟨v, 3, none⟩ = some (.int .u8 B) := by
  obtain ⟨S, S2, g, b, b2, h1, h2, h3, h4, h5, h6, h7, h8, h9⟩ := s
  exact ⟨by simp [World.cell?, h9], by simp [World.cell?, h9], by simp [World.cell?, h9], by simp [World.cell?, h9]⟩
/-- The run begins. -/
theorem st_start {S : Nat → Prop} {g : Nat} {b : Nat → Nat} {w2 : World} (hM : Mem w2 S p k (fun _ => none) g b) (hb : Below W.heap.size W w2) (hS : ∀ x, S x → W.heap.size ≤ x) (Z : Array Value) (hz : Z.size = 512) (hz2 : ∀ i, i < 512 → Z[i]? = some (.slice none 0 0)) :
    St W (w2.alloc (.cells Z 27)) p k w2.heap.size (fun _ => none) (fun _ => none) := by
  have hr : (w2.alloc (.cells Z 27)).rowIs w2.heap.size 27 512 (fun _ => .slice none 0 0) := ⟨Z, heap_alloc_new w2 _, hz, hz2⟩
  refine ⟨S, fun x => x = w2.heap.size, g, b, fun _ => 0, hM.below (below_alloc _ _), ⟨hr.congr fun i _ => rfl, fun i f hf => by simp at hf, fun i j hi => absurd rfl hi, fun i f j hf => by simp at hf, rfl, fun x hx => by subst hx; simp, fun _ _ => rfl⟩,
    fun x hx hc => by have := hM.tab.lt x hx; omega, hS, fun x hx => by subst hx; exact hb.size, hb.trans ((below_alloc _ _).mono hb.size)⟩
/-- An operation is put into a variable of the round. -/
theorem St.round (s : St W w p k h A A2) (K F O B : Int) : Rd W (w.alloc (.cells #[.int .i64 K, .int .i64 F, .int .i64 O, .int .u8 B] 29)) p k h w.heap.size A A2 K F O B := by
  obtain ⟨S, S2, g, b, b2, h1, h2, h3, h4, h5, h6⟩ := s
  exact ⟨S, S2, g, b, b2, h1.below (below_alloc _ _), h2.below (below_alloc _ _), h3, h4, h5, h6.trans ((below_alloc _ _).mono h6.size), fun hc => by have := h1.tab.lt _ hc; omega, fun hc => by have := h2.lt _ hc; omega, heap_alloc_new w _⟩
/-- What stands in the array. -/
theorem St.cell_none (s : St W w p k h A A2) (i : Nat) (hi : i < 512) (hA : A2 i = none) : w.cell? ⟨h, i, none⟩ = some (.slice none 0 0) := by
  obtain ⟨S, S2, g, b, b2, h1, h2, _⟩ := s
  exact h2.cell_none i hi hA
theorem St.cell_some (s : St W w p k h A A2) (i : Nat) (f : Fr) (hA : A2 i = some f) : ∃ q, w.cell? ⟨h, i, none⟩ = some (.slice (some ⟨q, 0, none⟩) 16 16) ∧ ∀ j, j < 16 → w.cell? ⟨q, j, none⟩ = some (.int .u8 (f j)) := by
  obtain ⟨S, S2, g, b, b2, h1, h2, _⟩ := s
  exact ⟨b2 i, h2.cell_some i hA, fun j hj => h2.byte i j hA hj⟩
theorem St.frozen (s : St W w p k h A A2) (i : Nat) : w.frozen? ⟨h, i, none⟩ = false := by
  obtain ⟨S, S2, g, b, b2, h1, h2, _⟩ := s
  exact h2.row.frozen i
theorem St.size (s : St W w p k h A A2) : h < w.heap.size := by
  obtain ⟨S, S2, g, b, b2, h1, h2, _⟩ := s
  exact h2.lt h h2.sg
theorem St.top (s : St W w p k h A A2) (i : Nat) (hi : k ≤ i) : A i = none := by
  obtain ⟨S, S2, g, b, b2, h1, h2, _⟩ := s
  exact h1.tab.top i hi
theorem St.byt (s : St W w p k h A A2) {i j : Nat} {f : Fr} (hA : A i = some f) (hj : j < 16) : 0 ≤ f j ∧ f j < 256 := by
  obtain ⟨S, S2, g, b, b2, h1, h2, _⟩ := s
  exact h1.tab.byt i f j hA hj
/-- Stores of the law into the array. -/
theorem Rd.tab_free (s : Rd W w p k h v A A2 K F O B) (i : Nat) : Rd W (w.setCell ⟨h, i, none⟩ (.slice none 0 0)) p k h v A (upd A2 i none) K F O B := by
  obtain ⟨S, S2, g, b, b2, h1, h2, h3, h4, h5, h6, h7, h8, h9⟩ := s
  exact ⟨S, S2, g, b, b2, h1.other (Chg.set S2 w h i _ h2.sg) h3, h2.free i, h3, h4, h5, h6.setCell (h5 h h2.sg) _, h7, h8, by rw [Below.heap_setCell _ _ _ _ (fun e => h8 (by rw [e]; exact h2.sg))]; exact h9⟩
theorem Rd.tab_take (s : Rd W w p k h v A A2 K F O B) (i : Nat) (hi : i < 512) (hA : A2 i = none) : Rd W ((w.setCell ⟨h, i, none⟩ (.slice (some ⟨w.heap.size, 0, none⟩) 16 16)).alloc (.cells (madeCells #[.int .u8 0] 16) 5)) p k h v A (upd A2 i (some fun _ => 0)) K F O B := by
  obtain ⟨S, S2, g, b, b2, h1, h2, h3, h4, h5, h6, h7, h8, h9⟩ := s
  have ht := h2.take i hi hA _ made_noughts w.heap.size rfl
  have hlt := h2.lt h h2.sg
  have hv : v < w.heap.size := by
    obtain ⟨hl, _⟩ := Array.getElem?_eq_some_iff.1 h9
    exact hl
  have hsz : ((w.alloc (.cells (madeCells #[.int .u8 0] 16) 5)).setCell ⟨h, i, none⟩ (.slice (some ⟨w.heap.size, 0, none⟩) 16 16)).heap.size = w.heap.size + 1 := by simp [World.setCell]
  have hc : Chg S2 w ((w.setCell ⟨h, i, none⟩ (.slice (some ⟨w.heap.size, 0, none⟩) 16 16)).alloc (.cells (madeCells #[.int .u8 0] 16) 5)) := Chg.trans (Chg.set S2 w h i _ h2.sg) (Chg.of_below (below_alloc _ _) (fun _ => False)) (fun x hx => hx.elim)
  refine ⟨S, fun x => S2 x ∨ x = w.heap.size, g, b, _, h1.other hc h3, ht.kept (fun x _ => set_alloc w ⟨h, i, none⟩ _ _ hlt x) (by rw [hsz]; simp [World.setCell]), fun x hx hc => hc.elim (h3 x hx) (fun e => by have := h1.tab.lt x hx; omega), h4, fun x hx => hx.elim (h5 x) (fun e => by have := h6.size; omega),
    (h6.setCell (h5 h h2.sg) _).trans ((below_alloc _ _).mono (by have := h6.size; simpa [World.setCell] using this)), h7, fun hx => hx.elim h8 (by omega), (hc.block v hv h8).trans h9⟩
theorem Rd.tab_store (s : Rd W w p k h v A A2 K F O B) (i j : Nat) (f : Fr) (hA : A2 i = some f) (hj : j < 16) : ∃ q, w.cell? ⟨h, i, none⟩ = some (.slice (some ⟨q, 0, none⟩) 16 16) ∧ w.cell? ⟨q, j, none⟩ = some (.int .u8 (f j)) ∧ w.frozen? ⟨q, j, none⟩ = false ∧
    ∀ x, 0 ≤ x ∧ x < 256 → Rd W (w.setCell ⟨q, j, none⟩ (.int .u8 x)) p k h v A (upd A2 i (some (upd f j x))) K F O B := by
  obtain ⟨S, S2, g, b, b2, h1, h2, h3, h4, h5, h6, h7, h8, h9⟩ := s
  have hq := (h2.own i f hA).2.2
  exact ⟨b2 i, h2.cell_some i hA, h2.byte i j hA hj, (h2.own i f hA).1.frozen j, fun x hx => ⟨S, S2, g, b, b2, h1.other (Chg.set S2 w _ j _ hq) h3, h2.store i j hA x hx, h3, h4, h5, h6.setCell (h5 _ hq) _, h7, h8, by rw [Below.heap_setCell _ _ _ _ (fun e => h8 (by rw [e]; exact hq))]; exact h9⟩⟩
/-- The memory's calls. -/
theorem rd_take (s : Rd W w p k h v A A2 K F O B) (m : Nat) (hm : m < k) (h1 : ∀ i, i < m → A i ≠ none) (h2 : A m = none) : Calls Try.prog 9 #[.pointer (some ⟨p, 0, none⟩)] w fun e w' =>
    e = .returned (.tuple #[.int .i64 m, .int .i64 0]) ∧ Rd W w' p k h v (upd A m (some fun _ => 0)) A2 K F O B := by
  obtain ⟨S, S2, g, b, b2, hM, hT, hd, hS, hS2, hb, hv, hv2, hc⟩ := s
  have hvl : v < w.heap.size := by
    obtain ⟨hl, _⟩ := Array.getElem?_eq_some_iff.1 hc
    exact hl
  exact (take_free hM m hm h1 h2).mono fun _ _ ⟨he, hM2, c⟩ => ⟨he, _, S2, _, _, b2, hM2, hT.other c (fun x hx hs => hd x hs hx), fun x hx => hx.elim (hd x) (fun e hs => by have := hT.lt x hs; omega), fun x hx => hx.elim (hS x) (fun e => by have := hb.size; omega), hS2, hb.trans (c.below hS hb.size),
    fun hx => hx.elim hv (by omega), hv2, (c.block v hvl hv).trans hc⟩
theorem rd_full (s : Rd W w p k h v A A2 K F O B) (h1 : ∀ i, i < k → A i ≠ none) : Calls Try.prog 9 #[.pointer (some ⟨p, 0, none⟩)] w fun e w' => e = .returned (.tuple #[.int .i64 0, .int .i64 9]) ∧ w' = w := by
  obtain ⟨S, S2, g, b, b2, hM, _⟩ := s
  exact take_full hM h1
theorem rd_free (s : Rd W w p k h v A A2 K F O B) (i : Nat) (f : Fr) (hA : A i = some f) : Calls Try.prog 10 #[.pointer (some ⟨p, 0, none⟩), .int .i64 i] w fun e w' =>
    e = .returned (.int .i64 0) ∧ Rd W w' p k h v (upd A i none) A2 K F O B := by
  obtain ⟨S, S2, g, b, b2, hM, hT, hd, hS, hS2, hb, hv, hv2, hc⟩ := s
  have hvl : v < w.heap.size := by
    obtain ⟨hl, _⟩ := Array.getElem?_eq_some_iff.1 hc
    exact hl
  exact (free_ok hM i f hA).mono fun _ _ ⟨he, hM2, c⟩ => ⟨he, S, S2, _, _, b2, hM2, hT.other c (fun x hx hs => hd x hs hx), hd, hS, hS2, hb.trans (c.below hS hb.size), hv, hv2, (c.block v hvl hv).trans hc⟩
theorem rd_free_none (s : Rd W w p k h v A A2 K F O B) (n : Int) (hA : at_ A n = none) : Calls Try.prog 10 #[.pointer (some ⟨p, 0, none⟩), .int .i64 n] w fun e w' => e = .returned (.int .i64 7) ∧ w' = w := by
  obtain ⟨S, S2, g, b, b2, hM, _⟩ := s
  exact free_none hM n hA
theorem rd_store (s : Rd W w p k h v A A2 K F O B) (i j : Nat) (f : Fr) (hA : A i = some f) (hj : j < 16) (x : Int) (hx : 0 ≤ x ∧ x < 256) : Calls Try.prog 11 #[.pointer (some ⟨p, 0, none⟩), .int .i64 i, .int .i64 j, .int .u8 x] w fun e w' =>
    e = .returned (.int .i64 0) ∧ Rd W w' p k h v (upd A i (some (upd f j x))) A2 K F O B := by
  obtain ⟨S, S2, g, b, b2, hM, hT, hd, hS, hS2, hb, hv, hv2, hc⟩ := s
  have hvl : v < w.heap.size := by
    obtain ⟨hl, _⟩ := Array.getElem?_eq_some_iff.1 hc
    exact hl
  exact (store_ok hM i j f hA hj x hx).mono fun _ _ ⟨he, hM2, c⟩ => ⟨he, S, S2, _, _, b2, hM2, hT.other c (fun x hx hs => hd x hs hx), hd, hS, hS2, hb.trans (c.below hS hb.size), hv, hv2, (c.block v hvl hv).trans hc⟩
theorem rd_store_range (s : Rd W w p k h v A A2 K F O B) (i : Nat) (off : Int) (f : Fr) (hA : A i = some f) (ho : off < 0 ∨ 16 ≤ off) (x : Int) : Calls Try.prog 11 #[.pointer (some ⟨p, 0, none⟩), .int .i64 i, .int .i64 off, .int .u8 x] w fun e w' =>
    e = .returned (.int .i64 11) ∧ w' = w := by
  obtain ⟨S, S2, g, b, b2, hM, _⟩ := s
  exact store_range hM i off f hA ho x
theorem rd_store_none (s : Rd W w p k h v A A2 K F O B) (n off : Int) (hA : at_ A n = none) (x : Int) : Calls Try.prog 11 #[.pointer (some ⟨p, 0, none⟩), .int .i64 n, .int .i64 off, .int .u8 x] w fun e w' =>
    e = .returned (.int .i64 7) ∧ w' = w := by
  obtain ⟨S, S2, g, b, b2, hM, _⟩ := s
  exact store_none hM n off hA x
theorem rd_load (s : Rd W w p k h v A A2 K F O B) (i j : Nat) (f : Fr) (hA : A i = some f) (hj : j < 16) (x : Int) (hx : f j = x) : Calls Try.prog 12 #[.pointer (some ⟨p, 0, none⟩), .int .i64 i, .int .i64 j] w fun e w' =>
    e = .returned (.tuple #[.int .u8 x, .int .i64 0]) ∧ w' = w := by
  obtain ⟨S, S2, g, b, b2, hM, _⟩ := s
  subst hx
  exact load_ok hM i j f hA hj
theorem rd_load_range (s : Rd W w p k h v A A2 K F O B) (i : Nat) (off : Int) (f : Fr) (hA : A i = some f) (ho : off < 0 ∨ 16 ≤ off) : Calls Try.prog 12 #[.pointer (some ⟨p, 0, none⟩), .int .i64 i, .int .i64 off] w fun e w' =>
    e = .returned (.tuple #[.int .u8 0, .int .i64 11]) ∧ w' = w := by
  obtain ⟨S, S2, g, b, b2, hM, _⟩ := s
  exact load_range hM i off f hA ho
theorem rd_load_none (s : Rd W w p k h v A A2 K F O B) (n off : Int) (hA : at_ A n = none) : Calls Try.prog 12 #[.pointer (some ⟨p, 0, none⟩), .int .i64 n, .int .i64 off] w fun e w' =>
    e = .returned (.tuple #[.int .u8 0, .int .i64 7]) ∧ w' = w := by
  obtain ⟨S, S2, g, b, b2, hM, _⟩ := s
  exact load_none hM n off hA
theorem rd_used (s : Rd W w p k h v A A2 K F O B) (c : Nat) (hc : cnt A k = c) : Calls Try.prog 13 #[.pointer (some ⟨p, 0, none⟩)] w fun e w' => e = .returned (.int .i64 c) ∧ w' = w := by
  obtain ⟨S, S2, g, b, b2, hM, _⟩ := s
  exact used_any hM c hc
end
theorem at_some {A : Mm} {n : Int} {f : Fr} (h : at_ A n = some f) : ∃ i : Nat, n = (i : Int) ∧ A i = some f := by
  unfold at_ at h
  split at h
  · cases h
  · exact ⟨n.toNat, by omega, h⟩
theorem St.lt {W w : World} {p k h : Nat} {A A2 : Mm} (s : St W w p k h A A2) {i : Nat} {f : Fr} (hA : A i = some f) : i < k := by
  apply Classical.byContradiction
  intro hc
  rw [s.top i (by omega)] at hA
  cases hA
end Go.Proofs.Ytdnlldmpigfadaa
