/- each: what it is handed is called with every id that has a record, rising: contract. (Written by tools/drafts/arena/mkareach.py.) -/
import Derived.Test.YtafnonmpanpfkaaArDrop
import Derived.Test.YtafnonmpanpfkaaRegionT
namespace Go.Proofs.Ytafnonmpanpfkaa
open Go.RowKit
set_option maxRecDepth 100000
set_option linter.unusedVariables false

section
variable {x : Am} {w w' : World} {S : Nat → Prop} {p : Nat}
theorem each_nil (f : Value) (w : World) : Calls Try.prog 28 #[.pointer none, f] w fun e w' => e = .returned (.tuple #[]) ∧ w' = w := by
  go_enter Try.func28, Try.ntmps28
  go_wp2_with fail
  (try simp only [Exit.inBlock, Exit.then])
  refine bodyPost_ret (results_none rfl _ _ _) rfl ?_
  exact ⟨rfl, rfl⟩
theorem says_snoc (Sl : Nat → Slot) (rf : List Rf) (r : Rf) : says Sl (rf ++ [r]) = if live Sl r then says Sl rf ++ [(r.id, (Sl r.pl).xs)] else says Sl rf := by
  unfold says
  rw [List.filter_append, List.map_append]
  cases h : live Sl r <;> simp [h]
set_option maxHeartbeats 4000000 in
theorem each_any (h : x.In w S p) {v : Int} {T : Tx} {N : Nat} (hi : Inv v (32 * x.sn) x.fr x.rf x.Sl T N) (hN : N ≤ 34359738368) (F : Nat) (cv : Option Addr)
    (eg : ∀ args W, (callFunc F args).run Try.prog W = .ok (.enter F args) W) (J : List (Int × List Int) → World → Prop) (hJ : ∀ l W, J l W → x.In W S p) (hJb : ∀ l W W', J l W → Below W.heap.size W W' → J l W') (h0 : J [] w)
    (step : ∀ (l r : List (Int × List Int)) (i : Int) (xs : List Int) (a : Option Addr) (n cap : Nat) (W : World), says x.Sl x.rf = l ++ (i, xs) :: r → J l W → Row W a n cap xs → (∀ y, a = some y → S y.block) → U i →
      Calls Try.prog F #[.int .u64 i, .slice a n cap, .pointer cv] W fun e W' => e = .returned (.tuple #[]) ∧ J (l ++ [(i, xs)]) W') :
    Calls Try.prog 28 #[.pointer (some ⟨p, 0, none⟩), .func (.func F) #[] #[.pointer cv]] w fun e w' => e = .returned (.tuple #[]) ∧ J (says x.Sl x.rf) w' := by
  have hN : x.sn ≤ 1099511627776 := by have := hi.bnd.2.1; omega
  have hrn : x.rn ≤ 1099511627776 := by have := hi.bnd.1; have := h.rfs.1; omega
  have hcap := h.rfs.row.cap_le
  have hlen : Hid (x.rf.length = x.rn) := h.rfs.1
  have HJ : Hid (∀ l W, J l W → x.In W S p) := hJ
  have HJB : Hid (∀ l W W', J l W → Below W.heap.size W W' → J l W') := hJb
  have HST : Hid (∀ (l r : List (Int × List Int)) (i : Int) (xs : List Int) (a : Option Addr) (n cap : Nat) (W : World), says x.Sl x.rf = l ++ (i, xs) :: r → J l W → Row W a n cap xs → (∀ y, a = some y → S y.block) → U i →
      Calls Try.prog F #[.int .u64 i, .slice a n cap, .pointer cv] W fun e W' => e = .returned (.tuple #[]) ∧ J (l ++ [(i, xs)]) W') := step
  have HPL : Hid (∀ r ∈ x.rf, r.pl < 32 * x.sn) := fun r hr => (hi.pl r hr).1
  have HU : Hid (∀ r ∈ x.rf, U r.id) := fun r hr => h.rfs.2.1 r hr
  have c3 := h.c3
  have hro0 := h.rfs.row
  clear hJ hJb step hi
  go_enter Try.func28, Try.ntmps28
  go_wp2_with fail
  go_loopw [5, 13] (fun s5 s13 wr => ∃ k, k ≤ x.rn ∧ (∃ z : Value, s5 = z) ∧ s13 = .int .i64 k ∧ J (says x.Sl (x.rf.take k)) wr) (fun _ s13 _ => x.rn - (intOf s13).toNat)
  case atStart => exact ⟨0, by omega, ⟨_, rfl⟩, rfl, h0⟩
  case round =>
    obtain ⟨k, hk, ⟨z, rfl⟩, rfl, hj⟩ := hrel
    by_cases hlt : k < x.rn
    · have h1 : (k : Int) < (x.rn : Int) := by omega
      have hr := HJ.out _ _ hj
      obtain ⟨b, off, hra, _⟩ := hr.rfs.row.at (by omega)
      have hro := hr.rfs.row
      rw [hra] at hro
      obtain ⟨R, hX⟩ := hro.get k hlt
      obtain ⟨c1, c2, c3⟩ := hro.ref hX
      have hmem := List.mem_of_getElem? hX
      have hp := HPL.out R hmem
      have hU := HU.out R hmem
      have HX : Hid (x.rf[k]? = some R) := hX
      have HRA : Hid (x.ra = some ⟨b, off, none⟩) := hra
      have htk : Hid (x.rf.take (k + 1) = x.rf.take k ++ [R]) := by
        show _ = _
        rw [List.take_add_one, hX]; rfl
      rw [hra]
      clear hX hra hmem
      obtain ⟨W1, hW1⟩ : ∃ W1, W1 = wr.alloc (.cells #[.int .u64 R.id, .int .i64 R.pl, .int .u64 R.g] 72) := ⟨_, rfl⟩
      have hb1 : Below wr.heap.size wr W1 := by rw [hW1]; exact below_alloc _ _
      have hblk1 : W1.heap[wr.heap.size]? = some (.cells #[.int .u64 R.id, .int .i64 R.pl, .int .u64 R.g] 72 (0, 0)) := by rw [hW1]; exact heap_alloc_new _ _
      have hr1 := hr.below hb1
      have HW1 : Hid (W1 = _) := hW1
      rw [hW1] at hr1
      clear hW1
      go_wp2_with fail
      refine (isStale_any hr1 hN hp).mono ?_
      rintro e w2 ⟨rfl, b2⟩
      rw [← HW1.out] at b2 hr1
      have hr2 := hr1.below b2
      have hj2 : J (says x.Sl (x.rf.take k)) w2 := HJB.out _ _ _ hj (ext_trans hb1 b2)
      cases hl : live x.Sl R with
      | false =>
        go_wp2
        go_roundw
        case rel =>
          refine ⟨k + 1, by omega, ⟨_, rfl⟩, by go_num, ?_⟩
          rw [htk.out, says_snoc, hl]
          exact hj2
        case measure => simp [intOf]; omega
      | true =>
        have hblk2 : w2.heap[wr.heap.size]? = some (.cells #[.int .u64 R.id, .int .i64 R.pl, .int .u64 R.g] 72 (0, 0)) := (b2.block _ (Array.getElem?_eq_some_iff.1 hblk1).1).trans hblk1
        obtain ⟨b', g, -, hg, _, d2, d3, fz⟩ := hr2.slot hp
        have HC : Hid (∀ W, Below w2.heap.size w2 W → W.cell? ⟨wr.heap.size, 0, none⟩ = some (.int .u64 R.id) ∧ W.cell? ⟨wr.heap.size, 1, none⟩ = some (.int .i64 R.pl) ∧ W.cell? ⟨g, R.pl % 32 * 2 + 1, none⟩ = some (.slice (x.Sl R.pl).a (x.Sl R.pl).n (x.Sl R.pl).c)) := fun W hW => by
          have hb := (hW.block _ (Array.getElem?_eq_some_iff.1 hblk2).1).trans hblk2
          exact ⟨ar_cell hb 0 _ rfl, ar_cell hb 1 _ rfl, (hW.cell (lt_of_cell d3)).trans d3⟩
        have HI : Hid (∀ W, Below w2.heap.size w2 W → x.In W S p) := fun W hW => hr2.below hW
        have HSTEP : Hid (∀ W, Below w2.heap.size w2 W → Calls Try.prog F #[.int .u64 R.id, .slice (x.Sl R.pl).a (x.Sl R.pl).n (x.Sl R.pl).c, .pointer cv] W fun e W' => e = .returned (.tuple #[]) ∧ J (says x.Sl (x.rf.take k) ++ [(R.id, (x.Sl R.pl).xs)]) W') := fun W hW => by
          refine HST.out (says x.Sl (x.rf.take k)) (says x.Sl (x.rf.drop (k + 1))) R.id _ _ _ _ W ?_ (HJB.out _ _ _ hj2 hW) ((hr2.below hW).lets R.pl).row (fun y hy => hr2.sx _ y hy) hU
          have e1 : x.rf = x.rf.take k ++ ([R] ++ x.rf.drop (k + 1)) := by
            rw [← List.append_assoc, ← htk.out, List.take_append_drop]
          conv => lhs; rw [e1]
          unfold says
          rw [List.filter_append, List.filter_append, List.map_append, List.map_append]
          simp [hl]
        clear hblk1 hblk2 hr1 hr2 hr d2 d3 c1 c2 c3 fz hro hj hj2 hb1 b2 hro0 h h0
        go_wp2_with fail
        refine wp_region_noPanic ?_
        refine wp_region_T (S := fun W => Below w2.heap.size w2 W) (by kernel_rfl) (ext_drew w2) fun hS => ?_
        refine takeT_to (i := 0) (v := ?_) 21 rfl rfl (by kernel_rfl) (by kernel_rfl) (by kernel_rfl) (by kernel_rfl) (fun _ _ _ h => h) (Or.inl ⟨by rfl, ?_⟩) hS ?_
        rotate_left
        · intro W hW
          obtain ⟨s0, s1, s2⟩ := HC.out W hW
          go_simp
          try with_reducible rfl
        simp only [List.setIfInBounds_toArray, List.set_cons_zero, List.set_cons_succ]
        refine takeT_to (i := 1) (v := ?_) 22 rfl rfl (by kernel_rfl) (by kernel_rfl) (by kernel_rfl) (by kernel_rfl) (fun _ _ _ h => h) (Or.inl ⟨by rfl, ?_⟩) hS ?_
        rotate_left
        · intro W hW
          obtain ⟨s0, s1, s2⟩ := HC.out W hW
          go_simp
          try with_reducible rfl
        simp only [List.setIfInBounds_toArray, List.set_cons_zero, List.set_cons_succ]
        refine takeT_to (i := 2) (v := ?_) 23 rfl rfl (by kernel_rfl) (by kernel_rfl) (by kernel_rfl) (by kernel_rfl) (fun _ _ _ h => h) (Or.inl ⟨by rfl, ?_⟩) hS ?_
        rotate_left
        · intro W hW
          obtain ⟨s0, s1, s2⟩ := HC.out W hW
          go_simp
          try with_reducible rfl
        simp only [List.setIfInBounds_toArray, List.set_cons_zero, List.set_cons_succ]
        refine takeT_to (i := 3) (v := ?_) 24 rfl rfl (by kernel_rfl) (by kernel_rfl) (by kernel_rfl) (by kernel_rfl) (fun _ _ _ h => h) (Or.inl ⟨by rfl, ?_⟩) hS ?_
        rotate_left
        · intro W hW
          obtain ⟨s0, s1, s2⟩ := HC.out W hW
          go_simp
          try with_reducible rfl
        simp only [List.setIfInBounds_toArray, List.set_cons_zero, List.set_cons_succ]
        refine takeT_to (i := 4) (v := ?_) 25 rfl rfl (by kernel_rfl) (by kernel_rfl) (by kernel_rfl) (by kernel_rfl) (fun _ _ _ h => h) (Or.inl ⟨by rfl, ?_⟩) hS ?_
        rotate_left
        · intro W hW
          obtain ⟨s0, s1, s2⟩ := HC.out W hW
          go_simp
          try with_reducible rfl
        simp only [List.setIfInBounds_toArray, List.set_cons_zero, List.set_cons_succ]
        refine takeT_to (i := 5) (v := ?_) 26 rfl rfl (by kernel_rfl) (by kernel_rfl) (by kernel_rfl) (by kernel_rfl) (fun _ _ _ h => h) (Or.inl ⟨by rfl, ?_⟩) hS ?_
        rotate_left
        · intro W hW
          obtain ⟨s0, s1, s2⟩ := HC.out W hW
          go_simp
          try with_reducible rfl
        simp only [List.setIfInBounds_toArray, List.set_cons_zero, List.set_cons_succ]
        refine wpAnyT_ready (rs := [6]) (by kernel_rfl) (by simp) ?_
        refine AllReadyT.cons rfl (fun K hK => ?_) AllReadyT.nil
        go_simp
        refine (at_any (HI.out _ hS) hp hN hg).mono ?_
        rintro e w3 ⟨rfl, rfl⟩
        refine hK.out _ _ (fun _ => hS) ?_
        clear hK K
        refine takeT_to (i := 7) (v := ?_) 28 rfl rfl (by kernel_rfl) (by kernel_rfl) (by kernel_rfl) (by kernel_rfl) (fun _ _ _ h => h) (Or.inl ⟨by rfl, ?_⟩) hS ?_
        rotate_left
        · intro W hW
          obtain ⟨s0, s1, s2⟩ := HC.out W hW
          go_simp
          try with_reducible rfl
        simp only [List.setIfInBounds_toArray, List.set_cons_zero, List.set_cons_succ]
        refine takeT_to (i := 8) (v := ?_) 29 rfl rfl (by kernel_rfl) (by kernel_rfl) (by kernel_rfl) (by kernel_rfl) (fun _ _ _ h => h) (Or.inl ⟨by rfl, ?_⟩) hS ?_
        rotate_left
        · intro W hW
          obtain ⟨s0, s1, s2⟩ := HC.out W hW
          go_simp
          try with_reducible rfl
        simp only [List.setIfInBounds_toArray, List.set_cons_zero, List.set_cons_succ]
        refine takeT_to (i := 9) (v := ?_) 30 rfl rfl (by kernel_rfl) (by kernel_rfl) (by kernel_rfl) (by kernel_rfl) (fun _ _ _ h => h) (Or.inl ⟨by rfl, ?_⟩) hS ?_
        rotate_left
        · intro W hW
          obtain ⟨s0, s1, s2⟩ := HC.out W hW
          go_simp
          try with_reducible rfl
        simp only [List.setIfInBounds_toArray, List.set_cons_zero, List.set_cons_succ]
        refine wpAnyT_ready (rs := [10]) (by kernel_rfl) (by simp) ?_
        refine AllReadyT.cons rfl (fun K hK => ?_) AllReadyT.nil
        go_simp
        refine (HSTEP.out _ hS).mono ?_
        rintro e w4 ⟨rfl, hJ4⟩
        refine hK.out _ _ (fun h => by cases h) ?_
        clear hK K
        refine wpAnyT_done (by kernel_rfl) ?_ _
        refine NoPanic.normal ?_
        go_wp2
        go_roundw
        case rel =>
          refine ⟨k + 1, by omega, ⟨_, rfl⟩, by go_num, ?_⟩
          rw [htk.out, says_snoc, hl]
          exact hJ4
        case measure => simp [intOf]; omega
    · obtain rfl : k = x.rn := by omega
      go_wp2_with fail
      go_end0
      rw [List.take_of_length_le (by have := hlen.out; omega)] at hj
      exact ⟨rfl, hj⟩
end
end Go.Proofs.Ytafnonmpanpfkaa
