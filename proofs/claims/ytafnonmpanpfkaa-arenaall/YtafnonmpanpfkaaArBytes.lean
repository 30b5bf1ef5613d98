/- All bytes of an arena: contract of Bytes. (Written by tools/drafts/arena/mkarbytes.py.) -/
import Derived.Test.YtafnonmpanpfkaaArIDs
import Derived.Test.YtafnonmpanpfkaaNumBytes
namespace Go.Proofs.Ytafnonmpanpfkaa
open Go.RowKit
set_option maxRecDepth 100000
set_option linter.unusedVariables false

/-- What Bytes answers. -/
def encA (l : List (Int × List Int)) : List Int := l.flatMap fun q => putB q.1 8 ++ putB q.2.length 2 ++ q.2
theorem encA_snoc (l : List (Int × List Int)) (i : Int) (xs : List Int) : encA (l ++ [(i, xs)]) = encA l ++ (putB i 8 ++ putB xs.length 2 ++ xs) := by simp [encA]
theorem encA_len {l : List (Int × List Int)} (h : ∀ q ∈ l, q.2.length ≤ 65535) : (encA l).length ≤ 65545 * l.length := by
  induction l with
  | nil => simp [encA]
  | cons q l ih =>
    have h1 := h q (by simp)
    have h2 := ih fun q hq => h q (by simp [hq])
    have e : (encA (q :: l)).length = 10 + q.2.length + (encA l).length := by simp [encA, putB_len]; omega
    rw [e, List.length_cons]
    omega
section
variable {w w' : World} {S : Nat → Prop} {p : Nat}
/-- Where Bytes stands behind some records. -/
def JB (w : World) (l : List (Int × List Int)) (W : World) : Prop := ∃ so m cap, W.heap[w.heap.size]? = some (.cells #[.slice so m cap] 32 (0, 0)) ∧ OwnG EB 5 W w.heap.size so m cap (encA l) ∧ Below w.heap.size w W
theorem JB.below {W W' : World} {l : List (Int × List Int)} (h : JB w l W) (hb : Below W.heap.size W W') : JB w l W' := by
  obtain ⟨so, m, cap, h1, h2, h3⟩ := h
  exact ⟨so, m, cap, (hb.block _ (Array.getElem?_eq_some_iff.1 h1).1).trans h1, h2.below hb, h3.trans (hb.mono h3.size)⟩
set_option maxHeartbeats 2000000 in
theorem bytes_step (l : List (Int × List Int)) (i : Int) (xs : List Int) (a : Option Addr) (n c : Nat) (W : World) (hl : l.length ≤ 34359738) (hql : ∀ q ∈ l, q.2.length ≤ 65535) (hi : U i) (hrow : ∀ V, Below w.heap.size w V → Row V a n c xs) (hn : n ≤ 65535) (h : JB w l W) :
    Calls Try.prog 35 #[.int .u64 i, .slice a n c, .pointer (some ⟨w.heap.size, 0, none⟩)] W fun e W' => e = .returned (.tuple #[]) ∧ JB w (l ++ [(i, xs)]) W' := by
  obtain ⟨so, m, cap, h1, h2, h3⟩ := h
  have HROW : Hid (∀ V, Below w.heap.size w V → Row V a n c xs) := hrow
  have hxn : xs.length = n := (hrow W h3).len
  have hm : m = (encA l).length := h2.1.symm
  have HBD : Hid (m + (0 + wid 8 + 2 + n) ≤ 140737488355328 ∧ (m + (0 + wid 8 + 2 + n)) * 1 ≤ 140737488355328) := by
    show _ ∧ _
    have := encA_len hql
    have : wid 8 = 8 := rfl
    omega
  have HM : Hid (m = (encA l).length ∧ xs.length = n) := ⟨hm, hxn⟩
  clear hm hxn hrow
  go_enter Try.func35, Try.ntmps35
  go_wp2_with fail
  refine wp_region_noPanic ?_
  refine wp_region_T (S := fun V => Below w.heap.size w V ∧ V.heap[w.heap.size]? = some (.cells #[.slice so m cap] 32 (0, 0))) (by kernel_rfl) ⟨h3.drew, h1⟩ fun hS => ?_
  refine takeT_to (i := 0) (v := ?_) 5 rfl rfl (by kernel_rfl) (by kernel_rfl) (by kernel_rfl) (by kernel_rfl) (fun _ _ _ h => h) (Or.inl ⟨by rfl, ?_⟩) hS ?_
  rotate_left
  · intro W hW
    have s0 := (cell_fz hW.2 0 _ rfl).1
    go_simp
    try with_reducible rfl
  simp only [List.setIfInBounds_toArray, List.set_cons_zero, List.set_cons_succ]
  refine takeT_to (i := 1) (v := ?_) 6 rfl rfl (by kernel_rfl) (by kernel_rfl) (by kernel_rfl) (by kernel_rfl) (fun _ _ _ h => h) (Or.inl ⟨by rfl, ?_⟩) hS ?_
  rotate_left
  · intro W hW
    have s0 := (cell_fz hW.2 0 _ rfl).1
    go_simp
    try with_reducible rfl
  simp only [List.setIfInBounds_toArray, List.set_cons_zero, List.set_cons_succ]
  refine takeT_to (i := 3) (v := ?_) 8 rfl rfl (by kernel_rfl) (by kernel_rfl) (by kernel_rfl) (by kernel_rfl) (fun _ _ _ h => h) (Or.inl ⟨by rfl, ?_⟩) hS ?_
  rotate_left
  · intro W hW
    have s0 := (cell_fz hW.2 0 _ rfl).1
    go_simp
    try with_reducible rfl
  simp only [List.setIfInBounds_toArray, List.set_cons_zero, List.set_cons_succ]
  refine wpAnyT_ready (rs := [2]) (by kernel_rfl) (by simp) ?_
  refine AllReadyT.cons rfl (fun K hK => ?_) AllReadyT.nil
  go_simp
  refine (put_any none 0 0 i 8 [] _ (Row.nil _) (by omega)).mono ?_
  rintro e w2 ⟨g2, d2, rfl, p2, b2⟩
  have h2S := hS.imp (fun h => h.trans (b2.mono h.size)) (fun h => (b2.block _ (Array.getElem?_eq_some_iff.1 h).1).trans h)
  refine hK.out _ _ (fun _ => h2S) ?_
  clear hK K
  refine wpAnyT_ready (rs := [4]) (by kernel_rfl) (by simp) ?_
  refine AllReadyT.cons rfl (fun K hK => ?_) AllReadyT.nil
  go_simp
  refine (putBytes_any _ _ _ _ a n c xs _ p2.row (HROW.out _ h2S.1) (by unfold wid; simp) hn).mono ?_
  rintro e w3 ⟨g3, d3, rfl, p3, b3⟩
  have h3S := h2S.imp (fun h => h.trans (b3.mono h.size)) (fun h => (b3.block _ (Array.getElem?_eq_some_iff.1 h).1).trans h)
  refine hK.out _ _ (fun _ => h3S) ?_
  clear hK K
  refine wpAnyT_ready (rs := [5]) (by kernel_rfl) (by simp) ?_
  refine AllReadyT.cons rfl (fun K hK => ?_) AllReadyT.nil
  have o3 := (h2.below (show Below W.heap.size W w2 from ext_trans (ext_drew W) b2)).below b3
  rw [if_pos (by rfl)]
  refine op_append_h _ (.tmp 5) (.tmp 9) 32 rfl 5 Try.underlying32 _ _ infoEB rfl w.heap.size m cap so (encA l) rfl o3 _ _ _ _ rfl p3.row.g ?_ h3S.1.size ?_
  · exact HBD.out
  intro so' cap' w4 ow g4 a4
  have hblk4 := (Far.block ⟨g4, o3.ty⟩ h3S.2 (by decide)).trans h3S.2
  have h4S := And.intro (grown_below h3S.1 h3S.1.size o3 g4) hblk4
  obtain ⟨q1, q2⟩ := cell_fz hblk4 0 _ rfl
  refine hK.out _ _ (fun _ => h4S) ?_
  clear hK K
  refine wpAnyT_ready (rs := [6]) (by kernel_rfl) (by simp) ?_
  refine AllReadyT.cons rfl (fun K hK => ?_) AllReadyT.nil
  go_simp
  refine hK.out _ _ (fun h => by cases h) ?_
  clear hK K
  refine wpAnyT_done (by kernel_rfl) ?_ _
  refine NoPanic.normal ?_
  go_wp2
  go_end0
  refine ⟨rfl, so', _, cap', set_block hblk4, ?_, h4S.1.setCell (Nat.le_refl _) _⟩
  have e : encA (l ++ [(i, xs)]) = encA l ++ ([] ++ putB i (wid 8) ++ putB (n : Int) 2 ++ xs) := by rw [encA_snoc, HM.out.2]; rfl
  rw [e]
  exact ow.far (Far.set (w := w4) ⟨w.heap.size, 0, none⟩ _ hblk4) (by decide)
set_option maxHeartbeats 1000000 in
theorem arbytes_any {v : Int} {T : Tx} {N : Nat} (h : Ar w S p v T N) (hN : N ≤ 34359738) {ls : List (Int × List Int)} (hl : Lst T ls) :
    Calls Try.prog 20 #[.pointer (some ⟨p, 0, none⟩)] w fun e w' => ∃ a m cap, e = .returned (.slice a m cap) ∧ Row w' a m cap (encA ls) ∧ Below w.heap.size w w' := by
  obtain ⟨x, h, hv, hi⟩ := h
  have hls : says x.Sl x.rf = ls := hi.lst.eq hl
  have hb0 := below_alloc w (.cells #[.slice none 0 0] 32)
  have h1 := h.below hb0
  have hbd : ls.length ≤ 34359738 := by rw [← hls]; have := says_len x.Sl x.rf; have := hi.bnd.1; omega
  have hrec : ∀ q ∈ ls, q.2.length ≤ 65535 := fun q hq => (hi.good q.1 q.2 ((hl.mem _ _).1 hq)).2
  have hst : ∀ (l r : List (Int × List Int)) (i : Int) (xs : List Int) (a : Option Addr) (n cap : Nat) (W : World), says x.Sl x.rf = l ++ (i, xs) :: r → JB w l W → Row W a n cap xs → (∀ y, a = some y → S y.block) → U i →
      Calls Try.prog 35 #[.int .u64 i, .slice a n cap, .pointer (some ⟨w.heap.size, 0, none⟩)] W fun e W' => e = .returned (.tuple #[]) ∧ JB w (l ++ [(i, xs)]) W' := fun l r i xs a n cap W hs hJ hr ha hU => by
    rw [hls] at hs
    have hlen : ls.length = l.length + (r.length + 1) := by rw [hs]; simp
    have hx : xs.length ≤ 65535 := hrec (i, xs) (by rw [hs]; simp)
    have hrl := hr.len
    have hbW := hJ.choose_spec.choose_spec.choose_spec.2.2
    refine bytes_step l i xs a n cap W (by omega) (fun q hq => hrec q (by rw [hs]; simp [hq])) hU (fun V hV => ?_) (by omega) hJ
    -- the record lies in a block of the arena
    obtain ⟨h1, h2, h3, h4, h5, h6, h7⟩ := hr
    refine ⟨h1, h2, h3, h4, h5, h6, fun y hy j hj => ?_⟩
    have hc := h7 y hy j hj
    have hlt : (y.add j).block < w.heap.size := by
      have := h.lt _ (ha y hy)
      by_cases h0 : j = 0 <;> simpa [Addr.add, h0] using this
    rw [← hc, hV.cell hlt, hbW.cell hlt]
  go_enter Try.func20, Try.ntmps20
  go_wp2_with fail
  refine (each_any h1 hi (by omega) 35 (some ⟨w.heap.size, 0, none⟩) (enters_of Try.func35 (by kernel_rfl) rfl) (JB w) (fun l W hJ => h.below hJ.choose_spec.choose_spec.choose_spec.2.2) (fun l W W' hJ hb => hJ.below hb) ⟨none, 0, 0, heap_alloc_new _ _, OwnG.of_nil _ _ _ _, hb0⟩ hst).mono ?_
  rintro e w1 ⟨rfl, hJ⟩
  rw [hls] at hJ
  obtain ⟨so, m, cap, q1, q2, q3⟩ := hJ
  obtain ⟨c1, f1⟩ := cell_fz q1 0 _ rfl
  go_wp2_with fail
  go_ret
  exact ⟨so, m, cap, rfl, q2.row.b, q3⟩
theorem arbytes_nil (w : World) : Calls Try.prog 20 #[.pointer none] w fun e w' => e = .returned (.slice none 0 0) ∧ Below w.heap.size w w' := by
  have hb0 := below_alloc w (.cells #[.slice none 0 0] 32)
  obtain ⟨c1, f1⟩ := cell_fz (heap_alloc_new w (.cells #[.slice none 0 0] 32)) 0 _ rfl
  go_enter Try.func20, Try.ntmps20
  go_wp2_with fail
  refine (each_nil _ _).mono ?_
  rintro e w1 ⟨rfl, rfl⟩
  go_wp2_with fail
  go_ret
  exact ⟨rfl, hb0⟩
end
end Go.Proofs.Ytafnonmpanpfkaa
