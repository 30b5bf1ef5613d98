/- A place for an id that has no record: contract. -/
import Derived.Test.YtafnonmpanpfkaaArIns
namespace Go.Proofs.Ytafnonmpanpfkaa
open Go.RowKit
set_option maxRecDepth 100000
set_option linter.unusedVariables false

section
variable {x : Am} {w : World} {S : Nat → Prop} {p : Nat}
theorem flat_cons (x : Rf) (xs : List Rf) : ER.flat (x :: xs) = ER.cells x ++ ER.flat xs := by simp [Enc.flat]
theorem refs_set {w' : World} {g cap n j : Nat} {cur cur' : Array Value} {xs : List Rf} {r : Rf} (hg : w'.heap[g]? = some (.cells cur' 72 (0, 0))) (hl : xs.length = n) (hn : n ≤ cap) (hm : cap ≤ maxLen) (hs : cur.size = cap * 3) (hxs : ER.Ok xs) (hr : U r.id) (hj : j < n)
    (ht : cur.toList.take (n * 3) = ER.flat xs) (ho : cur'.toList = over cur.toList (j * 3) (rcells r).toList) : OwnG ER 72 w' 0 (some ⟨g, 0, none⟩) n cap (xs.set j r) := by
  have hjl : j < xs.length := by omega
  have e1 : xs = xs.take j ++ xs[j] :: xs.drop (j + 1) := by rw [List.getElem_cons_drop, List.take_append_drop]
  have e2 : xs.set j r = xs.take j ++ r :: xs.drop (j + 1) := by rw [List.set_eq_take_append_cons_drop, if_pos hjl]
  have hA : (ER.flat (xs.take j)).length = j * 3 := by rw [ER.flat_len, List.length_take, Nat.min_eq_left (by omega)]; rfl
  have f1 : ER.flat xs = ER.flat (xs.take j) ++ ER.cells xs[j] ++ ER.flat (xs.drop (j + 1)) := by
    conv => lhs; rw [e1]
    rw [ER.flat_append, flat_cons, List.append_assoc]
  have f2 : ER.flat (xs.set j r) = ER.flat (xs.take j) ++ ER.cells r ++ ER.flat (xs.drop (j + 1)) := by
    rw [e2, ER.flat_append, flat_cons, List.append_assoc]
  have hc : cur.toList = ER.flat (xs.take j) ++ ER.cells xs[j] ++ (ER.flat (xs.drop (j + 1)) ++ cur.toList.drop (n * 3)) := by
    rw [← List.append_assoc, ← f1, ← ht, List.take_append_drop]
  have h2 : cur'.toList = ER.flat (xs.set j r) ++ cur.toList.drop (n * 3) := by
    rw [ho]
    conv => lhs; arg 1; rw [hc]
    rw [over_mid (ER.flat (xs.take j)) (ER.cells xs[j]) _ (rcells r).toList _ hA rfl, f2]
    simp [ER, rcells]
  have hfl : (ER.flat (xs.set j r)).length = n * 3 := by rw [ER.flat_len, List.length_set, hl]; rfl
  have hsz : cur'.size = cap * 3 := by rw [← Array.length_toList, ho, over_len _ _ _ (by simp [rcells]; have : n * 3 ≤ cap * 3 := Nat.mul_le_mul_right _ hn; omega)]; simpa using hs
  refine OwnG.of_cells (Nat.zero_le _) hg hn hm hsz (by simp [hl]) (fun q hq => ?_) ?_
  · rcases List.mem_or_eq_of_mem_set hq with h | h
    · exact hxs q h
    · rw [h]; exact hr
  · rw [h2]
    exact List.take_left' hfl
theorem Am.In.putRef (h : x.In w S p) {rb j : Nat} (hra : x.ra = some ⟨rb, 0, none⟩) (hj : j < x.rn) (r : Rf) (hr : U r.id) : { x with rf := x.rf.set j r }.In (w.setCells rb (j * 3) (rcells r).toList) S p ∧ Tou S w (w.setCells rb (j * 3) (rcells r).toList) := by
  rcases h.rfs.cases with ⟨c, _⟩ | ⟨g, cur, c, _, hg, hn, hm, hs, ht⟩
  · rw [c] at hra; cases hra
  · obtain rfl : rb = g := by rw [c] at hra; simpa using hra.symm
    replace hs : cur.size = x.rc * 3 := hs
    replace ht : cur.toList.take (x.rn * 3) = ER.flat x.rf := ht
    have hk : w.grownBy (w.setCells rb (j * 3) (rcells r).toList) (some rb) := setCells_grown _ _ _
    have k : Far w (w.setCells rb (j * 3) (rcells r).toList) (some rb) 72 := ⟨hk, fun z hz => by obtain rfl := Option.some.inj hz; exact ⟨_, _, hg⟩⟩
    obtain ⟨cu, hg2, hl⟩ := setCells_block (g := rb) (e := 72) (f := (0, 0)) (rcells r).toList (j * 3) w cur hg (by simp [rcells]; omega)
    refine ⟨⟨(k.block h.box (by decide)).trans h.box, h.sls.far k (by decide), h.frs.far k (by decide), ?_, fun q g' hq => row_far (h.row q g' hq) k (by decide), h.one, fun q => (h.lets q).far k (by decide), h.sp, h.ss, h.sf, h.sr, h.sg, h.sx, fun b hb => Nat.lt_of_lt_of_le (h.lt b hb) hk.size⟩, Tou.grown hk (fun z hz => by obtain rfl := Option.some.inj hz; have := h.sr _ c; exact this)⟩
    have := refs_set (r := r) hg2 h.rfs.1 hn hm hs h.rfs.2.1 hr hj ht hl
    rw [← hra] at this
    exact this
set_option maxHeartbeats 4000000 in
theorem give_any (h : x.In w S p) {v : Int} {T : Tx} {N : Nat} (hi : Inv v (32 * x.sn) x.fr x.rf x.Sl T N) (hN : N ≤ 549755813888) (c : Int) (hc : U c) :
    Calls Try.prog 22 #[.pointer (some ⟨p, 0, none⟩), .int .u64 c] w fun e w' => ∃ (k : Nat) (z : Am), e = .returned (.int .i64 k) ∧ z.In w' (gr S w w') p ∧ Tou S w w' ∧ z.v = x.v ∧ z.Sl = x.Sl ∧ Inv v (32 * z.sn) (z.fr ++ [k]) x.rf x.Sl T (N + 1) ∧
      z.rf.Pairwise (fun r r' => r.id < r'.id) ∧ (∀ r', r' ∈ z.rf ↔ r' = ⟨c, k, (x.Sl k).g⟩ ∨ (r' ∈ x.rf ∧ r'.id ≠ c)) ∧ z.rf.length ≤ x.rf.length + 1 := by
  go_enter Try.func22, Try.ntmps22
  go_wp2_with fail
  refine (take_any h hi (by omega)).mono ?_
  rintro e w1 ⟨k, y, rfl, hy, t1, e1, e2, e3, i1⟩
  have hk : k < 32 * y.sn := (i1.fre k (by simp)).1
  have hsn : y.sn ≤ 1099511627776 := by have := i1.bnd.2.1; omega
  have hrn : y.rf.length = y.rn := hy.rfs.1
  have hb1 : y.rn ≤ 1099511627776 := by have := i1.bnd.1; omega
  obtain ⟨b, g, hb, hg, c1, c2, c3, fz⟩ := hy.slot hk
  rw [e3] at c2
  obtain ⟨G, hG⟩ : ∃ G, G = (x.Sl k).g := ⟨_, rfl⟩
  rw [← hG] at c2
  have HG : Hid (G = (x.Sl k).g) := hG
  have HR : Hid (y.rf.length = y.rn) := hrn
  have HE : Hid (y.v = x.v ∧ y.rf = x.rf ∧ y.Sl = x.Sl) := ⟨e1, e2, e3⟩
  clear hG hrn e1 e2 e3
  go_wp2_with fail
  refine (at_any hy hk hsn hg).mono ?_
  rintro e w2 ⟨rfl, rfl⟩
  go_wp2_with fail
  obtain ⟨W, hW⟩ : ∃ W, W = w2.alloc (.cells #[.int .u64 c, .int .i64 k, .int .u64 G] 72) := ⟨_, rfl⟩
  obtain ⟨B, hB⟩ : ∃ B, B = w2.heap.size := ⟨_, rfl⟩
  have bW : Below w2.heap.size w2 W := by rw [hW]; exact below_alloc _ _
  have hblk : W.heap[B]? = some (.cells #[.int .u64 c, .int .i64 k, .int .u64 G] 72 (0, 0)) := by rw [hW, hB]; exact heap_alloc_new _ _
  rw [← hW, ← hB]
  have hyW := hy.below bW
  have HW : Hid (W = _) := hW
  have HB : Hid (B = w2.heap.size) := hB
  clear hW hB
  refine (seek_any hyW i1.up (by omega) c).mono ?_
  rintro e w3 ⟨j, q, rfl, hj, hlo, hhi, hq, b3⟩
  have hy3 := hyW.below b3
  have hblk3 : w3.heap[B]? = some (.cells #[.int .u64 c, .int .i64 k, .int .u64 G] 72 (0, 0)) := (b3.block B (Array.getElem?_eq_some_iff.1 hblk).1).trans hblk
  have d0 := (cell_fz hblk3 0 _ rfl).1
  have d1 := (cell_fz hblk3 1 _ rfl).1
  have d2 := (cell_fz hblk3 2 _ rfl).1
  have c3' := hy3.c3
  cases q with
  | true =>
    obtain ⟨r0, hr0, hid⟩ := hq.1 rfl
    have hjl : j < y.rf.length := (List.getElem?_eq_some_iff.1 hr0).1
    have hjn : j < y.rn := by have := HR.out; omega
    have hjn' : (j : Int) < (y.rn : Int) := by omega
    rcases hy3.rfs.cases with ⟨_, h0, _⟩ | ⟨rb, cur, hrb, _, hrg, hcn, hcm, hcs, htk⟩
    · omega
    rw [hrb] at c3'
    have hcap := hy3.rfs.row.cap_le
    have hro := hy3.rfs.row
    rw [hrb] at hro
    obtain ⟨f0, f1, f2⟩ := hro.ref hr0
    simp only [Nat.zero_add] at f0 f1 f2
    have z0 : ∀ i, w3.frozen? ⟨rb, i, none⟩ = false := fun i => by simp [World.frozen?, hrg]
    have z1 := z0 (j * 3)
    have z2 := z0 (j * 3 + 1)
    have z3 := z0 (j * 3 + 2)
    have HRO : Hid (y.rf[j]? = some r0) := hr0
    have HID : Hid (r0.id = c) := hid
    clear hr0 hid hq hlo hhi
    go_wp2_with fail
    go_region
    go_wp2
    go_ret
    obtain ⟨hz, t4⟩ := hy3.putRef hrb hjn ⟨c, k, G⟩ hc
    have t5 : Tou S w ((w3.setCells rb (j * 3) (rcells ⟨c, k, G⟩).toList).drew) := ((t1.go ((Tou.of_below (ext_trans bW b3) _).more t4))).more (Tou.of_below (bel_drawn _ 1) S)
    have hb4 := (b3.size)
    have hb5 := (bW.size)
    have hs5 : (w3.setCells rb (j * 3) (rcells ⟨c, k, G⟩).toList).heap.size = w3.heap.size := by simp [rcells, World.setCells, World.setCell]
    obtain ⟨s1, s2, s3⟩ := set_ok i1.up HRO.out (r := ⟨c, k, G⟩) HID.out
    refine ⟨k, { y with rf := y.rf.set j ⟨c, k, G⟩ }, rfl, (hz.below (bel_drawn _ 1)).more (fun b hb => hb.imp id (fun hb => ⟨hb.1, ?_⟩)) (fun b hb => hb.elim (fun hb => Nat.lt_of_lt_of_le (h.lt b hb) t5.size) And.right), t5, HE.out.1, HE.out.2.2, ?_, s1, ?_, ?_⟩
    · show b < ((w3.setCells rb (j * 3) (rcells ⟨c, k, G⟩).toList)).heap.size
      omega
    · show Inv v (32 * y.sn) (y.fr ++ [k]) x.rf x.Sl T (N + 1)
      rw [← HE.out.2.1, ← HE.out.2.2]
      exact i1
    · rw [← HG.out, ← HE.out.2.1]
      exact s2
    · rw [← HE.out.2.1]
      exact s3
  | false =>
    have hno : ¬ ∃ r', y.rf[j]? = some r' ∧ r'.id = c := fun hc => by have := hq.2 hc; cases this
    obtain ⟨s1, s2, s3⟩ := ins_ok i1.up (r := ⟨c, k, G⟩) hlo hhi hno
    obtain ⟨zs, hzs⟩ : ∃ zs, zs = y.rf.take j ++ [(⟨c, k, G⟩ : Rf)] ++ y.rf.drop j := ⟨_, rfl⟩
    rw [← hzs] at s1 s2 s3
    have HS : Hid (zs.Pairwise (fun r r' => r.id < r'.id) ∧ (∀ r', r' ∈ zs ↔ r' = ⟨c, k, G⟩ ∨ (r' ∈ y.rf ∧ r'.id ≠ c)) ∧ zs.length ≤ y.rf.length + 1) := ⟨s1, s2, s3⟩
    have HZ : Hid (zs = y.rf.take j ++ [(⟨c, k, G⟩ : Rf)] ++ y.rf.drop j) := hzs
    clear hno hq hlo hhi s1 s2 s3 hzs
    obtain ⟨W4, hW4⟩ : ∃ W4, W4 = ((w3.alloc (.cells #[.int .u64 c, .int .i64 k, .int .u64 G] 72)).drew) := ⟨_, rfl⟩
    have b4 : Below w3.heap.size w3 W4 := by rw [hW4]; exact (below_alloc _ _).drew
    have hy4 := hy3.below b4
    have hv4 : W4.heap[w3.heap.size]? = some (.cells (rcells ⟨c, k, G⟩) 72 (0, 0)) := by rw [hW4]; exact heap_alloc_new _ _
    have hcall := insert_any hy4.rfs (r := ⟨c, k, G⟩) hv4 hc hb1 (fun q hq => by have := hy3.lt _ (hy3.sr q hq); omega) hj
    rw [← HZ.out] at hcall
    have s4 : w2.heap.size ≤ W4.heap.size := Nat.le_trans bW.size (Nat.le_trans b3.size b4.size)
    have t4 : Tou S w W4 := t1.more (Tou.of_below (ext_trans (ext_trans bW b3) b4) S)
    have hm : Hid (∀ w5, W4.grownBy w5 (Value.slice y.ra y.rn y.rc).ownBlock → w5.cell? ⟨p, 3, none⟩ = some (.slice y.ra y.rn y.rc) ∧ w5.frozen? ⟨p, 3, none⟩ = false) := fun w5 h5 => cell_fz ((Far.block ⟨h5, hy4.rfs.ty⟩ hy4.box (by decide)).trans hy4.box) 3 _ rfl
    rw [hW4] at hcall
    have HW4 : Hid (W4 = _) := hW4
    clear hW4 hv4
    have hpl : p < w3.heap.size := lt_of_cell c3'
    have hpn : p ≠ w3.heap.size := by omega
    have hpa : (w3.alloc (.cells #[.int .u64 c, .int .i64 k, .int .u64 G] 72)).cell? ⟨p, 3, none⟩ = some (.slice y.ra y.rn y.rc) := (below_alloc _ _).cell hpl |>.trans c3'
    go_wp2_with fail
    go_region_with (go_at_call 41; refine hcall.mono ?_; rintro e w5 ⟨a', c', rfl, ho, hg5, hat⟩; rw [← HW4.out] at hg5 hat; obtain ⟨f1, f2⟩ := hm.out w5 hg5)
    all_goals
      go_wp2
      go_ret
      have hz := hy4.setRefs hg5 ho hat
      have hs5 := hg5.size
      have t5 : Tou S w (w5.setCell ⟨p, 3, none⟩ (.slice a' (y.rn + 1) c')) := t4.trans ((Tou.grown hg5 (own_in hy4.rfs hy4.sr)).more (Tou.set _ _ ⟨p, 3, none⟩ _ hy4.sp)) (fun _ hx => hx.imp id And.left)
      obtain ⟨s1, s2, s3⟩ := HS.out
      refine ⟨k, { y with ra := a', rn := y.rn + 1, rc := c', rf := zs }, rfl, hz.more (fun q hq => ?_) (fun q hq => hq.elim (fun hq => Nat.lt_of_lt_of_le (h.lt q hq) t5.size) And.right), t5, HE.out.1, HE.out.2.2, ?_, s1, ?_, ?_⟩
      · have e5 : (w5.setCell ⟨p, 3, none⟩ (.slice a' (y.rn + 1) c')).heap.size = w5.heap.size := by simp [World.setCell]
        have hb5 := bW.size
        exact gr_to hq (by have := t1.size; omega) (by omega) (by omega)
      · show Inv v (32 * y.sn) (y.fr ++ [k]) x.rf x.Sl T (N + 1)
        rw [← HE.out.2.1, ← HE.out.2.2]
        exact i1
      · rw [← HG.out, ← HE.out.2.1]
        exact s2
      · rw [← HE.out.2.1]
        exact s3
end
end Go.Proofs.Ytafnonmpanpfkaa
