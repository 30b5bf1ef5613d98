/- The stale refs are left out: slices.IndexFunc, slices.DeleteFunc with the method's value, sweep: contracts. -/
import Derived.Test.YtafnonmpanpfkaaArPut
namespace Go.Proofs.Ytafnonmpanpfkaa
open Go.RowKit
set_option maxRecDepth 100000
set_option linter.unusedVariables false

theorem run_clear_k {P : Program} (w : World) (t elem ty : TypeId) (z : Value) (hu : P.underlying t = some (.slice elem)) (hz : (zeroValue elem).run P w = .ok z w) (b o n c : Nat) (cs : List Value) (hcs : (Builtin.zeroCells z.cells n).toList = cs) (hn : 0 < n)
    (hc : ∀ j, j < cs.length → (w.cell? ⟨b, o + j, none⟩).isSome = true) (hf : ∀ j, j < cs.length → w.frozen? ⟨b, o + j, none⟩ = false) (h1 : ∀ v ∈ cs, v.oneCell' = true) :
    (Builtin.clear_ #[t] ty #[.slice (some ⟨b, o, none⟩) n c]).run P w = .ok (.tuple #[]) (w.setCells b o cs) := by
  have hst := run_storeCells_cells (P := P) b o cs 0 w (by simpa using hc) (by simpa using hf) h1
  obtain ⟨m, rfl⟩ : ∃ m, n = m + 1 := ⟨n - 1, by omega⟩
  simp [Builtin.clear_, run_underlying hu, hz, hcs, hst]
theorem grownBy_of {w w' : World} (b : Below w.heap.size w w') (r : Option Nat) : w.grownBy w' r := ⟨b.os, b.tape, b.output, b.size, fun k hk _ => b.block k hk⟩
theorem OwnG.past {w : World} {g n cap i : Nat} {xs : List Rf} (h : OwnG ER 72 w 0 (some ⟨g, 0, none⟩) n cap xs) (hi : i ≤ n) (cs : List Value) (hl : cs.length = (n - i) * 3) : OwnG ER 72 (w.setCells g (i * 3) cs) 0 (some ⟨g, 0, none⟩) i cap (xs.take i) := by
  rcases h.cases with ⟨c, _⟩ | ⟨b, cur, hb, _, hg, hn, hm, hs, ht⟩
  · cases c
  obtain rfl : g = b := by simpa using hb
  replace hs : cur.size = cap * 3 := hs
  replace ht : cur.toList.take (n * 3) = ER.flat xs := ht
  have hlen := h.1
  have e3 : i * 3 + (n - i) * 3 = n * 3 := by omega
  have hnc : n * 3 ≤ cap * 3 := Nat.mul_le_mul_right _ hn
  obtain ⟨cu, hg2, hl2⟩ := setCells_block (g := g) (e := 72) (f := (0, 0)) cs (i * 3) w cur hg (by omega)
  refine OwnG.of_cells (Nat.zero_le _) hg2 (by omega) hm ?_ (by simp; omega) (h.2.1.take i) ?_
  · show cu.size = cap * 3
    rw [← Array.length_toList, hl2, over_len _ _ _ (by simp; omega)]
    simpa using hs
  · show cu.toList.take (i * 3) = ER.flat (xs.take i)
    rw [hl2]
    unfold over
    rw [List.append_assoc, List.take_append_of_le_length (by simp; omega), List.take_take, Nat.min_self]
    have : (ER.flat xs).take (i * 3) = ER.flat (xs.take i) := ER.flat_take xs i
    rw [← this, ← ht, List.take_take, Nat.min_eq_left (by omega)]
section
variable {x : Am} {w w' : World} {S : Nat → Prop} {p : Nat}
set_option maxHeartbeats 1000000 in
theorem idx_any (h : x.In w S p) (hN : x.sn ≤ 1099511627776) (hpl : ∀ r ∈ x.rf, r.pl < 32 * x.sn) (hrn : x.rn ≤ 1099511627776) :
    Calls Try.prog 52 #[.slice x.ra x.rn x.rc, .func (.func 39) #[.pointer (some ⟨p, 0, none⟩)] #[]] w fun e w' => ∃ k, k ≤ x.rn ∧ (∀ i r, i < k → x.rf[i]? = some r → live x.Sl r = true) ∧ Below w.heap.size w w' ∧
      ((k = x.rn ∧ e = .returned (.int .i64 (-1))) ∨ (k < x.rn ∧ e = .returned (.int .i64 k) ∧ ∃ r, x.rf[k]? = some r ∧ live x.Sl r = false)) := by
  have hcap := h.rfs.row.cap_le
  have hlen : Hid (x.rf.length = x.rn) := h.rfs.1
  go_enter Try.func52, Try.ntmps52
  go_wp2_with fail
  go_loopw [5, 8] (fun s5 s8 wr => ∃ k, k ≤ x.rn ∧ (∃ z : Value, s5 = z) ∧ s8 = .int .i64 k ∧ (∀ i r, i < k → x.rf[i]? = some r → live x.Sl r = true) ∧ Below w.heap.size w wr) (fun _ s8 _ => x.rn - (intOf s8).toNat)
  case atStart => exact ⟨0, by omega, ⟨_, rfl⟩, rfl, fun i r hi => by omega, Below.refl _ _⟩
  case round =>
    obtain ⟨k, hk, ⟨z, rfl⟩, rfl, hlive, hbel⟩ := hrel
    by_cases hlt : k < x.rn
    · have h1 : (k : Int) < (x.rn : Int) := by omega
      have hr := h.below hbel
      obtain ⟨b, off, hra, _⟩ := hr.rfs.row.at (by omega)
      have hro := hr.rfs.row
      rw [hra] at hro
      obtain ⟨R, hX⟩ := hro.get k hlt
      obtain ⟨c1, c2, c3⟩ := hro.ref hX
      have hp := hpl R (List.mem_of_getElem? hX)
      have HX : Hid (x.rf[k]? = some R) := hX
      have HRA : Hid (x.ra = some ⟨b, off, none⟩) := hra
      rw [hra]
      clear hX hra
      go_wp2_with fail
      refine (isStale_any hr hN hp).mono ?_
      rintro e w1 ⟨rfl, b1⟩
      cases hl : live x.Sl R with
      | true =>
        go_wp2
        go_roundw
        case rel =>
          refine ⟨k + 1, by omega, ⟨_, rfl⟩, by go_num, fun i r hi hr => ?_, ext_trans hbel b1⟩
          by_cases e : i = k
          · subst e
            have := HX.out
            rw [hr] at this
            obtain rfl := Option.some.inj this
            exact hl
          · exact hlive i r (by omega) hr
        case measure => simp [intOf]; omega
      | false =>
        go_wp2
        go_ret
        exact ⟨k, hk, hlive, ext_trans hbel b1, .inr ⟨hlt, rfl, R, HX.out, hl⟩⟩
    · obtain rfl : k = x.rn := by omega
      go_wp2_with fail
      go_ret
      exact ⟨x.rn, Nat.le_refl _, hlive, hbel, .inl ⟨rfl, rfl⟩⟩
def zref : Value := .agg #[.int .u64 0, .int .i64 0, .int .u64 0]
theorem zeroRef (w : World) : (zeroValue 72).run Try.prog w = .ok zref w := by
  obtain ⟨i, hi, h1, _⟩ := info_parts infoER
  simp [zeroValue, typeInfo, hi, h1, zref]
theorem zcs_one (m : Nat) : ∀ v ∈ (Builtin.zeroCells zref.cells m).toList, v.oneCell' = true := by
  intro v hv
  have e : zref.cells.size = 3 := rfl
  simp only [Builtin.zeroCells, e, Array.toList_map, List.mem_map] at hv
  obtain ⟨i, _, rfl⟩ := hv
  have h3 : i % 3 < 3 := Nat.mod_lt _ (by decide)
  generalize i % 3 = k at h3
  match k, h3 with
  | 0, _ => rfl
  | 1, _ => rfl
  | 2, _ => rfl
set_option maxHeartbeats 4000000 in
theorem del_any (h : x.In w S p) (hN : x.sn ≤ 1099511627776) (hpl : ∀ r ∈ x.rf, r.pl < 32 * x.sn) (hrn : x.rn ≤ 1099511627776) :
    Calls Try.prog 42 #[.slice x.ra x.rn x.rc, .func (.func 39) #[.pointer (some ⟨p, 0, none⟩)] #[]] w fun e w' => ∃ m, e = .returned (.slice x.ra m x.rc) ∧
      OwnG ER 72 w' 0 x.ra m x.rc (x.rf.filter (live x.Sl)) ∧ w.grownBy w' (Value.slice x.ra x.rn x.rc).ownBlock := by
  have hcap := h.rfs.row.cap_le
  have hlen : Hid (x.rf.length = x.rn) := h.rfs.1
  go_enter Try.func42, Try.ntmps42
  go_wp2_with fail
  refine (idx_any h hN hpl hrn).mono ?_
  rintro e w1 ⟨k, hk, hlive, b1, (⟨rfl, rfl⟩ | ⟨hkn, rfl, R, hR, hst⟩)⟩
  · go_wp2_with fail
    go_ret
    refine ⟨x.rn, rfl, ?_, grownBy_of b1 _⟩
    rw [List.filter_eq_self.2 (fun r hr => by
      obtain ⟨i, hi, rfl⟩ := List.getElem_of_mem hr
      exact hlive i _ (by have := hlen.out; omega) (List.getElem?_eq_getElem hi))]
    exact (h.below b1).rfs
  · have hneg : ((k : Int) == -1) = false := beq_eq_false_iff_ne.2 (by omega)
    have h1 := h.below b1
    rcases h.rfs.cases with ⟨_, h0, _⟩ | ⟨rb, cur0, hrb, _⟩
    · omega
    have HRB : Hid (x.ra = some ⟨rb, 0, none⟩) := hrb
    have hP0 : Hid ((x.rf.take (k + 1)).filter (live x.Sl) = x.rf.take k) := by
      show _ = _
      have hkl : k < x.rf.length := by have := hlen.out; omega
      have e1 : x.rf.take (k + 1) = x.rf.take k ++ [R] := by
        rw [List.take_add_one, hR]; rfl
      rw [e1, List.filter_append, List.filter_eq_self.2 (fun r hr => by
        obtain ⟨i, hi, rfl⟩ := List.getElem_of_mem hr
        have hi2 : i < k := by simp at hi; omega
        refine hlive i _ hi2 ?_
        rw [List.getElem_take]
        exact List.getElem?_eq_getElem _)]
      simp [hst]
    rw [hrb]
    clear hR hst hlive
    go_wp2_with fail
    go_loopw [5, 6, 7] (fun s5 s6 s7 wr => ∃ (i j : Nat) (ys : List Rf), i < j ∧ j ≤ x.rn ∧ s5 = .int .i64 i ∧ s6 = .int .i64 j ∧ (∃ z : Value, s7 = z) ∧ { x with rf := ys }.In wr S p ∧ ys.take i = (x.rf.take j).filter (live x.Sl) ∧ ys.drop j = x.rf.drop j ∧ w.grownBy wr (some rb)) (fun _ s6 _ _ => x.rn - (intOf s6).toNat)
    case atStart => exact ⟨k, k + 1, x.rf, by omega, by omega, rfl, by go_num, ⟨_, rfl⟩, h1, hP0.out.symm, rfl, grownBy_of b1 _⟩
    case round =>
      obtain ⟨i, j, ys, hij, hj, rfl, rfl, ⟨z, rfl⟩, hy, hT, hD, hg⟩ := hrel
      have hyl : ys.length = x.rn := hy.rfs.1
      have HT : Hid (ys.take i = (x.rf.take j).filter (live x.Sl)) := hT
      have HD : Hid (ys.drop j = x.rf.drop j) := hD
      have HY : Hid (ys.length = x.rn) := hyl
      clear hT hD hyl
      by_cases hlt : j < x.rn
      · have hj1 : (j : Int) < (x.rn : Int) := by omega
        have hi1 : (i : Int) < (x.rn : Int) := by omega
        obtain ⟨r, hr⟩ : ∃ r, x.rf[j]? = some r := ⟨x.rf[j]'(by have := hlen.out; omega), List.getElem?_eq_getElem _⟩
        have hyr : ys[j]? = some r := by
          have : (ys.drop j)[0]? = (x.rf.drop j)[0]? := by rw [HD.out]
          simpa [hr] using this
        have hp := hpl r (List.mem_of_getElem? hr)
        have hU : U r.id := h.rfs.2.1 r (List.mem_of_getElem? hr)
        have hro := hy.rfs.row
        replace hro : RowG ER wr x.ra x.rn x.rc ys := hro
        rw [HRB.out] at hro
        obtain ⟨c1, c2, c3⟩ := hro.ref hyr
        simp only [Nat.zero_add] at c1 c2 c3
        have HR : Hid (x.rf[j]? = some r) := hr
        clear hr hyr
        have hb2 := below_alloc wr (.cells #[.int .u64 r.id, .int .i64 r.pl, .int .u64 r.g] 72)
        have hy2 := hy.below hb2
        go_wp2_with fail
        refine (isStale_any hy2 hN hp).mono ?_
        rintro e w2 ⟨rfl, b2⟩
        have hy3 := hy2.below b2
        have g3 := hg.trans (grownBy_of (ext_trans hb2 b2) (some rb))
        have hblk : w2.heap[wr.heap.size]? = some (.cells #[.int .u64 r.id, .int .i64 r.pl, .int .u64 r.g] 72 (0, 0)) := (b2.block _ (by simp)).trans (heap_alloc_new _ _)
        have d0 := (cell_fz hblk 0 _ rfl).1
        have d1 := (cell_fz hblk 1 _ rfl).1
        have d2 := (cell_fz hblk 2 _ rfl).1
        show _
        have hlS : live ({ x with rf := ys } : Am).Sl r = live x.Sl r := rfl
        rw [hlS]
        cases hl : live x.Sl r with
        | true =>
          rcases hy3.rfs.cases with ⟨_, h0, _⟩ | ⟨rb', cur, hrb', _, hrg, hcn, hcm, hcs, htk⟩
          · replace h0 : x.rn = 0 := h0
            omega
          replace hrb' : x.ra = some ⟨rb', 0, none⟩ := hrb'
          obtain rfl : rb = rb' := by have := HRB.out; rw [hrb'] at this; simpa using this.symm
          replace hcs : cur.size = x.rc * 3 := hcs
          replace hcn : x.rn ≤ x.rc := hcn
          have z0 : ∀ q, w2.frozen? ⟨rb, q, none⟩ = false := fun q => by simp [World.frozen?, hrg]
          have z1 := z0 (i * 3)
          have z2 := z0 (i * 3 + 1)
          have z3 := z0 (i * 3 + 2)
          obtain ⟨r0, hr0⟩ : ∃ r0, ys[i]? = some r0 := ⟨ys[i]'(by have := HY.out; omega), List.getElem?_eq_getElem _⟩
          have hro3 := hy3.rfs.row
          replace hro3 : RowG ER w2 x.ra x.rn x.rc ys := hro3
          rw [HRB.out] at hro3
          obtain ⟨f0, f1, f2⟩ := hro3.ref hr0
          simp only [Nat.zero_add] at f0 f1 f2
          clear htk hr0
          go_wp2_with fail
          go_roundw
          case rel =>
            obtain ⟨hz, t4⟩ := hy3.putRef HRB.out (show i < x.rn by omega) r hU
            refine ⟨i + 1, j + 1, ys.set i r, by omega, by omega, by go_num, by go_num, ⟨_, rfl⟩, hz, ?_, ?_, ?_⟩
            · have hil : i < ys.length := by have := HY.out; omega
              have e1 : x.rf.take (j + 1) = x.rf.take j ++ [r] := by rw [List.take_add_one, HR.out]; rfl
              rw [e1, List.filter_append, ← HT.out]
              simp [hl, List.take_add_one, List.take_set_of_le, hil]
            · rw [List.drop_set_of_lt (by omega)]
              have : (ys.drop j).drop 1 = (x.rf.drop j).drop 1 := by rw [HD.out]
              simpa [List.drop_drop, Nat.add_comm] using this
            · exact g3.trans (setCells_grown (g := rb) (rcells r).toList (i * 3) w2)
          case measure => simp [intOf]; omega
        | false =>
          go_wp2
          go_roundw
          case rel =>
            refine ⟨i, j + 1, ys, by omega, by omega, rfl, by go_num, ⟨_, rfl⟩, hy3, ?_, ?_, g3⟩
            · have e1 : x.rf.take (j + 1) = x.rf.take j ++ [r] := by rw [List.take_add_one, HR.out]; rfl
              rw [e1, List.filter_append, ← HT.out]
              simp [hl]
            · have : (ys.drop j).drop 1 = (x.rf.drop j).drop 1 := by rw [HD.out]
              simpa [List.drop_drop, Nat.add_comm] using this
          case measure => simp [intOf]; omega
      · obtain rfl : j = x.rn := by omega
        have hin : i < x.rn := hij
        have q1 : (0 : Int) ≤ (i : Int) := by omega
        have q4 : (i : Int) ≤ (x.rn : Int) := by omega
        have q5 : ¬ x.rc = i := by omega
        have q6 : (i : Int) ≤ (x.rc : Int) := by omega
        have hown : OwnG ER 72 wr 0 x.ra x.rn x.rc ys := hy.rfs
        rw [HRB.out] at hown
        rcases hown.cases with ⟨c, _⟩ | ⟨b, cur, hb, _, hgb, hn, hm, hs, _⟩
        · cases c
        obtain rfl : rb = b := by simpa using hb
        replace hs : cur.size = x.rc * 3 := hs
        have hzl : (Builtin.zeroCells zref.cells (x.rn - i)).toList.length = (x.rn - i) * 3 := by
          rw [Array.length_toList]; exact zc3 _
        have hcl : ∀ ty, (Builtin.clear_ #[54] ty #[.slice (some ⟨rb, i * 3, none⟩) (x.rn - i) (x.rc - i)]).run Try.prog wr = .ok (.tuple #[]) (wr.setCells rb (i * 3) (Builtin.zeroCells zref.cells (x.rn - i)).toList) := fun ty =>
          run_clear_k wr _ 72 ty zref Try.underlying54 (zeroRef wr) rb (i * 3) (x.rn - i) (x.rc - i) _ rfl (by omega) (fun q hq => by simp [World.cell?, hgb]; omega) (fun q hq => by simp [World.frozen?, hgb]) (zcs_one _)
        have hfin := hown.past (show i ≤ x.rn by omega) _ hzl
        rw [HT.out, List.take_of_length_le (by have := hlen.out; omega)] at hfin
        have hgf := hg.trans (setCells_grown (g := rb) (Builtin.zeroCells zref.cells (x.rn - i)).toList (i * 3) wr)
        go_wp2_with fail
        go_ret
        rename_i zc hq
        have hzc : zref.cells = zc := by rw [hq]; rfl
        rw [← hzc]
        exact ⟨i, rfl, hfin, hgf⟩
set_option maxHeartbeats 1000000 in
theorem sweep_any (h : x.In w S p) {v : Int} {T : Tx} {N : Nat} (hi : Inv v (32 * x.sn) x.fr x.rf x.Sl T N) (hN : N ≤ 1099511627776) :
    Calls Try.prog 27 #[.pointer (some ⟨p, 0, none⟩)] w fun e w' => e = .returned (.tuple #[]) ∧ ∃ z : Am, z.In w' (gr S w w') p ∧ Tou S w w' ∧ z.v = x.v ∧ Inv v (32 * z.sn) z.fr z.rf z.Sl T N := by
  have hsn : x.sn ≤ 1099511627776 := by have := hi.bnd.2.1; omega
  have hrn : x.rn ≤ 1099511627776 := by have := hi.bnd.1; have := h.rfs.1; omega
  have hfn : x.fn ≤ 35184372088832 := by have := hi.bnd.2.2.1; have := h.frs.1; omega
  have c1 := h.c1
  have c2 := h.c2
  have c3 := h.c3
  have f3 := h.fz 3
  go_enter Try.func27, Try.ntmps27
  go_wp2_with fail
  go_quiet (fail)
  have hq := h.below (bel_drawn w nq)
  have c3q := hq.c3
  by_cases hd : (2 * ((x.sn : Int) * 32 - (x.fn : Int)) < (x.rn : Int))
  · go_wp2_with fail
    refine (del_any hq hsn (fun r hr => (hi.pl r hr).1) hrn).mono ?_
    rintro e w1 ⟨m, rfl, ho, hg⟩
    obtain ⟨f1, f2⟩ := cell_fz ((Far.block ⟨hg, hq.rfs.ty⟩ hq.box (by decide)).trans hq.box) 3 _ rfl
    have hz := hq.setRefs hg ho (fun y hy => .inl (by
      rcases hq.rfs.cases with ⟨c, _⟩ | ⟨b, cur, c, _⟩
      · rw [c] at hy; cases hy
      · rw [c] at hy ⊢
        obtain rfl := Option.some.inj hy
        rfl))
    have t1 : Tou S w (w1.setCell ⟨p, 3, none⟩ (.slice x.ra m x.rc)) := ((Tou.of_below (bel_drawn w nq) S).more (Tou.grown hg (own_in hq.rfs hq.sr))).more (Tou.set S _ _ _ h.sp)
    go_wp2_with fail
    go_end0
    refine ⟨rfl, { x with ra := x.ra, rn := m, rc := x.rc, rf := x.rf.filter (live x.Sl) }, hz.more (fun b hb => hb.imp id (fun hb => ⟨hb.1, by simpa [World.setCell] using hb.2⟩)) (fun b hb => hb.elim (fun hb => Nat.lt_of_lt_of_le (h.lt b hb) t1.size) And.right), t1, rfl, hi.sweep⟩
  · have hd' : decide (2 * ((x.sn : Int) * 32 - (x.fn : Int)) < (x.rn : Int)) = false := by simpa using hd
    go_wp2_with fail
    go_end0
    exact ⟨rfl, x, hq.wide w, Tou.of_below (bel_drawn w nq) S, rfl, hi⟩
end
end Go.Proofs.Ytafnonmpanpfkaa
