/- RingTurns walked: it answers true, and turns nothing that was there. -/
import Derived.Test.YtfofnealkfgjfaaRgBegun
import Derived.Test.YtfofnealkfgjfaaRgSame
import Derived.Test.YtfofnealkfgjfaaRgQueue
namespace Go.Proofs.Ytfofnealkfgjfaa
open Go.RowKit
set_option maxRecDepth 100000
set_option linter.unusedVariables false

set_option maxHeartbeats 8000000 in
theorem ringTurns_walk (a : Option Addr) (n c : Nat) (xs : List Int) (w : World) (hr : Row w a n c xs) :
    Calls Try.prog 3 #[.slice a n c] w fun e w' => e = .returned (.bool true) ∧ Below w.heap.size w w' := by
  have hlen := hr.len
  have hcm := hr.cap_le
  by_cases hn40 : 40 < n
  · have h40 : (40 : Int) < (n : Int) := by omega
    go_enter Try.func3, Try.ntmps3
    go_wp2_with fail
    refine (begun16_true _).mono ?_
    rintro e w1 ⟨rfl, b1⟩
    go_wp2_with fail
    go_ret
    exact ⟨rfl, b1⟩
  have h40 : ¬ (40 : Int) < (n : Int) := by omega
  go_enter Try.func3, Try.ntmps3
  go_wp2_with fail
  refine (begun16_true _).mono ?_
  rintro e w1 ⟨rfl, b1⟩
  go_wp2_with fail
  go_loopw [3, 4, 5, 6, 7, 8, 9, 10] (fun s3 s4 i s6 s7 s8 s9 s10 wr => ∃ (j k cr ch : Nat) (sr sh : Option Addr) (ps qs : List Le), j ≤ n ∧ k ≤ 4 ∧ s3 = .slice sr k cr ∧ s4 = .slice sh k ch ∧ i = .int .i64 j ∧ (∃ z : Value, s6 = z) ∧ (∃ z : Value, s7 = z) ∧ (∃ z : Value, s8 = z) ∧ (∃ z : Value, s9 = z) ∧ (∃ z : Value, s10 = z) ∧ RowR wr sr k cr ps ∧ QuR wr w.heap.size sh k ch qs ∧ Hid (txt ps = txt qs) ∧ Hid (∀ p ∈ ps, p.n ≤ 16) ∧ Below w.heap.size w wr) (fun _ _ i _ _ _ _ _ _ => n - (intOf i).toNat)
  case atStart => exact ⟨0, 0, 0, 0, none, none, [], [], by omega, by omega, rfl, rfl, rfl, ⟨_, rfl⟩, ⟨_, rfl⟩, ⟨_, rfl⟩, ⟨_, rfl⟩, ⟨_, rfl⟩, RowR.nil _, QuR.nil _ _, rfl, fun _ h => by simp at h, b1⟩
  case round =>
    clear b1
    obtain ⟨j, k, cr, ch, sr, sh, ps, qs, hj, hk4, rfl, rfl, rfl, ⟨z6, rfl⟩, ⟨z7, rfl⟩, ⟨z8, rfl⟩, ⟨z9, rfl⟩, ⟨z10, rfl⟩, hps, hqs, HT, H16, hbel⟩ := hrel
    by_cases hjn : j < n
    · have p1 : (j : Int) < (n : Int) := by omega
      obtain ⟨g0, off, rfl, hc0⟩ := (hr.below hbel).at (by omega)
      have c0 := hc0 j hjn
      obtain ⟨Z, hZ⟩ : ∃ Z, Z = xs.getD j 0 := ⟨_, rfl⟩
      have hZb : 0 ≤ Z ∧ Z < 256 := by
        rw [hZ]
        have hjx : j < xs.length := by omega
        have := hr.byt (xs[j]) (List.getElem_mem hjx)
        simpa [List.getD, hjx] using this
      rw [← hZ] at c0
      clear hZ hc0
      have hwj : IntKind.u8.wrap (j : Int) = (j : Int) := by rw [IntKind.wrap_u8]; omega
      by_cases hz3 : 0 < Z % 3
      · have bz := below_alloc wr (.cells #[.int .u8 j, .int .u8 Z] 5)
        have hbyt : Byt [(j : Int), Z] := by intro x hx; simp at hx; rcases hx with rfl | rfl <;> omega
        have rz := row_lit wr 5 [(j : Int), Z] 2 rfl (by omega) hbyt
        by_cases hk : k < 4
        · have hk' : (k : Int) < 4 := by omega
          have hp := push_ok sr k cr (some ⟨wr.heap.size, 0, none⟩) 2 2 ps [(j : Int), Z] _ (hps.below bz) rz (by omega) hk (fun p hp => by have := H16.out p hp; omega)
          have hsz : wr.heap.size < (wr.alloc (.cells #[.int .u8 j, .int .u8 Z] 5)).heap.size := by simp
          go_wp2_with fail
          refine hp.mono ?_
          rintro e w2 ⟨sx, cx, qx, rfl, ox, tx, b2⟩
          have b2' := ext_trans bz b2
          have hqs2 := hqs.below b2'
          have hbel2 := ext_trans hbel b2'
          have c02 := (b2'.cell (lt_of_cell c0)).trans c0
          have H16x : Hid (∀ p ∈ qx, p.n ≤ 16) := fun q hq => by
            have h1 := ox.row.le16.1 (by
              rw [tx]; intro l hl
              rcases List.mem_append.1 hl with hl | hl
              · exact (hps.le16.2 H16.out) l hl
              · simp at hl; subst hl; simp)
            exact h1 q hq
          have hsg : ∀ g, (Value.slice sh k ch).ownBlock = some g → w.heap.size ≤ g ∧ g < wr.heap.size := fun g hg => hqs.lt g hg
          have hws : w.heap.size ≤ w2.heap.size := hbel2.size
          have HTX : Hid (txt qx = txt qs ++ [[(j : Int), Z]]) := by show _ = _; rw [tx, HT.out]
          have z1 := below_alloc w2 (.cells #[.int .u8 j, .int .u8 Z] 5)
          have lz := own_lit w2 5 [(j : Int), Z] 2 rfl (by omega) hbyt
          clear hp rz bz hps hqs c0 hbel b2 b2' tx
          have zz := ext_trans z1 (below_alloc (w2.alloc (.cells #[.int .u8 j, .int .u8 Z] 5)) (.cells #[.slice (some ⟨w2.heap.size, 0, none⟩) 2 2] 22))
          have hlt := lit_one (w2.alloc (.cells #[.int .u8 j, .int .u8 Z] 5)) ⟨some ⟨w2.heap.size, 0, none⟩, 2, 2, [(j : Int), Z]⟩
          have hLe : LeO ((w2.alloc (.cells #[.int .u8 j, .int .u8 Z] 5)).alloc (.cells #[.slice (some ⟨w2.heap.size, 0, none⟩) 2 2] 22)) w.heap.size ⟨some ⟨w2.heap.size, 0, none⟩, 2, 2, [(j : Int), Z]⟩ := (LeO.made (lz.below (below_alloc _ _))).mono hws
          simp only [show ∀ (x : World) (o : Obj), (x.alloc o).heap.size = x.heap.size + 1 from fun x o => by simp] at hlt
          have hq3 := hqs2.below zz
          have ox3 := ox.below zz
          have hbel3 := ext_trans hbel2 zz
          have hws3 := hbel3.size
          go_wp2_with (at_builtin; refine wp_append_queue _ rfl (.tmp 57) (.tmp 65) 24 rfl Try.underlying24 w.heap.size k ch sh qs rfl hq3 _ 1 ⟨some ⟨w2.heap.size, 0, none⟩, 2, 2, [(j : Int), Z]⟩ rfl hlt hLe (by omega) hws3 ?_; intro sn cn w5 hq5 g5)
          have ox5 := ox3.grown_q g5 (fun g hg => by have := hsg g hg; omega)
          have hbel5 := hbel3.grown g5 hws3 (fun g hg => (hsg g hg).1)
          clear hqs2 hbel2 c02 z1 lz ox hlt hLe zz hq3 ox3 hbel3
          go_roundw
          case rel => exact ⟨j + 1, k + 1, cx, cn, sx, sn, qx, _, by omega, by omega, rfl, rfl, by go_num, ⟨_, rfl⟩, ⟨_, rfl⟩, ⟨_, rfl⟩, ⟨_, rfl⟩, ⟨_, rfl⟩, ox5.row, hq5, by rw [txt_append]; exact HTX, H16x, hbel5⟩
          case measure => simp [intOf]; omega
        · obtain rfl : k = 4 := by omega
          have hp := push_full sr 4 cr (some ⟨wr.heap.size, 0, none⟩) 2 2 (wr.alloc (.cells #[.int .u8 j, .int .u8 Z] 5)) (by omega) (by omega)
          go_wp2_with fail
          refine hp.mono ?_
          rintro e w2 ⟨rfl, h2⟩
          rw [← h2] at bz
          have hps2 := hps.below bz
          have hqs2 := hqs.below bz
          have hbel2 := ext_trans hbel bz
          clear h2 hp rz hps hqs hbel c0 bz
          go_wp2_with fail
          go_roundw
          case rel => exact ⟨j + 1, 4, cr, ch, sr, sh, ps, qs, by omega, by omega, rfl, rfl, by go_num, ⟨_, rfl⟩, ⟨_, rfl⟩, ⟨_, rfl⟩, ⟨_, rfl⟩, ⟨_, rfl⟩, hps2, hqs2, HT, H16, hbel2⟩
          case measure => simp [intOf]; omega
      · have hz3' : ¬ 0 < Z % 3 := hz3
        by_cases hk0 : k = 0
        · subst hk0
          go_wp2_with fail
          refine (pop_none sr cr wr).mono ?_
          rintro e w2 ⟨rfl, rfl⟩
          go_wp2_with fail
          go_quiet (fail)
          go_wp2_with fail
          go_roundw
          case rel => exact ⟨j + 1, 0, cr, ch, sr, sh, ps, qs, by omega, by omega, rfl, rfl, by go_num, ⟨_, rfl⟩, ⟨_, rfl⟩, ⟨_, rfl⟩, ⟨_, rfl⟩, ⟨_, rfl⟩, hps.below (below_drewN (Below.refl w2.heap.size w2) nq), hqs.below (below_drewN (Below.refl w2.heap.size w2) nq), HT, H16, below_drewN hbel nq⟩
          case measure => simp [intOf]; omega
        · obtain ⟨l, rfl⟩ : ∃ l, k = l + 1 := ⟨k - 1, by omega⟩
          obtain ⟨p0, rs, rfl⟩ : ∃ p0 rs, ps = p0 :: rs := by
            cases ps with
            | nil => have := hps.len; simp at this
            | cons p0 rs => exact ⟨p0, rs, rfl⟩
          obtain ⟨q0, r2, rfl⟩ : ∃ q0 r2, qs = q0 :: r2 := by
            cases qs with
            | nil => have := hqs.row.len; simp at this
            | cons q0 r2 => exact ⟨q0, r2, rfl⟩
          have hTT : p0.xs = q0.xs ∧ txt rs = txt r2 := by have := HT.out; simpa [txt] using this
          have hp := pop_some sr l cr p0 rs wr hps (by omega) (fun q hq => by have := H16.out q hq; omega)
          go_wp2_with fail
          refine hp.mono ?_
          rintro e w3 ⟨a8, s9, c8, c9, q9, rfl, hL, o9, t9, b3⟩
          have hqs3 := hqs.below b3
          have hbel3 := ext_trans hbel b3
          have H169 : Hid (∀ p ∈ q9, p.n ≤ 16) := fun q hq => by
            have h1 := o9.row.le16.1 (by
              rw [t9]; intro x hx
              obtain ⟨y, hy, rfl⟩ := List.mem_map.1 hx
              rw [(hps.2 y (by simp [hy])).len]; exact H16.out y (by simp [hy]))
            exact h1 q hq
          have HT9 : Hid (txt q9 = txt r2) := by show _ = _; rw [t9, hTT.2]
          obtain ⟨gq, fq, rfl, hmore, hone⟩ := hqs3.tail
          obtain ⟨k0, r0⟩ := hqs3.row.cell (i := 0) (p := q0) rfl
          rw [Nat.add_zero] at k0
          have hcap := hqs3.row.cap_le
          have e1 := fun N => strR.out (w3.drewN N) _ _ _ _ (hL.row.below (below_drewN (Below.refl w3.heap.size w3) N))
          have e2 := fun N => strR.out (w3.drewN N) _ _ _ _ (r0.below (below_drewN (Below.refl w3.heap.size w3) N))
          simp only at e1
          have e3 : ((strOfNums p0.xs).toList == (strOfNums q0.xs).toList) = true := by rw [hTT.1]; simp
          have e4 : (0 : Int) < (l : Int) + 1 := by omega
          clear hp hps hqs hbel b3 hL t9 HT H16 hTT r0 c0
          go_wp2_with fail
          go_quiet (fail)
          have bd := below_drewN (Below.refl w3.heap.size w3) nq
          have r9 := o9.row.below bd
          have hbel4 := ext_trans hbel3 bd
          have e5 : (1 : Int) ≤ (l : Int) + 1 := by omega
          by_cases hc1 : ch = 1
          · subst hc1
            obtain ⟨rfl, hq0⟩ := hone rfl
            have hq9 := hq0.below bd
            clear e1 e2 e3 e4 hmore hone k0 o9 hqs3 hbel3 bd hq0
            generalize w3.drewN nq = w4 at *
            go_wp2_with fail
            go_quiet (fail)
            go_wp2_with fail
            go_roundw
            case rel => exact ⟨j + 1, 0, c9, 0, s9, _, q9, r2, by omega, by omega, rfl, rfl, by go_num, ⟨_, rfl⟩, ⟨_, rfl⟩, ⟨_, rfl⟩, ⟨_, rfl⟩, ⟨_, rfl⟩, r9.below (below_drewN (Below.refl w4.heap.size w4) _), hq9.below (below_drewN (Below.refl w4.heap.size w4) _), HT9, H169, below_drewN hbel4 _⟩
            case measure => simp [intOf]; omega
          · have hq9 := (hmore (by omega)).below bd
            have e6 : ¬ ch = 1 := hc1
            clear e1 e2 e3 e4 hmore hone k0 o9 hqs3 hbel3 bd
            generalize w3.drewN nq = w4 at *
            go_wp2_with fail
            go_quiet (fail)
            go_wp2_with fail
            go_roundw
            case rel => exact ⟨j + 1, l, c9, ch - 1, s9, _, q9, r2, by omega, by omega, rfl, rfl, by go_num, ⟨_, rfl⟩, ⟨_, rfl⟩, ⟨_, rfl⟩, ⟨_, rfl⟩, ⟨_, rfl⟩, r9.below (below_drewN (Below.refl w4.heap.size w4) _), hq9.below (below_drewN (Below.refl w4.heap.size w4) _), HT9, H169, below_drewN hbel4 _⟩
            case measure => simp [intOf]; omega
    · have p1 : ¬ (j : Int) < (n : Int) := by omega
      have hs := sameRing_any sr sh k k cr ch ps qs wr hps hqs.row true (by simp [HT.out])
      go_wp2_with fail
      refine hs.mono ?_
      rintro e w2 ⟨rfl, b2⟩
      go_wp2_with fail
      go_ret
      exact ⟨rfl, ext_trans hbel b2⟩
end Go.Proofs.Ytfofnealkfgjfaa
