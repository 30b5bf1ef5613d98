/- RingApart walked: it answers true, and turns nothing that was there. -/
import Derived.Test.YtfofnealkfgjfaaRgBegun
import Derived.Test.YtfofnealkfgjfaaRgCopy
import Derived.Test.YtfofnealkfgjfaaRgSame
import Derived.Test.YtfofnealkfgjfaaRgSpoil
import Derived.OpenShut
namespace Go.Proofs.Ytfofnealkfgjfaa
open Go.RowKit
set_option maxRecDepth 100000
set_option linter.unusedVariables false

theorem xor_bd (a b : Int) : 0 ≤ bits .xor .u8 a b ∧ bits .xor .u8 a b < 256 := by
  have := bounds_u8 (wf_bits .xor .u8 a b); omega

set_option maxHeartbeats 8000000 in
theorem ringApart_walk (a : Option Addr) (n c : Nat) (ps : List Le) (b : Option Addr) (m d : Nat) (bs : List Int) (w : World) (hr : RowR w a n c ps) (hs : Row w b m d bs) :
    Calls Try.prog 5 #[.slice a n c, .slice b m d] w fun e w' => e = .returned (.bool true) ∧ Below w.heap.size w w' := by
  have hlen := hr.len
  have hcm := hs.cap_le
  by_cases hn3 : 3 < n
  · have h3 : (3 : Int) < (n : Int) := by omega
    go_enter Try.func5, Try.ntmps5
    go_wp2_with fail
    refine (begun16_true _).mono ?_
    rintro e w1 ⟨rfl, b1⟩
    go_wp2_with fail
    go_ret
    exact ⟨rfl, b1⟩
  have h3 : ¬ (3 : Int) < (n : Int) := by omega
  go_enter Try.func5, Try.ntmps5
  go_wp2_with fail
  refine (begun16_true _).mono ?_
  rintro e w1 ⟨rfl, b1⟩
  have hm1 := mayRing_any a n c ps _ (hr.below b1)
  cases hmay : mayT (txt ps)
  · rw [hmay] at hm1
    go_wp2_with fail
    refine hm1.mono ?_
    rintro e w1 ⟨rfl, rfl⟩
    go_wp2_with fail
    go_ret
    exact ⟨rfl, b1⟩
  rw [hmay] at hm1
  have h16 := hr.le16.1 ((mayT_iff _).1 hmay).2
  by_cases hm16 : 16 < m
  · have h16' : (16 : Int) < (m : Int) := by omega
    go_wp2_with fail
    refine hm1.mono ?_
    rintro e w1 ⟨rfl, rfl⟩
    go_wp2_with fail
    go_ret
    exact ⟨rfl, b1⟩
  have h16' : ¬ (16 : Int) < (m : Int) := by omega
  go_wp2_with fail
  refine hm1.mono ?_
  rintro e w1 ⟨rfl, rfl⟩
  clear hm1
  go_wp2_with fail
  refine (copyR_any a n c ps _ (hr.below b1) (by omega) (fun p hp => by have := h16 p hp; omega)).mono ?_
  rintro e w2 ⟨s5, c5, qw, rfl, o5, t5, b2⟩
  replace b2 := ext_trans b1 b2
  have hr2 := hr.below b2
  have hs2 := hs.below b2
  have r5 := o5.row
  clear o5 b1
  have bz := below_alloc w2 (.cells #[] 5)
  go_wp2_with (at_builtin; refine wp_append_bytes _ rfl (.tmp 34) (.tmp 35) 22 rfl 5 Try.underlying22 info5 w2.heap.size w2.heap.size 0 0 [] rfl (own_lit w2 5 [] 0 rfl (by omega) Byt.nil) b m d bs rfl (hs2.below bz) (by omega) (by simp) w2 bz ?_; intro g6 c6 w3 o6 b3; rw [Nat.zero_add, List.nil_append] at o6)
  have hr3 := hr2.below b3
  have hs3 := hs2.below b3
  have bk3 := b3
  replace b3 := ext_trans b2 b3
  have hg6 := o6.lt
  refine (push_ok a n c (some ⟨g6, 0, none⟩) m c6 ps bs w3 hr3 o6.row (by omega) (by omega) (fun p hp => by have := h16 p hp; omega)).mono ?_
  rintro e w4 ⟨s7, c7, qx, rfl, o7, t7, b4⟩
  have hr4 := hr3.below b4
  have hs4 := hs3.below b4
  have bk := ext_trans bk3 b4
  have o64 := o6.below b4
  have hg62 : w.heap.size ≤ g6 := Nat.le_trans b2.size hg6.1
  have hg61 : w2.heap.size ≤ g6 := hg6.1
  have hg63 : g6 < w3.heap.size := hg6.2
  have b24 : w2.heap.size ≤ w4.heap.size := by have := b4.size; omega
  replace b4 := ext_trans b3 b4
  clear hr2 hr3 hs2 hs3 bk3 o6 b3 bz hg6
  go_wp2_with fail
  go_loopw [9] (fun i wr => ∃ (j : Nat) (ys : List Int), j ≤ m ∧ i = .int .i64 j ∧ Own 5 wr w2.heap.size g6 m c6 ys ∧ w4.grownBy wr (some g6)) (fun i _ => m - (intOf i).toNat)
  case atStart => exact ⟨0, bs, by omega, rfl, o64, ⟨rfl, rfl, rfl, Nat.le_refl _, fun _ _ _ => rfl⟩⟩
  case round =>
    obtain ⟨j, ys, hj, rfl, oy, hg⟩ := hrel
    by_cases hjm : j < m
    · have p1 : (j : Int) < (m : Int) := by omega
      have c1 := oy.cell j hjm
      have m1 := oy.meltR j
      generalize ys.getD j 0 = Z at c1
      go_wp2_with fail
      go_roundw
      case rel => exact ⟨j + 1, _, by omega, by go_num, oy.setR j _ (xor_bd Z 7), grownBy_trans hg (grownBy_setCell _ _ _ _)⟩
      case measure => simp [intOf]; omega
    · have p1 : ¬ (j : Int) < (m : Int) := by omega
      have o7r := o7.grown_lt hg hg63
      have bw5 := b4.trans (Below.grown (Below.refl _ _) hg b4.size (fun k hk => by simp at hk; omega))
      have bk5 := bk.grown hg b24 (fun k hk => by simp at hk; omega)
      have hw5 := hr.below bw5
      have hv5 := hs.below bw5
      have ha5 := r5.below bk5
      have hx16 : ∀ q ∈ qx, q.n ≤ 16 := o7r.row.le16.1 (by
        rw [t7]; intro l hl
        rcases List.mem_append.1 hl with hl | hl
        · exact (hr.le16.2 h16) l hl
        · simp at hl; subst hl; rw [hs.len]; omega)
      obtain ⟨g7, f7, rfl, hx7⟩ := o7r.row.at (by omega)
      obtain ⟨p, hp⟩ := o7r.row.get n (by omega)
      have hpx : p.xs = bs := by
        have h1 := txt_get hp
        rw [t7, List.getElem?_append_right (by rw [txt_len]; omega), txt_len, hlen, Nat.sub_self] at h1
        simpa using h1.symm
      obtain ⟨k7, r7⟩ := hx7.cell hp
      have q1 := fun N => strR.out (wr.drewN N) _ _ _ _ (r7.below (below_drewN (Below.refl _ wr) N))
      have q2 := fun N => strR.out (wr.drewN N) _ _ _ _ (hv5.below (below_drewN (Below.refl _ wr) N))
      have q3 : ((strOfNums p.xs).toList == (strOfNums bs).toList) = true := by rw [hpx]; simp
      have q4 : (n : Int) < (n : Int) + 1 := by omega
      clear o7 hr4 hs4 b4 bk o64 oy hg hx7 r7 hp
      go_wp2_with fail
      go_quiet (fail)
      have bd := below_drewN (Below.refl wr.heap.size wr) nq
      have o8 := o7r.below bd
      have hw8 := hw5.below bd
      have ha8 := ha5.below bd
      have bw8 := ext_trans bw5 bd
      generalize wr.drewN nq = w8 at *
      clear q1 q2 q3 q4 bw5 bk5 hw5 hv5 ha5 o7r bd k7 hpx
      go_wp2_with fail
      refine (copyR_any (some ⟨g7, f7, none⟩) (n + 1) c7 qx w8 o8.row (by omega) (fun q hq => by have := hx16 q hq; omega)).mono ?_
      rintro e w9 ⟨s10, c10, qy, rfl, o10, t10, b9⟩
      have o9 := o8.below b9
      have hw9 := hw8.below b9
      have ha9 := ha8.below b9
      have r10 := o10.row
      have bw9 := ext_trans bw8 b9
      have hx9 := o9.row
      clear o8 hw8 ha8 bw8 b9 o10 o9
      obtain ⟨p0, rs, hqx⟩ : ∃ p0 rs, qx = p0 :: rs := by
        cases qx with
        | nil => simp [txt] at t7
        | cons p0 rs => exact ⟨p0, rs, rfl⟩
      have hpop := pop_some (some ⟨g7, f7, none⟩) n c7 p0 rs w9 (hqx ▸ hx9) (by omega) (fun q hq => by have := hx16 q (hqx ▸ hq); omega)
      go_wp2_with fail
      refine hpop.mono ?_
      rintro e w10 ⟨a11, s12, c11, c12, q12, rfl, hL, o12, t12, b10⟩
      have hsp := o12.spo
      have hfi : ∃ zs, LeO w10 w9.heap.size ⟨a11, p0.n, c11, zs⟩ := ⟨_, hL⟩
      have hN0 := hx16 p0 (by rw [hqx]; simp)
      have hq16 : ∀ q ∈ q12, q.n ≤ 16 := o12.row.le16.1 (by
        rw [t12]; intro l hl
        obtain ⟨q, hq, rfl⟩ := List.mem_map.1 hl
        have hq' : q ∈ qx := by rw [hqx]; simp [hq]
        rw [(hx9.2 q hq').len]; exact hx16 q hq')
      clear hpop hL o12 t12
      generalize p0.n = N0 at hfi hN0 ⊢
      go_wp2_with fail
      go_loopw [14] (fun i wr => ∃ j : Nat, j ≤ N0 ∧ i = .int .i64 j ∧ Spo wr w9.heap.size s12 n c12 q12 ∧ (∃ zs, LeO wr w9.heap.size ⟨a11, N0, c11, zs⟩) ∧ Below w9.heap.size w9 wr) (fun i _ => N0 - (intOf i).toNat)
      case atStart => exact ⟨0, by omega, rfl, hsp, hfi, b10⟩
      case round =>
        clear hsp hfi b10
        obtain ⟨j, hj, rfl, hsp, ⟨zs, hfi⟩, b10⟩ := hrel
        by_cases hjn : j < N0
        · have p1 : (j : Int) < (N0 : Int) := by omega
          rcases hfi with ⟨_, h0, _⟩ | ⟨g, hg, oz⟩
          · simp at h0; omega
          simp only at hg oz
          subst hg
          have c1 := oz.cell j hjn
          have m1 := oz.meltR j
          generalize zs.getD j 0 = Z at c1
          go_wp2_with fail
          go_roundw
          case rel => exact ⟨j + 1, by omega, by go_num, hsp.set oz j _ (xor_bd Z 9), ⟨_, LeO.made (oz.setR j _ (xor_bd Z 9))⟩, b10.setCell oz.lt.1 _⟩
          case measure => simp [intOf]; omega
        · have p1 : ¬ (j : Int) < (N0 : Int) := by omega
          clear hfi
          go_wp2_with fail
          go_loopw [15, 16] (fun i s16 wr => ∃ l : Nat, l ≤ n ∧ i = .int .i64 l ∧ (∃ z : Value, s16 = z) ∧ Spo wr w9.heap.size s12 n c12 q12 ∧ Below w9.heap.size w9 wr) (fun i _ _ => n - (intOf i).toNat)
          case atStart => exact ⟨0, by omega, rfl, ⟨_, rfl⟩, hsp, b10⟩
          case round =>
            clear hsp b10
            obtain ⟨l, hl, rfl, ⟨z16, rfl⟩, hsp, b10⟩ := hrel
            by_cases hln : l < n
            · have p2 : (l : Int) < (n : Int) := by omega
              obtain ⟨p3, hp3⟩ : ∃ p3, q12[l]? = some p3 := hsp.1.row.get l hln
              have h3n := hq16 p3 (List.mem_of_getElem? hp3)
              rcases hsp.1.cases with ⟨_, h0, _⟩ | ⟨g12, cur12, rfl, _⟩
              · omega
              have HP3 : Hid (q12[l]? = some p3) := hp3
              clear hp3
              go_wp2_with fail
              go_loopw [16] (fun i wr => ∃ j : Nat, j ≤ p3.n ∧ i = .int .i64 j ∧ Spo wr w9.heap.size (some ⟨g12, 0, none⟩) n c12 q12 ∧ Below w9.heap.size w9 wr) (fun i _ => p3.n - (intOf i).toNat)
              case atStart => exact ⟨0, by omega, rfl, hsp, b10⟩
              case round =>
                clear hsp b10
                obtain ⟨j, hj, rfl, hsp, b10⟩ := hrel
                obtain ⟨k3, zs, hz⟩ := hsp.cell HP3.out
                rw [Nat.zero_add] at k3
                by_cases hj3 : j < p3.n
                · have p4 : (j : Int) < (p3.n : Int) := by omega
                  obtain ⟨pa, pn, pc, px⟩ := p3
                  simp only at hj3 p4 k3 hz h3n hj
                  rcases hz with ⟨_, h0, _⟩ | ⟨g, hg, oz⟩
                  · simp at h0; omega
                  simp only at hg oz
                  subst hg
                  have c1 := oz.cell j hj3
                  have m1 := oz.meltR j
                  generalize zs.getD j 0 = Z at c1
                  go_wp2_with fail
                  go_roundw
                  case rel => exact ⟨j + 1, by omega, by go_num, hsp.set oz j _ (xor_bd Z 9), b10.setCell oz.lt.1 _⟩
                  case measure => simp [intOf]; omega
                · have p4 : ¬ (j : Int) < (p3.n : Int) := by omega
                  clear hz
                  go_wp2_with fail
                  go_roundw
                  case rel => exact ⟨l + 1, by omega, by go_num, ⟨_, rfl⟩, hsp, b10⟩
                  case measure => simp [intOf]; omega
            · have p2 : ¬ (l : Int) < (n : Int) := by omega
              have hxF := hx9.below b10
              have hyF := r10.below b10
              have hlF := hw9.below b10
              have hwF := ha9.below b10
              have bF := ext_trans bw9 b10
              have hs1 := sameRing_any (some ⟨g7, f7, none⟩) s10 (n + 1) (n + 1) c7 c10 qx qy wr hxF hyF true (by simp [t10])
              go_wp2_with fail
              refine hs1.mono ?_
              rintro e w20 ⟨rfl, b20⟩
              have hs2 := sameRing_any a s5 n n c c5 ps qw w20 (hlF.below b20) (hwF.below b20) true (by simp [t5])
              replace b20 := ext_trans bF b20
              clear hs1 hxF hyF hlF hwF
              go_wp2_with fail
              refine hs2.mono ?_
              rintro e w21 ⟨rfl, b21⟩
              replace b21 := ext_trans b20 b21
              go_wp2_with fail
              go_ret
              exact ⟨rfl, b21⟩
end Go.Proofs.Ytfofnealkfgjfaa
