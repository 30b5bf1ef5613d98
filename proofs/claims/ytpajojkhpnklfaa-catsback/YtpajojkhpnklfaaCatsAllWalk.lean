/- CatsAll walked: it answers true, and turns nothing that was there. -/
import Derived.Test.YtpajojkhpnklfaaBegun
import Derived.Test.YtpajojkhpnklfaaRefOps
namespace Go.Proofs.Ytpajojkhpnklfaa
open Go.RowKit

theorem filter_mem_srt {A B : List Int} {q : Bool} (hA : Srt A) : Srt (A.filter fun x => decide (x ∈ B) == q) := hA.filter _
theorem and_eq {A B : List Int} (hA : Srt A) (hB : Srt B) : mrg false true false A B = A.filter fun x => decide (x ∈ B) == true :=
  srt_unique (mrg_srt _ _ _ _ _ hA hB) (hA.filter _) fun x => by rw [mrg_mem _ _ _ _ _ hA hB, List.mem_filter]; simp
theorem less_eq {A B : List Int} (hA : Srt A) (hB : Srt B) : mrg true false false A B = A.filter fun x => decide (x ∈ B) == false :=
  srt_unique (mrg_srt _ _ _ _ _ hA hB) (hA.filter _) fun x => by rw [mrg_mem _ _ _ _ _ hA hB, List.mem_filter]; simp
theorem or_eq {A B Z : List Int} (hA : Srt A) (hB : Srt B) (hZ : Srt Z) (hm : ∀ x, x ∈ Z ↔ x ∈ A ++ B) : mrg true true true A B = Z :=
  srt_unique (mrg_srt _ _ _ _ _ hA hB) hZ fun x => by
    rw [mrg_mem _ _ _ _ _ hA hB, hm, List.mem_append]
    by_cases h1 : x ∈ A <;> by_cases h2 : x ∈ B <;> simp [h1, h2]

theorem same_true (a : Option Addr) (n cap : Nat) (xs : List Int) (b : Option Addr) (m cap2 : Nat) (ys : List Int) (w : World) (hr : RowW w a n cap xs) (hs : RowW w b m cap2 ys) (h : xs = ys) :
    Calls Try.prog 12 #[.slice a n cap, .slice b m cap2] w fun e w' => e = .returned (.bool true) ∧ Below w.heap.size w w' := by
  have := same_any a n cap xs b m cap2 ys w hr hs
  rwa [decide_eq_true h] at this

set_option maxHeartbeats 400000 in
theorem catsAll_long (a b : Option Addr) (n cap m cap2 : Nat) (c : Int) (w : World) (h : 30 < n ∨ 30 < m) :
    Calls Try.prog 4 #[.slice a n cap, .slice b m cap2, .int .u16 c] w fun e w' => e = .returned (.bool true) ∧ Below w.heap.size w w' := by
  by_cases h1 : (n : Int) > 30
  · go_enter Try.func4, Try.ntmps4
    go_wp2_with fail
    refine (begun_true _).mono ?_
    rintro e w1 ⟨rfl, hb1⟩
    go_wp2_with fail
    go_ret
    exact ⟨rfl, hb1⟩
  · have h2 : (m : Int) > 30 := by omega
    have h3 : decide ((30 : Int) < n) = false := by simpa using h1
    go_enter Try.func4, Try.ntmps4
    go_wp2_with fail
    refine (begun_true _).mono ?_
    rintro e w1 ⟨rfl, hb1⟩
    go_wp2_with fail
    go_ret
    exact ⟨rfl, hb1⟩

set_option maxHeartbeats 4000000 in
theorem catsAll_walk (a b : Option Addr) (n cap m cap2 : Nat) (xs ys : List Int) (c : Int) (w : World) (hr : RowW w a n cap xs) (hs : RowW w b m cap2 ys) :
    Calls Try.prog 4 #[.slice a n cap, .slice b m cap2, .int .u16 c] w fun e w' => e = .returned (.bool true) ∧ Below w.heap.size w w' := by
  by_cases hlong : 30 < n ∨ 30 < m
  · exact catsAll_long a b n cap m cap2 c w hlong
  have h1 : decide ((30 : Int) < n) = false := by simp; omega
  have h2 : decide ((30 : Int) < m) = false := by simp; omega
  have h3 : ¬ (n : Int) > 30 := by omega
  have h4 : ¬ (m : Int) > 30 := by omega
  go_enter Try.func4, Try.ntmps4
  go_wp2_with fail
  refine (begun_true _).mono ?_
  rintro e w1 ⟨rfl, b1⟩
  replace hr := hr.below b1
  replace hs := hs.below b1
  go_wp2_with fail
  refine (refMake_any a n cap xs _ hr (by omega)).mono ?_
  rintro e w2 ⟨sa, na, ca, A, rfl, oa, b2, hA, mA, lA⟩
  replace hr := hr.below b2
  replace hs := hs.below b2
  replace b1 := ext_trans b1 b2
  have ra := oa.row
  clear oa b2
  go_wp2_with fail
  refine (refMake_any b m cap2 ys _ hs (by omega)).mono ?_
  rintro e w3 ⟨sb, nb, cb, B, rfl, ob, b3, hB, mB, lB⟩
  replace hr := hr.below b3
  replace hs := hs.below b3
  replace ra := ra.below b3
  replace b1 := ext_trans b1 b3
  have rb := ob.row
  clear ob b3
  go_wp2_with fail
  refine (or_any sa sb na ca nb cb A B _ ra rb (by omega)).mono ?_
  rintro e w4 ⟨sx, nx, cx, rfl, ox, b4⟩
  go_wp2_with fail
  have q1 := has_any sa na ca A c w4 (ra.below b4) hA (by omega)
  have q2 := refHas_any sa na ca A c w4 (ra.below b4)
  generalize decide (c ∈ A) = hc at q1 q2
  refine q1.mono ?_
  rintro e w4' ⟨rfl, rfl⟩
  clear q1
  go_wp2_with fail
  refine q2.mono ?_
  rintro e w4' ⟨rfl, rfl⟩
  clear q2
  go_wp2_with fail
  refine (refOr_any sa sb na ca nb cb A B _ (ra.below b4) (rb.below b4) (by omega)).mono ?_
  rintro e w5 ⟨s5, n5, c5, Z, rfl, o5, b5, hZ, mZ⟩
  have hxz := or_eq hA hB hZ mZ
  replace ox := ox.below b5
  replace b4 := ext_trans b4 b5
  clear b5
  go_wp2_with fail
  refine (same_true sx nx cx _ s5 n5 c5 Z w5 ox.row o5.row hxz).mono ?_
  rintro e w6 ⟨rfl, b6⟩
  replace ox := ox.below b6
  replace b4 := ext_trans b4 b6
  clear b6 o5 hZ mZ hxz
  go_wp2_with fail
  refine (and_any sa sb na ca nb cb A B _ (ra.below b4) (rb.below b4) (by omega)).mono ?_
  rintro e w7 ⟨s7, n7, c7, rfl, o7, b7⟩
  replace ox := ox.below b7
  replace b4 := ext_trans b4 b7
  clear b7
  go_wp2_with fail
  refine (refAnd_any sa sb na ca nb cb A B _ (ra.below b4) (rb.below b4) (by omega)).mono ?_
  rintro e w8 ⟨s8, n8, c8, rfl, o8, b8⟩
  replace ox := ox.below b8
  replace o7 := o7.below b8
  replace b4 := ext_trans b4 b8
  clear b8
  go_wp2_with fail
  refine (same_true s7 n7 c7 _ s8 n8 c8 _ w8 o7.row o8.row (and_eq hA hB)).mono ?_
  rintro e w9 ⟨rfl, b9⟩
  replace ox := ox.below b9
  replace b4 := ext_trans b4 b9
  clear b9 o7 o8
  go_wp2_with fail
  refine (less_set_any sa sb na ca nb cb A B _ (ra.below b4) (rb.below b4) (by omega)).mono ?_
  rintro e w10 ⟨s10, n10, c10, rfl, o10, b10⟩
  replace ox := ox.below b10
  replace b4 := ext_trans b4 b10
  clear b10
  go_wp2_with fail
  refine (refLess_any sa sb na ca nb cb A B _ (ra.below b4) (rb.below b4) (by omega)).mono ?_
  rintro e w11 ⟨s11, n11, c11, rfl, o11, b11⟩
  replace ox := ox.below b11
  replace o10 := o10.below b11
  replace b4 := ext_trans b4 b11
  clear b11
  go_wp2_with fail
  refine (same_true s10 n10 c10 _ s11 n11 c11 _ w11 o10.row o11.row (less_eq hA hB)).mono ?_
  rintro e w12 ⟨rfl, b12⟩
  replace ox := ox.below b12
  replace b4 := ext_trans b4 b12
  clear b12 o10 o11
  go_wp2_with fail
  have q3 := in_any sa sb na ca nb cb A B _ (ra.below b4) (rb.below b4) (by omega)
  rw [less_eq hA hB] at q3
  have q4 := fun W (hW : Below w3.heap.size w3 W) => refIn_any sa sb na ca nb cb A B W (ra.below hW) (rb.below hW) (by omega)
  generalize decide ((A.filter fun x => decide (x ∈ B) == false) = []) = hi at q3 q4
  refine q3.mono ?_
  rintro e w13 ⟨rfl, b13⟩
  replace ox := ox.below b13
  replace b4 := ext_trans b4 b13
  clear b13 q3
  go_wp2_with fail
  refine (q4 _ b4).mono ?_
  rintro e w14 ⟨rfl, b14⟩
  replace ox := ox.below b14
  replace b4 := ext_trans b4 b14
  clear b14 q4
  go_wp2_with fail
  have hnx : nx ≤ 1000 := by
    have h5 := ox.1
    have h6 := mrg_len true true true A B
    rw [ra.len, rb.len] at h6
    omega
  have hgo : ∃ zs, OwnW 27 w14 w3.heap.size sx nx cx zs := ⟨_, ox⟩
  clear ox
  obtain ⟨zs, ox⟩ := hgo
  go_loopw [12] (fun iv wr => ∃ (i : Nat) (zs : List Int), i ≤ nx ∧ iv = .int .i64 i ∧ OwnW 27 wr w3.heap.size sx nx cx zs ∧ Below w3.heap.size w3 wr) (fun iv _ => nx - (intOf iv).toNat)
  case atStart => exact ⟨0, zs, by omega, rfl, ox, b4⟩
  case round =>
    clear ox b4 zs
    obtain ⟨i, zs, hi, rfl, ox, b4⟩ := hrel
    by_cases hlt : i < nx
    · have p1 : (i : Int) < (nx : Int) := by omega
      rcases ox.cases with ⟨_, h0, _⟩ | ⟨g, cur, rfl, _⟩
      · omega
      have hBg := ox.lt.1
      have c1 := ox.cell i hlt
      have m1 := ox.melt i
      generalize zs.getD i 0 = Z at c1
      go_wp2_with fail
      go_roundw
      case rel => exact ⟨i + 1, zs.set i 9, by omega, by go_num, ox.set i 9 (by omega), b4.setCell hBg _⟩
      case measure => simp [intOf]; omega
    · have p1 : decide ((i : Int) < (nx : Int)) = false := by simp; omega
      go_wp2_with fail
      refine (refMake_any a n cap xs _ (hr.below b4) (by omega)).mono ?_
      rintro e w15 ⟨s15, n15, c15, A', rfl, o15, b15, hA', mA', _⟩
      replace b4 := ext_trans b4 b15
      clear b15
      have eA : A = A' := srt_unique hA hA' fun x => by rw [mA, mA']
      go_wp2_with fail
      refine (same_true sa na ca A s15 n15 c15 A' w15 (ra.below b4) o15.row eA).mono ?_
      rintro e w16 ⟨rfl, b16⟩
      replace b4 := ext_trans b4 b16
      clear b16 eA hA' mA' o15
      go_wp2_with fail
      refine (refMake_any b m cap2 ys _ (hs.below b4) (by omega)).mono ?_
      rintro e w17 ⟨s17, n17, c17, B', rfl, o17, b17, hB', mB', _⟩
      replace b4 := ext_trans b4 b17
      clear b17
      have eB : B = B' := srt_unique hB hB' fun x => by rw [mB, mB']
      go_wp2_with fail
      refine (same_true sb nb cb B s17 n17 c17 B' w17 (rb.below b4) o17.row eB).mono ?_
      rintro e w18 ⟨rfl, b18⟩
      replace b4 := ext_trans b4 b18
      go_wp2_with fail
      go_ret
      exact ⟨rfl, ext_trans b1 b4⟩
end Go.Proofs.Ytpajojkhpnklfaa
