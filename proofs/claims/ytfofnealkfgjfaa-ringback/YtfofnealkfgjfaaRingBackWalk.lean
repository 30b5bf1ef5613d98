/- RingBack walked: it answers true, and turns nothing that was there. -/
import Derived.Test.YtfofnealkfgjfaaRgBegun
import Derived.Test.YtfofnealkfgjfaaRgMath
import Derived.Test.YtfofnealkfgjfaaRgSame
namespace Go.Proofs.Ytfofnealkfgjfaa
open Go.RowKit
set_option maxRecDepth 100000
set_option linter.unusedVariables false

set_option maxHeartbeats 400000 in
theorem place16_any (k n : Int) (w : World) (hn : 1 ≤ n ∧ n ≤ 9223372036854775807) :
    Calls Try.prog 14 #[.int .i64 k, .int .i64 n] w fun e w' => ∃ m : Nat, e = .returned (.int .i64 m) ∧ (m : Int) < n ∧ Below w.heap.size w w' := by
  obtain ⟨hn0, hn1⟩ := hn
  have h1 : ¬ n < 1 := by omega
  obtain ⟨t0, t1⟩ := tmod_bd k n hn0
  by_cases hneg : k.tmod n < 0
  · obtain ⟨m, hm⟩ := Int.eq_ofNat_of_zero_le (show 0 ≤ k.tmod n + n by omega)
    go_enter Try.func14, Try.ntmps14
    go_wp2_with fail
    go_ret
    exact ⟨m, by rw [← hm]; rfl, by omega, Below.refl _ _⟩
  · obtain ⟨m, hm⟩ := Int.eq_ofNat_of_zero_le (show 0 ≤ k.tmod n by omega)
    go_enter Try.func14, Try.ntmps14
    go_wp2_with fail
    go_ret
    exact ⟨m, rfl, by omega, Below.refl _ _⟩

set_option maxHeartbeats 8000000 in
theorem ringBack_walk (a : Option Addr) (n c : Nat) (ps : List Le) (a1 : Option Addr) (m c1 : Nat) (more : List Int) (cut : Int) (w : World) (hr : RowR w a n c ps) (hs : Row w a1 m c1 more) :
    Calls Try.prog 4 #[.slice a n c, .slice a1 m c1, .int .i64 cut] w fun e w' => e = .returned (.bool true) ∧ Below w.heap.size w w' := by
  have hcm := hs.cap_le
  go_enter Try.func4, Try.ntmps4
  go_wp2_with fail
  refine (begun16_true _).mono ?_
  rintro e w1 ⟨rfl, b1⟩
  have hm1 := mayRing_any a n c ps _ (hr.below b1)
  cases hmay : mayT (txt ps)
  · rw [hmay] at hm1
    go_wp2_with fail
    refine hm1.mono ?_
    rintro e w1 ⟨rfl, rfl⟩
    go_wp2_with fail
    go_ret
    exact ⟨rfl, b1⟩
  rw [hmay] at hm1
  have HM : Hid (mayT (txt ps) = true) := hmay
  clear hmay
  by_cases hm20 : 20 < m
  · have h20 : (20 : Int) < (m : Int) := by omega
    go_wp2_with fail
    refine hm1.mono ?_
    rintro e w1 ⟨rfl, rfl⟩
    go_wp2_with fail
    go_ret
    exact ⟨rfl, b1⟩
  have h20 : ¬ (20 : Int) < (m : Int) := by omega
  go_wp2_with fail
  refine hm1.mono ?_
  rintro e w1 ⟨rfl, rfl⟩
  go_wp2_with fail
  refine (put_okR none 0 0 [] a n c ps _ (Row.nil _) (hr.below b1) HM.out (by omega)).mono ?_
  rintro e w2 ⟨g, k, c2, rfl, o2, b2⟩
  rw [List.nil_append] at o2
  replace b2 := ext_trans b1 b2
  have hk : k = (ringB (txt ps)).length := o2.1.symm
  have hrl := ringB_len (txt ps)
  have hk100 : 1 ≤ k ∧ k ≤ 100 := by
    have h1 := (mayT_iff _).1 HM.out
    have h2 := letsB_le (txt ps) h1.2
    omega
  have HK : Hid (k = (ringB (txt ps)).length) := hk
  have r2 := o2.row
  have hp3 := fun W => place16_any cut k W ⟨by omega, by omega⟩
  clear hk hrl hm1 b1 o2
  have bz := below_alloc w2 (.cells #[] 5)
  have r2z := r2.below bz
  have rmz := (hs.below b2).below bz
  go_wp2_with (first
    | (at_builtin; refine wp_append_bytes _ rfl (.tmp 27) (.tmp 28) 22 rfl 5 Try.underlying22 info5 w2.heap.size w2.heap.size 0 0 [] rfl (own_lit w2 5 [] 0 rfl (by omega) Byt.nil) _ k c2 _ rfl r2z (by omega) (by simp) w2 bz ?_; intro g3 c3 w3 o3 b3; rw [Nat.zero_add, List.nil_append] at o3; have rm3 := (hs.below b2).below b3)
    | (at_builtin; refine wp_append_bytes _ rfl (.tmp 29) (.tmp 30) 22 rfl 5 Try.underlying22 info5 w2.heap.size g3 k c3 _ rfl o3 a1 m c1 more rfl rm3 (by omega) b3.size w2 b3 ?_; intro g4 c4 w4 o4 b4; have r4 := o4.row; have r24 := r2.below b4; replace b4 := ext_trans b2 b4))
  have hk1 := takeR_any (some ⟨g4, 0, none⟩) (k + m) c4 _ _ r4 (by omega)
  rw [tkR_put (txt ps) more HM.out] at hk1
  rw [← HK.out] at hk1
  clear rm3 rmz r2z o3 bz b3 r2
  refine hk1.mono ?_
  rintro e w5 ⟨s5, k5, c5, p5, E5, rfl, b5, h5⟩
  rcases h5 with ⟨qs, q, rfl, rfl, ht, hm, o5⟩ | ⟨_, _, _, _, _, ls, q, ht, hm⟩ | ⟨_, _, _, _, _, ht⟩
  · simp only [Option.some.injEq, Prod.mk.injEq] at ht
    obtain ⟨ht, rfl⟩ := ht
    have HT : Hid (txt qs = txt ps) := ht.symm
    have hk5 := o5.len
    have r5 := o5.row
    replace r24 := r24.below b5
    replace b5 := ext_trans b4 b5
    have hcw := r24.cap_le
    clear ht hk1 hm o5 o4 r4 b4
    go_wp2_with fail
    refine (hp3 _).mono ?_
    rintro e w6 ⟨M, rfl, hM, b6⟩
    have hMk : M < k := by omega
    have hM2 : (M : Int) ≤ (c2 : Int) := by omega
    have hMr := r24.pre M (by omega)
    replace r5 := r5.below b6
    have hk6 := takeR_any (some ⟨g, 0, none⟩) M c2 _ w6 (hMr.below b6) (by omega)
    rw [tkR_cut (txt ps) M HM.out (by rw [← HK.out]; exact hMk)] at hk6
    replace b6 := ext_trans b5 b6
    clear hMr r24 b5
    go_wp2_with fail
    refine hk6.mono ?_
    rintro e w7 ⟨s7, k7, c7, p7, E7, rfl, b7, h7⟩
    rcases h7 with ⟨_, _, _, _, ht, _⟩ | ⟨_, _, _, _, _, _, _, ht, _⟩ | ⟨rfl, rfl, rfl, rfl, rfl, _⟩
    · simp at ht
    · simp at ht
    replace r5 := r5.below b7
    replace b7 := ext_trans b6 b7
    have hsm := sameRing_any s5 a k5 n c5 c qs ps w7 r5 (hr.below b7) true (by simp [HT.out])
    clear hk6 b6
    go_wp2_with fail
    refine hsm.mono ?_
    rintro e w8 ⟨rfl, b8⟩
    replace b8 := ext_trans b7 b8
    go_wp2_with fail
    go_ret
    exact ⟨rfl, b8⟩
  · simp only [Option.some.injEq, Prod.mk.injEq] at ht
    rw [← ht.1] at hm
    exact absurd (HM.out.symm.trans hm) (by simp)
  · simp at ht
end Go.Proofs.Ytfofnealkfgjfaa
