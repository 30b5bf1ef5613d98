/- A record dropped, and got: contracts. -/
import Derived.Test.YtafnonmpanpfkaaArSweep
import Derived.Test.YtafnonmpanpfkaaArRetire
namespace Go.Proofs.Ytafnonmpanpfkaa
open Go.RowKit
set_option maxRecDepth 100000
set_option linter.unusedVariables false

section
variable {x : Am} {w w' : World} {S : Nat → Prop} {p : Nat}
theorem drop_nil (c : Int) (w : World) : Calls Try.prog 13 #[.pointer none, .int .u64 c] w fun e w' => e = .returned (.int .i64 1) ∧ w' = w := by
  go_enter Try.func13, Try.ntmps13
  go_wp2_with fail
  go_ret
  exact ⟨rfl, rfl⟩
theorem drop_none {v : Int} {T : Tx} {N : Nat} (h : Ar w S p v T N) (hN : N ≤ 1099511627776) {c : Int} (hT : T c = none) :
    Calls Try.prog 13 #[.pointer (some ⟨p, 0, none⟩), .int .u64 c] w fun e w' => e = .returned (.int .i64 7) ∧ Below w.heap.size w w' := by
  obtain ⟨x, h, hv, hi⟩ := h
  go_enter Try.func13, Try.ntmps13
  go_wp2_with fail
  refine (held_no h hi hN hT).mono ?_
  rintro e w1 ⟨rfl, b1⟩
  go_wp2_with fail
  go_ret
  exact ⟨rfl, b1⟩
set_option maxHeartbeats 1000000 in
theorem drop_ok {v : Int} {T : Tx} {N : Nat} (h : Ar w S p v T N) (hN : N ≤ 34359738368) {c : Int} {ys : List Int} (hT : T c = some ys) :
    Calls Try.prog 13 #[.pointer (some ⟨p, 0, none⟩), .int .u64 c] w fun e w' => e = .returned (.int .i64 0) ∧ Ar w' (gr S w w') p v (upT T c none) (N + 2) ∧ Tou S w w' := by
  obtain ⟨x, h, hv, hi⟩ := h
  obtain ⟨r0, hr0, rfl, hlv, _⟩ := (hi.say _ _).1 hT
  have hk := (hi.pl r0 hr0).1
  have hsn : x.sn ≤ 1099511627776 := by have := hi.bnd.2.1; omega
  have hfn : x.fn ≤ 1099511627776 := by have := hi.bnd.2.2.1; have := h.frs.1; omega
  have hgn : (x.Sl r0.pl).g ≤ 1099511627776 := by have := hi.bnd.2.2.2 r0.pl; omega
  have HL : Hid (r0.g = (x.Sl r0.pl).g) := hlv
  go_enter Try.func13, Try.ntmps13
  go_wp2_with fail
  refine (held_yes h hi (by omega) hr0 hlv).mono ?_
  rintro e w1 ⟨rfl, b1⟩
  clear hlv hT
  have h1 := h.below b1
  go_wp2_with fail
  refine (retire_any h1 hk hsn hfn hgn).mono ?_
  rintro e w2 ⟨fa, fc, rfl, hz, t2⟩
  have hi2 := hi.drop hr0 HL.out
  rw [HL.out] at hi2
  go_wp2_with fail
  refine (sweep_any hz hi2 (by omega)).mono ?_
  rintro e w3 ⟨rfl, z, hz3, t3, hv3, hi3⟩
  go_wp2_with fail
  go_ret
  have tB : Tou S w w2 := (Tou.of_below b1 S).more t2
  have t4 : Tou S w w3 := tB.trans t3 (fun q hq => hq.imp id (fun hq => by have := b1.size; omega))
  refine ⟨rfl, ⟨z, hz3.more (fun q hq => ?_) (fun q hq => ?_), hv3.trans hv, hi3.mono (by omega)⟩, t4⟩
  · have := b1.size
    have := t3.size
    have := t2.size
    exact gr_to (b := w2) (c := w2) (d := w3) (hq.imp (fun hq => hq.imp id (fun hq => ⟨by omega, hq.2⟩)) id) (by omega) (by omega) (Nat.le_refl _)
  · exact hq.elim (fun hq => Nat.lt_of_lt_of_le (h.lt q hq) t4.size) And.right
theorem get_nil (c : Int) (w : World) : Calls Try.prog 17 #[.pointer none, .int .u64 c] w fun e w' => e = .returned (.tuple #[.slice none 0 0, .int .i64 1]) ∧ w' = w := by
  go_enter Try.func17, Try.ntmps17
  go_wp2_with fail
  go_ret2
  exact ⟨rfl, rfl⟩
theorem get_none {v : Int} {T : Tx} {N : Nat} (h : Ar w S p v T N) (hN : N ≤ 1099511627776) {c : Int} (hT : T c = none) :
    Calls Try.prog 17 #[.pointer (some ⟨p, 0, none⟩), .int .u64 c] w fun e w' => e = .returned (.tuple #[.slice none 0 0, .int .i64 7]) ∧ Below w.heap.size w w' := by
  obtain ⟨x, h, hv, hi⟩ := h
  go_enter Try.func17, Try.ntmps17
  go_wp2_with fail
  refine (held_no h hi hN hT).mono ?_
  rintro e w1 ⟨rfl, b1⟩
  go_wp2_with fail
  go_ret2
  exact ⟨rfl, b1⟩
set_option maxHeartbeats 1000000 in
theorem get_ok {v : Int} {T : Tx} {N : Nat} (h : Ar w S p v T N) (hN : N ≤ 1099511627776) {c : Int} {ys : List Int} (hT : T c = some ys) :
    Calls Try.prog 17 #[.pointer (some ⟨p, 0, none⟩), .int .u64 c] w fun e w' => ∃ a n cap, e = .returned (.tuple #[.slice a n cap, .int .i64 0]) ∧ LeO w' w.heap.size ⟨a, n, cap, ys⟩ ∧ Below w.heap.size w w' := by
  obtain ⟨x, h, hv, hi⟩ := h
  obtain ⟨r0, hr0, rfl, hlv, rfl⟩ := (hi.say _ _).1 hT
  have hk := (hi.pl r0 hr0).1
  have hsn : x.sn ≤ 1099511627776 := by have := hi.bnd.2.1; omega
  have hrec := (hi.good _ _ hT).2
  go_enter Try.func17, Try.ntmps17
  go_wp2_with fail
  refine (held_yes h hi (by omega) hr0 hlv).mono ?_
  rintro e w1 ⟨rfl, b1⟩
  clear hlv hT
  have h1 := h.below b1
  obtain ⟨b', g, -, hg, _, c2, c3, fz⟩ := h1.slot hk
  have hrow := (h1.lets r0.pl).row
  have hln : (x.Sl r0.pl).xs.length = (x.Sl r0.pl).n := hrow.len
  go_wp2_with fail
  refine (at_any h1 hk hsn hg).mono ?_
  rintro e w2 ⟨rfl, rfl⟩
  go_wp2_with fail
  refine (cloneR_any _ _ _ _ _ hrow (by show (x.Sl r0.pl).n ≤ _; omega)).mono ?_
  rintro e w3 ⟨a', c', rfl, hle, b3⟩
  go_wp2_with fail
  go_ret2
  exact ⟨a', _, c', rfl, hle.mono b1.size, ext_trans b1 b3⟩
end
end Go.Proofs.Ytafnonmpanpfkaa
