/- A record put: contracts. -/
import Derived.Test.YtafnonmpanpfkaaArGive
import Derived.Test.YtafnonmpanpfkaaRgOps
namespace Go.Proofs.Ytafnonmpanpfkaa
open Go.RowKit
set_option maxRecDepth 100000
set_option linter.unusedVariables false

theorem Row.tou {w w' : World} {S : Nat → Prop} {a : Option Addr} {n cap : Nat} {xs : List Int} (h : Row w a n cap xs) (k : Tou S w w') (hd : ∀ y, a = some y → ¬ S y.block) : Row w' a n cap xs := by
  obtain ⟨h1, h2, h3, h4, h5, h6, h7⟩ := h
  refine ⟨h1, h2, h3, h4, h5, h6, fun x hx i hi => ?_⟩
  have hc := h7 x hx i hi
  have hl := lt_of_cell hc
  have hb := k.block _ hl (by have := hd x hx; by_cases h0 : i = 0 <;> simpa [Addr.add, h0] using this)
  rw [← hc]
  simp only [World.cell?]
  rw [hb]
theorem Rec.cons {v : Int} {xs : List Int} (h : Rec v xs) : ∃ r, xs = v :: r ∧ r.length ≤ 65534 := by
  obtain ⟨h1, h2⟩ := h
  cases xs with
  | nil => simp at h1
  | cons x r => simp at h1 h2; exact ⟨r, by rw [h1], by omega⟩
section
variable {x : Am} {w w' : World} {S : Nat → Prop} {p : Nat}
/-- A record is laid into a slot. -/
theorem Am.In.setRec (h : x.In w S p) {pl : Nat} (hp : pl < 32 * x.sn) {g : Nat} (hg : x.sl[pl / 32]? = some g) (b : Below w.heap.size w w') {a : Option Addr} {n c : Nat} {xs : List Int} (hle : LeO w' w.heap.size ⟨a, n, c, xs⟩) :
    { x with Sl := upS x.Sl pl ⟨(x.Sl pl).g, a, n, c, xs⟩ }.In (w'.setCell ⟨g, pl % 32 * 2 + 1, none⟩ (.slice a n c)) (gr S w (w'.setCell ⟨g, pl % 32 * 2 + 1, none⟩ (.slice a n c))) p ∧ Tou S w (w'.setCell ⟨g, pl % 32 * 2 + 1, none⟩ (.slice a n c)) := by
  have h1 := (h.below b).wide w
  have h2 := h1.setSlot hp hg 1 (by omega) (.slice a n c) ⟨(x.Sl pl).g, a, n, c, xs⟩ rfl (fun i hi hn => by obtain rfl : i = 0 := (by omega); rfl) (hle.mono (Nat.zero_le _)) (fun y hy => ?_)
  · refine ⟨h2.more (fun q hq => hq.imp id (fun hq => ⟨hq.1, by simpa [World.setCell] using hq.2⟩)) (fun q hq => ?_), (Tou.of_below b S).more (Tou.set S w' _ _ (h.sg g (List.mem_of_getElem? hg)))⟩
    have := b.size
    simp only [World.setCell, Array.size_modify]
    exact hq.elim (fun hq => Nat.lt_of_lt_of_le (h.lt q hq) b.size) (fun hq => by simpa [World.setCell] using hq.2)
  · rcases hle with ⟨e, _⟩ | ⟨g', e, ho⟩
    · simp only at e hy; rw [e] at hy; cases hy
    · simp only at e hy
      rw [e] at hy
      obtain rfl := Option.some.inj hy
      obtain ⟨cur, hcur, hB, _⟩ := Own.block ho
      exact .inr ⟨hB, by have := (Array.getElem?_eq_some_iff.1 hcur).1; simpa using this⟩
theorem put_nil (c : Int) (v : Value) (w : World) : Calls Try.prog 9 #[.pointer none, .int .u64 c, v] w fun e w' => e = .returned (.int .i64 1) ∧ Below w.heap.size w w' := by
  go_enter Try.func9, Try.ntmps9
  go_wp2_with fail
  go_quiet (fail)
  go_wp2
  go_ret
  exact ⟨rfl, bel_drawn w nq⟩
set_option maxHeartbeats 1000000 in
theorem put_no {v : Int} {T : Tx} {N : Nat} (h : Ar w S p v T N) (c : Int) {a : Option Addr} {n cap : Nat} {xs : List Int} (hr : Row w a n cap xs) (hx : xs.head? ≠ some v) :
    Calls Try.prog 9 #[.pointer (some ⟨p, 0, none⟩), .int .u64 c, .slice a n cap] w fun e w' => e = .returned (.int .i64 1) ∧ Below w.heap.size w w' := by
  obtain ⟨x, h, hv, hi⟩ := h
  have c0 := h.c0
  rw [hv] at c0
  have hl := hr.len
  have hcap := hr.cap_le
  cases xs with
  | nil =>
    obtain rfl : n = 0 := by simpa using hl.symm
    go_enter Try.func9, Try.ntmps9
    go_wp2_with fail
    go_quiet (fail)
    go_wp2
    go_ret
    exact ⟨rfl, bel_drawn w nq⟩
  | cons y r =>
    simp at hl
    obtain ⟨b, off, rfl, hc⟩ := hr.at (by omega)
    have c1 := hc 0 (by omega)
    simp at c1
    have h0 : ((n : Int) == 0) = false := by simp; omega
    have hne : (y != v) = true := by simp at hx; simp [hx]
    have h00 : (0 : Int) < (n : Int) := by omega
    go_enter Try.func9, Try.ntmps9
    go_wp2_with fail
    go_quiet (fail)
    go_wp2
    go_ret
    exact ⟨rfl, bel_drawn w nq⟩
set_option maxHeartbeats 2000000 in
theorem put_ok {v : Int} {T : Tx} {N : Nat} (h : Ar w S p v T N) (hN : N ≤ 274877906944) (c : Int) (hc : U c) {a : Option Addr} {n cap : Nat} {xs : List Int} (hr : Row w a n cap xs) (hx : Rec v xs) (hd : ∀ y, a = some y → ¬ S y.block) :
    Calls Try.prog 9 #[.pointer (some ⟨p, 0, none⟩), .int .u64 c, .slice a n cap] w fun e w' => e = .returned (.int .i64 0) ∧ Ar w' (gr S w w') p v (upT T c (some xs)) (N + 2) ∧ Tou S w w' := by
  obtain ⟨x, h, hv, hi⟩ := h
  have c0 := h.c0
  rw [hv] at c0
  have hl := hr.len
  have hcap := hr.cap_le
  obtain ⟨r, hxr, hrl⟩ := hx.cons
  have hn : n = r.length + 1 := by rw [← hl, hxr]; rfl
  obtain ⟨b, off, hab, hcs⟩ := hr.at (by omega)
  have c1 := hcs 0 (by omega)
  rw [hxr] at c1
  simp at c1
  have h0 : ((n : Int) == 0) = false := by simp; omega
  have hne : (v != v) = false := by simp
  have h00 : (0 : Int) < (n : Int) := by omega
  have hnb : n ≤ 140737488351232 := by omega
  have HX : Hid (Rec v xs) := hx
  have HR : Hid (∀ w', Tou S w w' → Row w' a n cap xs) := fun w' k => hr.tou k hd
  have HV : Hid (x.v = v) := hv
  have HN : Hid (n = r.length + 1) := hn
  have HXL : Hid (xs.length = n) := hl
  subst hab
  clear hx hr hd hcs hxr hn hrl hl hv
  go_enter Try.func9, Try.ntmps9
  go_wp2_with fail
  go_quiet (fail)
  have bq := bel_drawn w nq
  have hq := h.below bq
  by_cases hT : T c = none
  · go_wp2_with fail
    refine (held_no hq hi (by omega) hT).mono ?_
    rintro e w1 ⟨rfl, b1⟩
    have h1 := hq.below b1
    go_wp2_with fail
    refine (give_any h1 hi (by omega) c hc).mono ?_
    rintro e w2 ⟨k, z, rfl, hz, t2, e1, e2, i2, s1, s2, s3⟩
    have hk : k < 32 * z.sn := (i2.fre k (by simp)).1
    have hsn : z.sn ≤ 1099511627776 := by have := i2.bnd.2.1; omega
    obtain ⟨b', g, hb, hg, _, c2, c3, fz⟩ := hz.slot hk
    have tq : Tou S w w2 := (Tou.of_below (ext_trans bq b1) S).more t2
    go_wp2_with fail
    refine (at_any hz hk hsn hg).mono ?_
    rintro e w3 ⟨rfl, rfl⟩
    go_wp2_with fail
    refine (cloneR_any _ n cap xs _ (HR.out _ tq) hnb).mono ?_
    rintro e w4 ⟨a', c', rfl, hle, b4⟩
    have f1 := fz (k % 32 * 2 + 1)
    have c3' := (b4.cell (lt_of_cell c3)).trans c3
    have f1' : w4.frozen? ⟨g, k % 32 * 2 + 1, none⟩ = false := by
      have : w4.heap[g]? = w3.heap[g]? := b4.block g (lt_of_cell c3)
      simpa [World.frozen?, this] using f1
    obtain ⟨hz4, t4⟩ := hz.setRec hk hg b4 hle
    go_wp2_with fail
    go_ret
    have t5 := tq.trans t4 (fun q hq => hq.imp id (fun hq => by have := ext_trans bq b1 |>.size; omega))
    refine ⟨rfl, ⟨_, hz4.more (fun q hq => ?_) (fun q hq => ?_), e1.trans HV.out, ?_⟩, t5⟩
    · have hs4 := t4.size
      have hsq := (ext_trans bq b1).size
      exact gr_to (b := w3) (c := w3) (d := w4.setCell ⟨g, k % 32 * 2 + 1, none⟩ (.slice a' n c')) (hq.imp (fun hq => hq.imp id (fun hq => ⟨by omega, hq.2⟩)) id) (by have := tq.size; omega) (by omega) (by omega)
    · exact hq.elim (fun hq => Nat.lt_of_lt_of_le (h.lt q hq) t5.size) And.right
    · show Inv v (32 * z.sn) z.fr z.rf (upS z.Sl k ⟨(z.Sl k).g, a', n, c', xs⟩) (upT T c (some xs)) (N + 2)
      rw [e2]
      have hnd := i2.nd
      rw [List.nodup_append] at hnd
      have hfl := i2.bnd.2.2.1
      simp at hfl
      exact i2.put_new (ys := z.fr) (x := k) (fun y => by simp) hnd.1 (fun hc => hnd.2.2 k hc k (by simp) rfl) hT s1 s2 s3 (by omega) ⟨(x.Sl k).g, a', n, c', xs⟩ rfl HX.out
  · obtain ⟨ys, hys⟩ : ∃ ys, T c = some ys := Option.ne_none_iff_exists'.1 hT
    obtain ⟨r0, hr0, rfl, hlv, _⟩ := (hi.say _ _).1 hys
    have hk := (hi.pl r0 hr0).1
    have hsn : x.sn ≤ 1099511627776 := by have := hi.bnd.2.1; omega
    have HL : Hid (r0.g = (x.Sl r0.pl).g) := hlv
    go_wp2_with fail
    refine (held_yes hq hi (by omega) hr0 hlv).mono ?_
    rintro e w1 ⟨rfl, b1⟩
    clear hlv hys hT
    have h1 := hq.below b1
    obtain ⟨b', g, hb, hg, _, c2, c3, fz⟩ := h1.slot hk
    have tq : Tou S w w1 := Tou.of_below (ext_trans bq b1) S
    go_wp2_with fail
    refine (at_any h1 hk hsn hg).mono ?_
    rintro e w3 ⟨rfl, rfl⟩
    go_wp2_with fail
    refine (cloneR_any _ n cap xs _ (HR.out _ tq) hnb).mono ?_
    rintro e w4 ⟨a', c', rfl, hle, b4⟩
    have f1 := fz (r0.pl % 32 * 2 + 1)
    have c3' := (b4.cell (lt_of_cell c3)).trans c3
    have f1' : w4.frozen? ⟨g, r0.pl % 32 * 2 + 1, none⟩ = false := by
      have : w4.heap[g]? = w3.heap[g]? := b4.block g (lt_of_cell c3)
      simpa [World.frozen?, this] using f1
    obtain ⟨hz4, t4⟩ := h1.setRec hk hg b4 hle
    go_wp2_with fail
    go_ret
    have t5 := tq.trans t4 (fun q hq => .inl hq)
    refine ⟨rfl, ⟨_, hz4.more (fun q hq => ?_) (fun q hq => ?_), HV.out, ?_⟩, t5⟩
    · have := tq.size
      exact hq.imp id (fun hq => ⟨by omega, hq.2⟩)
    · exact hq.elim (fun hq => Nat.lt_of_lt_of_le (h.lt q hq) t5.size) And.right
    · exact (hi.put_old hr0 HL.out ⟨(x.Sl r0.pl).g, a', n, c', xs⟩ rfl HX.out).mono (by omega)
end
end Go.Proofs.Ytafnonmpanpfkaa
