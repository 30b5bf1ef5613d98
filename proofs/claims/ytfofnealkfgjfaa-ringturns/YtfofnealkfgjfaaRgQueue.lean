/- A list of letters that is cut at its head and appended to: it need not lie at its block's head. -/
import Derived.Test.YtfofnealkfgjfaaRings
import Derived.ArgAppend
namespace Go.Proofs.Ytfofnealkfgjfaa
open Go.RowKit
set_option maxRecDepth 100000
set_option linter.unusedVariables false

/-- nil, or in a block of the call's own from some place on; each letter the call's own. -/
def QuR (w : World) (B : Nat) (a : Option Addr) (n cap : Nat) (ps : List Le) : Prop :=
  ((a = none ∧ n = 0 ∧ cap = 0 ∧ ps = []) ∨ ∃ g off cur, a = some ⟨g, off, none⟩ ∧ B ≤ g ∧ w.heap[g]? = some (.cells cur 22 (0, 0)) ∧ ps.length = n ∧ n ≤ cap ∧ cap ≤ maxLen ∧ off + cap ≤ cur.size ∧ (cur.toList.drop off).take n = ps.map fun p => Value.slice p.a p.n p.c) ∧ ∀ p ∈ ps, LeO w B p
theorem flatRE (ps : List Le) : RE.flat ps = ps.map fun p => Value.slice p.a p.n p.c := by
  induction ps with
  | nil => rfl
  | cons p ps ih => simp [Enc.flat, RE] at ih ⊢; exact ih
theorem QuR.nil (w : World) (B : Nat) : QuR w B none 0 0 [] := ⟨.inl ⟨rfl, rfl, rfl, rfl⟩, fun _ h => by simp at h⟩
theorem QuR.of_own {w : World} {B n cap : Nat} {a : Option Addr} {ps : List Le} (h : OwnR w B a n cap ps) : QuR w B a n cap ps := by
  refine ⟨?_, h.2⟩
  rcases h.1.cases with h1 | ⟨g, cur, h1, h2, h3, h4, h5, h6, h7⟩
  · exact .inl h1
  · exact .inr ⟨g, 0, cur, h1, h2, h3, h.1.1, h4, h5, by simp [RE] at h6; omega, by rw [← flatRE, ← h7]; simp [RE]⟩
theorem QuR.below {w w' : World} {B n cap : Nat} {a : Option Addr} {ps : List Le} (h : QuR w B a n cap ps) (hb : Below w.heap.size w w') : QuR w' B a n cap ps := by
  refine ⟨?_, fun p hp => (h.2 p hp).below hb⟩
  rcases h.1 with h1 | ⟨g, off, cur, h1, h2, h3, h4⟩
  · exact .inl h1
  · exact .inr ⟨g, off, cur, h1, h2, (hb.block g (Array.getElem?_eq_some_iff.1 h3).1).trans h3, h4⟩
theorem QuR.lt {w : World} {B n cap : Nat} {a : Option Addr} {ps : List Le} (h : QuR w B a n cap ps) : ∀ g, (Value.slice a n cap).ownBlock = some g → B ≤ g ∧ g < w.heap.size := by
  intro g hg
  rcases h.1 with ⟨rfl, _⟩ | ⟨g', off, cur, rfl, h2, h3, _⟩
  · simp [Value.ownBlock] at hg
  · obtain rfl : g' = g := by simpa [Value.ownBlock] using hg
    exact ⟨h2, (Array.getElem?_eq_some_iff.1 h3).1⟩
theorem QuR.row {w : World} {B n cap : Nat} {a : Option Addr} {ps : List Le} (h : QuR w B a n cap ps) : RowR w a n cap ps := by
  refine ⟨?_, fun p hp => (h.2 p hp).row⟩
  rcases h.1 with ⟨rfl, rfl, rfl, rfl⟩ | ⟨g, off, cur, rfl, h2, h3, h4, h5, h6, h7, h8⟩
  · exact RowG.nil _ _
  · refine ⟨h4, h5, h6, RE.all _, fun h => by simp at h, fun _ => ⟨_, _, rfl⟩, fun ad had i p hi j v hv => ?_⟩
    obtain rfl := Option.some.inj had
    match j, hv with
    | j + 1, hv => simp [RE] at hv
    | 0, hv =>
      obtain rfl : Value.slice p.a p.n p.c = v := by simpa [RE] using hv
      have hil : i < n := by rw [← h4]; exact (List.getElem?_eq_some_iff.1 hi).1
      have hk : (ps.map fun p => Value.slice p.a p.n p.c)[i]? = some (Value.slice p.a p.n p.c) := by simp [hi]
      rw [← h8, List.getElem?_take_of_lt hil, List.getElem?_drop] at hk
      rw [add_pl, show off + (i * RE.k + 0) = off + i by simp [RE], cell_of_row w g (off + i) cur _ (0, 0) h3]
      simpa using hk
/-- Without its first letter. -/
theorem QuR.tail {w : World} {B n cap : Nat} {a : Option Addr} {p : Le} {ps : List Le} (h : QuR w B a (n + 1) cap (p :: ps)) : ∃ g off, a = some ⟨g, off, none⟩ ∧ (1 < cap → QuR w B (some ⟨g, off + 1, none⟩) n (cap - 1) ps) ∧ (cap = 1 → n = 0 ∧ QuR w B (some ⟨g, off, none⟩) 0 0 ps) := by
  rcases h.1 with ⟨_, h0, _⟩ | ⟨g, off, cur, rfl, h2, h3, h4, h5, h6, h7, h8⟩
  · omega
  have hl : ps.length = n := by simpa using h4
  refine ⟨g, off, rfl, fun hc => ⟨.inr ⟨g, off + 1, cur, rfl, h2, h3, hl, by omega, by omega, by omega, ?_⟩, fun q hq => h.2 q (by simp [hq])⟩, fun hc => ?_⟩
  · have := congrArg (List.drop 1) h8
    rw [List.drop_take, List.drop_drop] at this
    simpa using this
  · obtain rfl : n = 0 := by omega
    obtain rfl : ps = [] := List.eq_nil_of_length_eq_zero hl
    exact ⟨rfl, .inr ⟨g, off, cur, rfl, h2, h3, rfl, Nat.le_refl _, by omega, by omega, by simp⟩, fun _ h => by simp at h⟩

section
variable {ops : Array Oper} {rest : List Oper} {o : Oper} {a : Act} {Q : Exit → Act → World → Prop}
/-- 'append(s, x)' of such a list. -/
theorem wp_append_queue (w : World) (hgd : o.guard = none) (s x : Operand) (t : TypeId) (ho : o.op = .call { callee := .builtin .append, args := #[s, x], argTypes := #[t, t] })
    (ht : Try.prog.underlying t = some (.slice 22)) (B n cap : Nat) (so : Option Addr) (ps : List Le) (hs : a.eval s = .slice so n cap) (hq : QuR w B so n cap ps)
    (ad : Addr) (c : Nat) (p : Le) (hx : a.eval x = .slice (some ad) 1 c) (hrow : RowG RE w (some ad) 1 c [p]) (hp : LeO w B p) (hbd : n + 1 ≤ 1000000) (hB : B ≤ w.heap.size)
    (h : ∀ so' cap' w', QuR w' B so' (n + 1) cap' (ps ++ [p]) → w.grownBy w' (Value.slice so n cap).ownBlock → wpList Try.prog ops Q rest (a.put o.dst (.slice so' (n + 1) cap')) w') : wpList Try.prog ops Q (o :: rest) a w := by
  rcases hq.1 with ⟨rfl, rfl, rfl, rfl⟩ | ⟨g, off, cur, rfl, h2, h3, h4, h5, h6, h7, h8⟩
  · exact wp_append_letter w hgd s x t ho ht B 0 0 none [] hs (OwnR.nil _ _) (some ad) c p hx hrow hp hbd hB w (Below.refl _ _) fun so' cap' w' h1 _ h3 => h so' cap' w' (QuR.of_own h1) h3
  · obtain ⟨i, hi, hz0, hz1, hz2⟩ := info_parts infoR
    have hlen : ∀ q ∈ ps ++ [p], LeO w B q := fun q hq' => by
      rcases List.mem_append.1 hq' with h0 | h0
      · exact hq.2 q h0
      · simp at h0; subst h0; exact hp
    have hnews : ∀ j u, ([Value.slice p.a p.n p.c])[j]? = some u → w.cell? (ad.add j) = some u := by
      have := hrow.news
      rwa [flatRE] at this
    refine wpList_append_arg w hgd s x t ho 22 i (.slice none 0 0) 1 24 ht hi hz0 hz1 hz2 rfl (by omega) g off n cap (ps.map fun p => Value.slice p.a p.n p.c) hs (by simp [h4])
      (fun j u hj => ?_) ad 1 c [.slice p.a p.n p.c] hx rfl hnews (by intro u hu; simp at hu; subst hu; rfl) (fun hr j hj => ?_) (by unfold maxLen; omega) (by omega) (fun hr => ?_) (fun hr v' w' ho' hg' => ?_)
    · rw [cell_of_row w g (off + j) cur _ (0, 0) h3]
      have hjl : j < n := by have := (List.getElem?_eq_some_iff.1 hj).1; simp at this; omega
      rw [← h8, List.getElem?_take_of_lt hjl, List.getElem?_drop] at hj
      simpa using hj
    · have hj0 : j = 0 := by simp at hj; omega
      subst hj0
      refine ⟨?_, by simp [World.frozen?, h3]⟩
      rw [cell_of_row w g _ cur _ (0, 0) h3]
      simp; omega
    · have hgr : w.grownBy (w.setCells g (off + n * 1) [.slice p.a p.n p.c]) (some g) :=
        ⟨rfl, rfl, rfl, by simp [World.setCells, World.setCell], fun k _ hn => Below.heap_setCell _ _ _ _ (fun e => hn (by rw [e]))⟩
      refine h _ cap _ ⟨.inr ⟨g, off, cur.setIfInBounds (off + n) (.slice p.a p.n p.c), rfl, h2, ?_, by simp [h4], hr, h6, by simp; omega, ?_⟩, fun q hq' => (hlen q hq').grown hgr h3⟩ hgr
      · have := heap_setCell_same w g (off + n) cur 22 (.slice p.a p.n p.c) h3
        simpa [World.setCells] using this
      · rw [Array.toList_setIfInBounds, List.drop_set, if_neg (by omega), show off + n - off = n by omega, List.take_add_one, List.take_set_of_le (Nat.le_refl _), h8, List.getElem?_set_self (by simp; omega)]
        simp
    · have hgo : w.grownBy w' (Value.slice (some ⟨g, off, none⟩) n cap).ownBlock := ⟨hg'.os, hg'.tape, hg'.output, hg'.size, fun k hk _ => hg'.block k hk (by simp)⟩
      rcases ho'.2 with ⟨_, h0⟩ | ⟨g', cap', cur', rfl, hB', hk, hn, hm, hs', ht'⟩
      · omega
      · refine h _ cap' w' ⟨.inr ⟨g', 0, cur', rfl, Nat.le_trans hB hB', hk, by simp [h4], hn, hm, by omega, ?_⟩, fun q hq' => (hlen q hq').grown_none hg'⟩ hgo
        rw [Nat.mul_one] at ht'
        simpa using ht'
end
/-- A list that lies above a block that is written into. -/
theorem OwnR.grown_q {w w' : World} {B n cap : Nat} {a : Option Addr} {ps : List Le} {r : Option Nat} (h : OwnR w B a n cap ps) (hg : w.grownBy w' r) (hr : ∀ g, r = some g → g < B) : OwnR w' B a n cap ps := by
  cases r with
  | some g => exact h.grown_lt hg (hr g rfl)
  | none => exact h.below (Below.grown (Below.refl _ w) hg (Nat.le_refl _) (by simp))
end Go.Proofs.Ytfofnealkfgjfaa
