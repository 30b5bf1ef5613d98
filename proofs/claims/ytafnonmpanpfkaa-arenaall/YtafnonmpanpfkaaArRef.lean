/- The document's arena: names and records in two lists: where it lies, and its at: contract. -/
import Derived.Test.YtafnonmpanpfkaaArEnc
import Derived.Test.YtafnonmpanpfkaaArBytes
import Derived.Test.YtafnonmpanpfkaaArSize
namespace Go.Proofs.Ytafnonmpanpfkaa
open Go.RowKit
set_option maxRecDepth 100000
set_option linter.unusedVariables false

/-- The document's arena at p: names ns, records ss. -/
def RM (w : World) (S : Nat → Prop) (p : Nat) (v : Int) (ns : List Int) (ss : List (List Int)) : Prop := ∃ ia ic sa sc, w.heap[p]? = some (.cells #[.int .u8 v, .slice ia ns.length ic, .slice sa ss.length sc] 30 (0, 0)) ∧
  OwnG EQ 31 w 0 ia ns.length ic ns ∧ OwnG ES 9 w 0 sa ss.length sc ss ∧ S p ∧ (∀ y, ia = some y → S y.block) ∧ (∀ y, sa = some y → S y.block) ∧ ∀ b, S b → b < w.heap.size
section
variable {w w' : World} {S : Nat → Prop} {p : Nat} {v : Int} {ns : List Int} {ss : List (List Int)}
theorem RM.kept (h : RM w S p v ns ss) (hb : ∀ b, S b → w'.heap[b]? = w.heap[b]?) (hs : w.heap.size ≤ w'.heap.size) : RM w' S p v ns ss := by
  obtain ⟨ia, ic, sa, sc, h1, h2, h3, h4, h5, h6, h7⟩ := h
  exact ⟨ia, ic, sa, sc, (hb p h4).trans h1, h2.kept fun y hy => hb _ (h5 y hy), h3.kept fun y hy => hb _ (h6 y hy), h4, h5, h6, fun b hb => Nat.lt_of_lt_of_le (h7 b hb) hs⟩
theorem RM.lt (h : RM w S p v ns ss) : ∀ b, S b → b < w.heap.size := by
  obtain ⟨ia, ic, sa, sc, h1, h2, h3, h4, h5, h6, h7⟩ := h
  exact h7
theorem RM.below (h : RM w S p v ns ss) (hb : Below w.heap.size w w') : RM w' S p v ns ss := h.kept (fun b hs => hb.block b (h.lt b hs)) hb.size
theorem RM.other {S2 : Nat → Prop} (h : RM w S p v ns ss) (k : Tou S2 w w') (hd : ∀ b, S b → ¬ S2 b) : RM w' S p v ns ss := h.kept (fun b hb => k.block b (h.lt b hb) (hd b hb)) k.size
theorem RM.more {S' : Nat → Prop} (h : RM w S p v ns ss) (hs : ∀ b, S b → S' b) (hl : ∀ b, S' b → b < w.heap.size) : RM w S' p v ns ss := by
  obtain ⟨ia, ic, sa, sc, h1, h2, h3, h4, h5, h6, h7⟩ := h
  exact ⟨ia, ic, sa, sc, h1, h2, h3, hs _ h4, fun y hy => hs _ (h5 y hy), fun y hy => hs _ (h6 y hy), hl⟩
theorem RM.outer {W0 W5 : World} (h : RM w' (gr (gr S W0 W5) W5 w') p v ns ss) (h0 : w.heap.size ≤ W0.heap.size) (h1 : W0.heap.size ≤ W5.heap.size) (h2 : W5.heap.size ≤ w'.heap.size) (hl : ∀ b, S b → b < w'.heap.size) : RM w' (gr S w w') p v ns ss :=
  h.more (fun b hb => hb.elim (fun hb => hb.imp id (fun hb => ⟨by omega, by omega⟩)) (fun hb => .inr ⟨by omega, hb.2⟩)) (fun b hb => hb.elim (hl b) And.right)
theorem own_at {α : Type} {E : Enc α} {e : TypeId} {B n cap : Nat} {a : Option Addr} {xs : List α} (h : OwnG E e w B a n cap xs) : ∀ y, a = some y → B ≤ y.block ∧ y.block < w.heap.size := by
  rcases h.cases with ⟨rfl, _⟩ | ⟨g, cur, rfl, hB, hg, _⟩
  · intro y hy; cases hy
  · intro y hy
    obtain rfl := Option.some.inj hy
    exact ⟨hB, (Array.getElem?_eq_some_iff.1 hg).1⟩
/-- Another list of names. -/
theorem RM.setIDs (h : RM w S p v ns ss) (b : Below w.heap.size w w') {a : Option Addr} {n cap : Nat} {ns' : List Int} (ho : OwnG EQ 31 w' w.heap.size a n cap ns') :
    RM (w'.setCell ⟨p, 1, none⟩ (.slice a n cap)) (gr S w (w'.setCell ⟨p, 1, none⟩ (.slice a n cap))) p v ns' ss ∧ Tou S w (w'.setCell ⟨p, 1, none⟩ (.slice a n cap)) := by
  obtain ⟨ia, ic, sa, sc, h1, h2, h3, h4, h5, h6, h7⟩ := h
  have hbx := (b.block p (h7 p h4)).trans h1
  have k2 := Far.set (w := w') ⟨p, 1, none⟩ (.slice a n cap) hbx
  have hsz := b.size
  have hlen := ho.1
  have t : Tou S w (w'.setCell ⟨p, 1, none⟩ (.slice a n cap)) := (Tou.of_below b S).more (Tou.set S _ _ _ h4)
  refine ⟨⟨a, cap, sa, sc, ?_, ?_, (h3.below b).far k2 (by decide), .inl h4, fun y hy => ?_, fun y hy => .inl (h6 y hy), fun q hq => hq.elim (fun hq => Nat.lt_of_lt_of_le (h7 q hq) t.size) And.right⟩, t⟩
  · rw [hlen]; simp [World.setCell, Array.getElem?_modify, hbx]
  · rw [hlen]; exact (ho.mono (Nat.zero_le _)).far k2 (by decide)
  · have := own_at ho y hy
    exact .inr ⟨this.1, by simpa [World.setCell] using this.2⟩
/-- Another list of records. -/
theorem RM.setRecs (h : RM w S p v ns ss) (b : Below w.heap.size w w') {a : Option Addr} {n cap : Nat} {ss' : List (List Int)} (ho : OwnG ES 9 w' w.heap.size a n cap ss') :
    RM (w'.setCell ⟨p, 2, none⟩ (.slice a n cap)) (gr S w (w'.setCell ⟨p, 2, none⟩ (.slice a n cap))) p v ns ss' ∧ Tou S w (w'.setCell ⟨p, 2, none⟩ (.slice a n cap)) := by
  obtain ⟨ia, ic, sa, sc, h1, h2, h3, h4, h5, h6, h7⟩ := h
  have hbx := (b.block p (h7 p h4)).trans h1
  have k2 := Far.set (w := w') ⟨p, 2, none⟩ (.slice a n cap) hbx
  have hsz := b.size
  have hlen := ho.1
  have t : Tou S w (w'.setCell ⟨p, 2, none⟩ (.slice a n cap)) := (Tou.of_below b S).more (Tou.set S _ _ _ h4)
  refine ⟨⟨ia, ic, a, cap, ?_, (h2.below b).far k2 (by decide), ?_, .inl h4, fun y hy => .inl (h5 y hy), fun y hy => ?_, fun q hq => hq.elim (fun hq => Nat.lt_of_lt_of_le (h7 q hq) t.size) And.right⟩, t⟩
  · rw [hlen]; simp [World.setCell, Array.getElem?_modify, hbx]
  · rw [hlen]; exact (ho.mono (Nat.zero_le _)).far k2 (by decide)
  · have := own_at ho y hy
    exact .inr ⟨this.1, by simpa [World.setCell] using this.2⟩
theorem RowG.from {α : Type} {E : Enc α} {a : Option Addr} {n cap : Nat} {xs : List α} (h : RowG E w a n cap xs) (hE : E.k = 1) (k : Nat) (hk : k ≤ n) : RowG E w (if cap = k then a else a.map (fun x => x.add k)) (n - k) (cap - k) (xs.drop k) := by
  have hc := h.cap_le
  cases a with
  | none =>
    obtain ⟨rfl, rfl⟩ := h.2.2.2.2.1 rfl
    obtain rfl : k = 0 := by omega
    have hx := h.empty rfl
    subst hx
    simpa using RowG.nil E w
  | some x =>
    by_cases h0 : n = 0
    · subst h0
      obtain rfl : k = 0 := by omega
      have hx := h.empty rfl
      subst hx
      split
      · exact RowG.none_of E w x _ (by omega)
      · exact RowG.none_of E w _ _ (by omega)
    · obtain ⟨b, off, e, _⟩ := h.at (by omega)
      obtain rfl := Option.some.inj e
      split
      · rename_i hck
        obtain rfl : n = k := by omega
        rw [Nat.sub_self, List.drop_of_length_le (by rw [h.1]; exact Nat.le_refl _)]
        exact RowG.none_of E w _ _ (by omega)
      · have := h.tail k hk
        rw [hE, Nat.mul_one] at this
        show RowG E w (some (Addr.add ⟨b, off, none⟩ k)) _ _ _
        rw [add_pl]
        exact this
theorem flatS (ss : List (List Int)) : ES.flat ss = ss.map fun x => .string (strOfNums x) := by
  induction ss with
  | nil => rfl
  | cons x ss ih =>
    have : ES.flat (x :: ss) = ES.cells x ++ ES.flat ss := by simp [Enc.flat]
    rw [this, ih]; rfl
/-- One record is another. -/
theorem RM.setRec (h : RM w S p v ns ss) {k : Nat} (hk : k < ss.length) (xs : List Int) (hx : Byt xs) : ∃ g sc, w.cell? ⟨p, 2, none⟩ = some (.slice (some ⟨g, 0, none⟩) ss.length sc) ∧ ss.length ≤ sc ∧ sc ≤ 9223372036854775807 ∧ (∃ old, w.cell? ⟨g, k, none⟩ = some (.string old)) ∧ w.frozen? ⟨g, k, none⟩ = false ∧
    RM (w.setCell ⟨g, k, none⟩ (.string (strOfNums xs))) S p v ns (ss.set k xs) ∧ Tou S w (w.setCell ⟨g, k, none⟩ (.string (strOfNums xs))) := by
  obtain ⟨ia, ic, sa, sc, h1, h2, h3, h4, h5, h6, h7⟩ := h
  have hcap := h3.row.cap_le
  rcases h3.cases with ⟨_, h0, _⟩ | ⟨g, cur, rfl, _, hg, hn, hm, hs, ht⟩
  · omega
  have hro := h3.row
  obtain ⟨y, hy⟩ := hro.get k hk
  have c := hro.str hy
  simp only [Nat.zero_add] at c
  have k2 := Far.set (w := w) ⟨g, k, none⟩ (.string (strOfNums xs)) hg
  replace hs : cur.size = sc := by simpa [ES] using hs
  replace ht : cur.toList.take ss.length = ES.flat ss := by simpa [ES] using ht
  refine ⟨g, sc, by simp [World.cell?, h1], hcap.1, hcap.2, ⟨_, c⟩, by simp [World.frozen?, hg], ⟨ia, ic, some ⟨g, 0, none⟩, sc, ?_, h2.far k2 (by decide), ?_, h4, h5, h6, fun b hb => by simpa [World.setCell] using h7 b hb⟩, Tou.set S _ _ _ (show S g from h6 ⟨g, 0, none⟩ rfl)⟩
  · rw [List.length_set]
    exact (k2.block h1 (by decide)).trans h1
  · rw [List.length_set]
    refine OwnG.of_cells (cur := cur.setIfInBounds k (.string (strOfNums xs))) (Nat.zero_le _) (by simp [World.setCell, Array.getElem?_modify, hg]) hn hm (by simpa [ES] using hs) (by simp) (fun q hq => ?_) ?_
    · rcases List.mem_or_eq_of_mem_set hq with hq | rfl
      · exact h3.2.1 q hq
      · exact hx
    · show (cur.setIfInBounds k (.string (strOfNums xs))).toList.take (ss.length * 1) = _
      rw [Nat.mul_one, Array.toList_setIfInBounds, List.take_set, ht, flatS, flatS, List.map_set]
set_option maxHeartbeats 2000000 in
theorem refAt_any (h : RM w S p v ns ss) (hbd : ns.length ≤ 1099511627776) (c : Int) :
    Calls Try.prog 25 #[.pointer (some ⟨p, 0, none⟩), .int .u64 c] w fun e w' => ∃ (k : Nat) (q : Bool), e = .returned (.tuple #[.int .i64 k, .bool q]) ∧ k ≤ ns.length ∧ (∀ t x, ns[t]? = some x → t < k → x < c) ∧ (∀ x, ns[k]? = some x → c ≤ x) ∧ (q = true ↔ ns[k]? = some c) ∧ Below w.heap.size w w' := by
  obtain ⟨ia, ic, sa, sc, h1, h2, h3, h4, h5, h6, h7⟩ := h
  have b1 : w.cell? ⟨p, 1, none⟩ = some (.slice ia ns.length ic) := by simp [World.cell?, h1]
  have hcap := h2.row.cap_le
  have hro := h2.row
  obtain ⟨n, hn⟩ : ∃ n, n = ns.length := ⟨_, rfl⟩
  rw [← hn] at b1 hcap hro hbd
  have HN : Hid (n = ns.length) := hn
  clear h1 h2 h3 h4 h5 h6 h7 hn
  go_enter Try.func25, Try.ntmps25
  go_wp2_with fail
  go_loopw [6] (fun s6 wr => ∃ k : Nat, k ≤ n ∧ s6 = .int .i64 k ∧ (∀ t x, ns[t]? = some x → t < k → x < c) ∧ wr = w) (fun s6 _ => n - (intOf s6).toNat)
  case atStart => exact ⟨0, by omega, rfl, fun t x _ h => by omega, rfl⟩
  case round =>
    obtain ⟨k, hk, rfl, hlo, rfl⟩ := hrel
    by_cases hlt : k < n
    · have q1 : (k : Int) < (n : Int) := by omega
      obtain ⟨b, off, rfl, _⟩ := hro.at (by omega)
      obtain ⟨X, hX⟩ := hro.get k hlt
      have c1 := hro.num hX
      have HX : Hid (ns[k]? = some X) := hX
      clear hX
      by_cases hXc : X < c
      · go_wp2_with fail
        go_roundw
        case rel =>
          refine ⟨k + 1, by omega, by go_num, fun t x hx ht => ?_, by first | rfl | trivial⟩
          by_cases e : t = k
          · subst e
            have := HX.out
            rw [hx] at this
            obtain rfl := Option.some.inj this
            exact hXc
          · exact hlo t x hx (by omega)
        case measure => simp [intOf]; omega
      · have q2 : decide (X < c) = false := by simpa using hXc
        by_cases he : X = c
        · subst he
          go_wp2_with fail
          go_quiet (fail)
          go_wp2
          go_ret2
          exact ⟨k, true, rfl, by have := HN.out; omega, hlo, fun x hx => by rw [HX.out] at hx; obtain rfl := Option.some.inj hx; exact Int.le_refl _, ⟨fun _ => HX.out, fun _ => rfl⟩, bel_drawn _ nq⟩
        · have q3 : (X == c) = false := by simpa using he
          go_wp2_with fail
          go_quiet (fail)
          go_wp2
          go_ret2
          refine ⟨k, false, rfl, by have := HN.out; omega, hlo, fun x hx => ?_, ⟨(fun h => by cases h), fun h => ?_⟩, bel_drawn _ nq⟩
          · have := HX.out
            rw [hx] at this
            obtain rfl := Option.some.inj this
            omega
          · rw [HX.out] at h
            exact absurd (Option.some.inj h) he
    · obtain rfl : k = n := by omega
      have q1 : decide ((k : Int) < (k : Int)) = false := by simp
      go_wp2_with fail
      go_quiet (fail)
      go_wp2
      go_ret2
      have hno : ns[k]? = none := List.getElem?_eq_none (by have := HN.out; omega)
      exact ⟨k, false, rfl, by have := HN.out; omega, hlo, (fun x hx => by rw [hno] at hx; cases hx), ⟨(fun h => by cases h), (fun h => by rw [hno] at h; cases h)⟩, bel_drawn _ nq⟩
end
end Go.Proofs.Ytafnonmpanpfkaa
