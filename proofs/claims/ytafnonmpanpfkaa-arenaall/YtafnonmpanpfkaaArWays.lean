/- The ways of a round: the two arenas, and some blocks that are kept. -/
import Derived.Test.YtafnonmpanpfkaaArRun
namespace Go.Proofs.Ytafnonmpanpfkaa
open Go.RowKit
set_option maxRecDepth 100000
set_option linter.unusedVariables false

/-- The first arena says Ta, the second ls; the blocks of K are none of theirs, and are as they were in wk. -/
def R2 (w0 wk w : World) (K : Nat → Prop) (pa pr : Nat) (v : Int) (Ta : Tx) (Na : Nat) (T : Tx) (ls : List (Int × List Int)) : Prop := ∃ Sa Sr, Ar w Sa pa v Ta Na ∧ Lst T ls ∧ RM w Sr pr v (ls.map Prod.fst) (ls.map Prod.snd) ∧ (∀ b, Sa b → ¬ Sr b) ∧ (∀ b, Sa b → w0.heap.size ≤ b) ∧ (∀ b, Sr b → w0.heap.size ≤ b) ∧ Below w0.heap.size w0 w ∧
  ∀ b, K b → ¬ Sa b ∧ ¬ Sr b ∧ w0.heap.size ≤ b ∧ b < w.heap.size ∧ w.heap[b]? = wk.heap[b]?
theorem Tou.under {S : Nat → Prop} {w0 w w' : World} (h : Below w0.heap.size w0 w) (t : Tou S w w') (hs : ∀ b, S b → w0.heap.size ≤ b) : Below w0.heap.size w0 w' :=
  ⟨t.os.trans h.os, t.tape.trans h.tape, t.output.trans h.output, Nat.le_trans h.size t.size, fun b hb => (t.block b (Nat.lt_of_lt_of_le hb h.size) (fun hc => by have := hs b hc; omega)).trans (h.block b hb)⟩
section
variable {w0 wr wk w w' : World} {K : Nat → Prop} {pa pr Na N : Nat} {v : Int} {Ta T : Tx} {ls : List (Int × List Int)}
theorem R2.start (h : St w0 wr pa pr v T ls N) (hb : Below wr.heap.size wr w) (hK : ∀ b, K b → wr.heap.size ≤ b ∧ b < w.heap.size) : R2 w0 w w K pa pr v T N T ls := by
  obtain ⟨Sa, Sr, h1, h2, h3, h4, h5, h6, h7⟩ := h
  exact ⟨Sa, Sr, h1.below hb, h2, h3.below hb, h4, h5, h6, h7.trans (hb.mono h7.size), fun b hk => ⟨fun c => by have := h1.lt b c; have := (hK b hk).1; omega, fun c => by have := h3.lt b c; have := (hK b hk).1; omega, Nat.le_trans h7.size (hK b hk).1, (hK b hk).2, rfl⟩⟩
theorem R2.fin (h : R2 w0 wk w K pa pr v T N T ls) : St w0 w pa pr v T ls N := by
  obtain ⟨Sa, Sr, h1, h2, h3, h4, h5, h6, h7, h8⟩ := h
  exact ⟨Sa, Sr, h1, h2, h3, h4, h5, h6, h7⟩
theorem R2.new (h : R2 w0 wk w K pa pr v Ta Na T ls) : Below w0.heap.size w0 w := by
  obtain ⟨Sa, Sr, h1, h2, h3, h4, h5, h6, h7, h8⟩ := h
  exact h7
theorem R2.kept (h : R2 w0 wk w K pa pr v Ta Na T ls) {b : Nat} (hb : K b) : w.heap[b]? = wk.heap[b]? := by
  obtain ⟨Sa, Sr, h1, h2, h3, h4, h5, h6, h7, h8⟩ := h
  exact (h8 b hb).2.2.2.2
theorem R2.below (h : R2 w0 wk w K pa pr v Ta Na T ls) (hb : Below w.heap.size w w') : R2 w0 wk w' K pa pr v Ta Na T ls := by
  obtain ⟨Sa, Sr, h1, h2, h3, h4, h5, h6, h7, h8⟩ := h
  exact ⟨Sa, Sr, h1.below hb, h2, h3.below hb, h4, h5, h6, h7.trans (hb.mono h7.size), fun b hk => by
    obtain ⟨a1, a2, a3, a4, a5⟩ := h8 b hk
    exact ⟨a1, a2, a3, Nat.lt_of_lt_of_le a4 hb.size, (hb.block b a4).trans a5⟩⟩
/-- One kept block is written into. -/
theorem R2.spoil (h : R2 w0 wk w K pa pr v T N T ls) {g : Nat} (hg : K g) (hw : w.grownBy w' (some g)) : St w0 w' pa pr v T ls N := by
  obtain ⟨Sa, Sr, h1, h2, h3, h4, h5, h6, h7, h8⟩ := h
  obtain ⟨a1, a2, a3, a4, a5⟩ := h8 g hg
  have t : Tou (fun b => b = g) w w' := Tou.grown hw (fun z hz => (Option.some.inj hz).symm)
  exact ⟨Sa, Sr, h1.other t (fun b hb hc => a1 (hc ▸ hb)), h2, h3.other t (fun b hb hc => a2 (hc ▸ hb)), h4, h5, h6, t.under h7 (fun b hb => by rw [hb]; exact a3)⟩
theorem R2.putA_no (h : R2 w0 wk w K pa pr v Ta Na T ls) (i : Int) {a : Option Addr} {n c : Nat} {xs : List Int} (hr : Row w a n c xs) (hx : xs.head? ≠ some v) :
    Calls Try.prog 9 #[.pointer (some ⟨pa, 0, none⟩), .int .u64 i, .slice a n c] w fun e w' => e = .returned (.int .i64 1) ∧ R2 w0 wk w' K pa pr v Ta Na T ls := by
  have h0 := h
  obtain ⟨Sa, Sr, h1, h2, h3, h4, h5, h6, h7, h8⟩ := h
  refine (put_no h1 i hr hx).mono ?_
  rintro e w1 ⟨rfl, b1⟩
  exact ⟨rfl, h0.below b1⟩
theorem R2.putR_no (h : R2 w0 wk w K pa pr v Ta Na T ls) (i : Int) {a : Option Addr} {n c : Nat} {xs : List Int} (hr : Row w a n c xs) (hx : xs.head? ≠ some v) :
    Calls Try.prog 10 #[.pointer (some ⟨pr, 0, none⟩), .int .u64 i, .slice a n c] w fun e w' => e = .returned (.int .i64 1) ∧ R2 w0 wk w' K pa pr v Ta Na T ls := by
  have h0 := h
  obtain ⟨Sa, Sr, h1, h2, h3, h4, h5, h6, h7, h8⟩ := h
  refine (refPut_no h3 i hr hx).mono ?_
  rintro e w1 ⟨rfl, b1⟩
  exact ⟨rfl, h0.below b1⟩
theorem R2.putA (h : R2 w0 wk w K pa pr v Ta Na T ls) (hN : Na ≤ 274877906944) (i : Int) (hi : U i) {a : Option Addr} {n c : Nat} {xs : List Int} (hr : Row w a n c xs) (hx : Rec v xs) (ha : ∀ y, a = some y → K y.block ∨ y.block < w0.heap.size) :
    Calls Try.prog 9 #[.pointer (some ⟨pa, 0, none⟩), .int .u64 i, .slice a n c] w fun e w' => e = .returned (.int .i64 0) ∧ R2 w0 wk w' K pa pr v (upT Ta i (some xs)) (Na + 2) T ls := by
  obtain ⟨Sa, Sr, h1, h2, h3, h4, h5, h6, h7, h8⟩ := h
  refine (put_ok h1 hN i hi hr hx (fun y hy hc => (ha y hy).elim (fun hk => (h8 _ hk).1 hc) (fun hk => by have := h5 _ hc; omega))).mono ?_
  rintro e w1 ⟨rfl, hA, t⟩
  refine ⟨rfl, _, Sr, hA, h2, h3.other t (fun b hb hc => h4 b hc hb), fun b hb hc => hb.elim (fun hb => h4 b hb hc) (fun hb => by have := h3.lt b hc; omega), fun b hb => hb.elim (h5 b) (fun hb => Nat.le_trans h7.size hb.1), h6, t.under h7 h5, fun b hk => ?_⟩
  obtain ⟨a1, a2, a3, a4, a5⟩ := h8 b hk
  exact ⟨fun hc => hc.elim a1 (fun hc => by omega), a2, a3, Nat.lt_of_lt_of_le a4 t.size, (t.block b a4 a1).trans a5⟩
theorem R2.putR (h : R2 w0 wk w K pa pr v Ta Na T ls) (hl : ls.length ≤ 1099511627776) (i : Int) (hi : U i) {a : Option Addr} {n c : Nat} {xs : List Int} (hr : Row w a n c xs) (hx : Rec v xs) (ha : ∀ y, a = some y → K y.block ∨ y.block < w0.heap.size) :
    Calls Try.prog 10 #[.pointer (some ⟨pr, 0, none⟩), .int .u64 i, .slice a n c] w fun e w' => e = .returned (.int .i64 0) ∧ ∃ ls', R2 w0 wk w' K pa pr v Ta Na (upT T i (some xs)) ls' ∧ ls'.length ≤ ls.length + 1 := by
  obtain ⟨Sa, Sr, h1, h2, h3, h4, h5, h6, h7, h8⟩ := h
  refine (refPut_ok h3 (by simp) (by simpa using hl) i hi hr hx (fun y hy hc => (ha y hy).elim (fun hk => (h8 _ hk).2.1 hc) (fun hk => by have := h6 _ hc; omega))).mono ?_
  rintro e w1 ⟨rfl, t, k, hk, hlo, hhi, hcase⟩
  have hrest : ∀ ls', RM w1 (gr Sr w w1) pr v (ls'.map Prod.fst) (ls'.map Prod.snd) → Lst (upT T i (some xs)) ls' → R2 w0 wk w1 K pa pr v Ta Na (upT T i (some xs)) ls' := fun ls' hR hL => by
    refine ⟨Sa, _, h1.other t h4, hL, hR, fun b hb hc => hc.elim (h4 b hb) (fun hc => by have := h1.lt b hb; omega), h5, fun b hb => hb.elim (h6 b) (fun hb => Nat.le_trans h7.size hb.1), t.under h7 h6, fun b hk => ?_⟩
    obtain ⟨a1, a2, a3, a4, a5⟩ := h8 b hk
    exact ⟨a1, fun hc => hc.elim a2 (fun hc => by omega), a3, Nat.lt_of_lt_of_le a4 t.size, (t.block b a4 a2).trans a5⟩
  rcases hcase with ⟨hki, hR⟩ | ⟨hki, hR⟩
  · obtain ⟨l1, l2, l3⟩ := h2.set xs hki
    refine ⟨rfl, _, hrest _ ?_ l1, by simp⟩
    rw [l2, l3]
    exact hR
  · refine ⟨rfl, _, hrest (ls.take k ++ (i, xs) :: ls.drop k) ?_ (h2.put xs hlo hhi hki), ?_⟩
    · rw [List.map_append, List.map_append, List.map_cons, List.map_cons, List.map_take, List.map_take, List.map_drop, List.map_drop]
      exact hR
    · simp
      omega
theorem R2.dropA_no (h : R2 w0 wk w K pa pr v Ta Na T ls) (hN : Na ≤ 1099511627776) {i : Int} (hT : Ta i = none) :
    Calls Try.prog 13 #[.pointer (some ⟨pa, 0, none⟩), .int .u64 i] w fun e w' => e = .returned (.int .i64 7) ∧ R2 w0 wk w' K pa pr v Ta Na T ls := by
  have h0 := h
  obtain ⟨Sa, Sr, h1, h2, h3, h4, h5, h6, h7, h8⟩ := h
  refine (drop_none h1 hN hT).mono ?_
  rintro e w1 ⟨rfl, b1⟩
  exact ⟨rfl, h0.below b1⟩
theorem R2.dropA (h : R2 w0 wk w K pa pr v Ta Na T ls) (hN : Na ≤ 34359738368) {i : Int} {ys : List Int} (hT : Ta i = some ys) :
    Calls Try.prog 13 #[.pointer (some ⟨pa, 0, none⟩), .int .u64 i] w fun e w' => e = .returned (.int .i64 0) ∧ R2 w0 wk w' K pa pr v (upT Ta i none) (Na + 2) T ls := by
  obtain ⟨Sa, Sr, h1, h2, h3, h4, h5, h6, h7, h8⟩ := h
  refine (drop_ok h1 hN hT).mono ?_
  rintro e w1 ⟨rfl, hA, t⟩
  refine ⟨rfl, _, Sr, hA, h2, h3.other t (fun b hb hc => h4 b hc hb), fun b hb hc => hb.elim (fun hb => h4 b hb hc) (fun hb => by have := h3.lt b hc; omega), fun b hb => hb.elim (h5 b) (fun hb => Nat.le_trans h7.size hb.1), h6, t.under h7 h5, fun b hk => ?_⟩
  obtain ⟨a1, a2, a3, a4, a5⟩ := h8 b hk
  exact ⟨fun hc => hc.elim a1 (fun hc => by omega), a2, a3, Nat.lt_of_lt_of_le a4 t.size, (t.block b a4 a1).trans a5⟩
theorem R2.dropR_no (h : R2 w0 wk w K pa pr v Ta Na T ls) (hl : ls.length ≤ 1099511627776) {i : Int} (hT : T i = none) :
    Calls Try.prog 14 #[.pointer (some ⟨pr, 0, none⟩), .int .u64 i] w fun e w' => e = .returned (.int .i64 7) ∧ R2 w0 wk w' K pa pr v Ta Na T ls := by
  have h0 := h
  obtain ⟨Sa, Sr, h1, h2, h3, h4, h5, h6, h7, h8⟩ := h
  refine (refDrop_none h3 (by simpa using hl) i (fun k hk => ?_)).mono ?_
  · obtain ⟨xs, hx⟩ := fst_at.1 hk
    have := (h2.mem i xs).1 (List.mem_of_getElem? hx)
    rw [hT] at this
    cases this
  rintro e w1 ⟨rfl, b1⟩
  exact ⟨rfl, h0.below b1⟩
theorem R2.dropR (h : R2 w0 wk w K pa pr v Ta Na T ls) (hl : ls.length ≤ 1099511627776) {i : Int} {ys : List Int} (hT : T i = some ys) :
    Calls Try.prog 14 #[.pointer (some ⟨pr, 0, none⟩), .int .u64 i] w fun e w' => e = .returned (.int .i64 0) ∧ ∃ ls', R2 w0 wk w' K pa pr v Ta Na (upT T i none) ls' ∧ ls'.length ≤ ls.length := by
  obtain ⟨Sa, Sr, h1, h2, h3, h4, h5, h6, h7, h8⟩ := h
  obtain ⟨k0, hk0⟩ := List.mem_iff_getElem?.1 ((h2.mem i ys).2 hT)
  refine (refDrop_ok h3 (by simp) (by simpa using hl) i k0 (fst_at.2 ⟨ys, hk0⟩) (by rw [List.pairwise_map]; exact h2.up)).mono ?_
  rintro e w1 ⟨rfl, t, k, hk, hR⟩
  refine ⟨rfl, ls.take k ++ ls.drop (k + 1), ⟨Sa, gr Sr w w1, h1.other t h4, h2.drop hk, ?_, fun b hb hc => hc.elim (h4 b hb) (fun hc => by have := h1.lt b hb; omega), h5, fun b hb => hb.elim (h6 b) (fun hb => Nat.le_trans h7.size hb.1), t.under h7 h6, fun b hk => ?_⟩, ?_⟩
  · rw [List.map_append, List.map_append, List.map_take, List.map_take, List.map_drop, List.map_drop]
    exact hR
  · obtain ⟨a1, a2, a3, a4, a5⟩ := h8 b hk
    exact ⟨a1, fun hc => hc.elim a2 (fun hc => by omega), a3, Nat.lt_of_lt_of_le a4 t.size, (t.block b a4 a2).trans a5⟩
  · simp
    omega
/-- A copy beside the arena that it was made of: the old one says To; the blocks of K are as they were in wk. -/
def R3 (w0 wk w : World) (K : Nat → Prop) (po pc pr : Nat) (v : Int) (To : Tx) (No : Nat) (T : Tx) (ls : List (Int × List Int)) (N : Nat) : Prop := ∃ So Sc Sr, Ar w So po v To No ∧ Ar w Sc pc v T N ∧ Lst T ls ∧ RM w Sr pr v (ls.map Prod.fst) (ls.map Prod.snd) ∧ (∀ b, So b → ¬ Sc b ∧ ¬ Sr b) ∧ (∀ b, Sc b → ¬ Sr b) ∧ (∀ b, So b → w0.heap.size ≤ b) ∧ (∀ b, Sc b → w0.heap.size ≤ b) ∧ (∀ b, Sr b → w0.heap.size ≤ b) ∧ Below w0.heap.size w0 w ∧
  ∀ b, K b → ¬ So b ∧ b < w.heap.size ∧ w.heap[b]? = wk.heap[b]?
theorem R3.below {po pc : Nat} {To : Tx} {No : Nat} (h : R3 w0 wk w K po pc pr v To No T ls N) (hb : Below w.heap.size w w') : R3 w0 wk w' K po pc pr v To No T ls N := by
  obtain ⟨So, Sc, Sr, h1, h2, h3, h4, h5, h6, h7, h8, h9, h10, h11⟩ := h
  exact ⟨So, Sc, Sr, h1.below hb, h2.below hb, h3, h4.below hb, h5, h6, h7, h8, h9, h10.trans (hb.mono h10.size), fun b hk => ⟨(h11 b hk).1, Nat.lt_of_lt_of_le (h11 b hk).2.1 hb.size, (hb.block b (h11 b hk).2.1).trans (h11 b hk).2.2⟩⟩
theorem R3.fin {po pc : Nat} {To : Tx} {No : Nat} (h : R3 w0 wk w K po pc pr v To No T ls N) : St w0 w pc pr v T ls N ∧ ∀ b, K b → w.heap[b]? = wk.heap[b]? := by
  obtain ⟨So, Sc, Sr, h1, h2, h3, h4, h5, h6, h7, h8, h9, h10, h11⟩ := h
  exact ⟨⟨Sc, Sr, h2, h3, h4, h6, h8, h9, h10⟩, fun b hk => (h11 b hk).2.2⟩
theorem R3.copy (h : R2 w0 wk w K pa pr v T N T ls) (hN : N ≤ 34359738) :
    Calls Try.prog 15 #[.pointer (some ⟨pa, 0, none⟩)] w fun e w' => ∃ pc, e = .returned (.pointer (some ⟨pc, 0, none⟩)) ∧ R3 w0 wk w' K pa pc pr v T N T ls (2 * ls.length) := by
  obtain ⟨Sa, Sr, h1, h2, h3, h4, h5, h6, h7, h8⟩ := h
  refine (dup_any h1 hN h2).mono ?_
  rintro e w1 ⟨q, Sc, rfl, hC, hn, b1⟩
  exact ⟨q, rfl, Sa, Sc, Sr, h1.below b1, hC, h2, h3.below b1, fun b hb => ⟨fun hc => by have := h1.lt b hb; have := hn b hc; omega, h4 b hb⟩, fun b hb hc => by have := h3.lt b hc; have := hn b hb; omega, h5, fun b hb => Nat.le_trans h7.size (hn b hb), h6, h7.trans (b1.mono h7.size), fun b hk => ⟨(h8 b hk).1, Nat.lt_of_lt_of_le (h8 b hk).2.2.2.1 b1.size, (b1.block b (h8 b hk).2.2.2.1).trans (h8 b hk).2.2.2.2⟩⟩
theorem R3.turn {po pc : Nat} {To To' : Tx} {No No' : Nat} {So Sc Sr : Nat → Prop} (h1 : Ar w So po v To No) (h2 : Ar w Sc pc v T N) (h3 : Lst T ls) (h4 : RM w Sr pr v (ls.map Prod.fst) (ls.map Prod.snd)) (h5 : ∀ b, So b → ¬ Sc b ∧ ¬ Sr b) (h6 : ∀ b, Sc b → ¬ Sr b) (h7 : ∀ b, So b → w0.heap.size ≤ b) (h8 : ∀ b, Sc b → w0.heap.size ≤ b) (h9 : ∀ b, Sr b → w0.heap.size ≤ b) (h10 : Below w0.heap.size w0 w)
    (h11 : ∀ b, K b → ¬ So b ∧ b < w.heap.size ∧ w.heap[b]? = wk.heap[b]?) (hA : Ar w' (gr So w w') po v To' No') (t : Tou So w w') : R3 w0 wk w' K po pc pr v To' No' T ls N :=
  ⟨_, Sc, Sr, hA, h2.other t (fun b hb hc => (h5 b hc).1 hb), h3, h4.other t (fun b hb hc => (h5 b hc).2 hb), fun b hb => hb.elim (h5 b) (fun hb => ⟨fun hc => by have := h2.lt b hc; omega, fun hc => by have := h4.lt b hc; omega⟩), h6, fun b hb => hb.elim (h7 b) (fun hb => Nat.le_trans h10.size hb.1), h8, h9, t.under h10 h7, fun b hk => ⟨fun hc => hc.elim (h11 b hk).1 (fun hc => by have := (h11 b hk).2.1; omega), Nat.lt_of_lt_of_le (h11 b hk).2.1 t.size, (t.block b (h11 b hk).2.1 (h11 b hk).1).trans (h11 b hk).2.2⟩⟩
theorem R3.put {po pc : Nat} {To : Tx} {No : Nat} (h : R3 w0 wk w K po pc pr v To No T ls N) (hN : No ≤ 274877906944) (hv : 0 ≤ v ∧ v < 256) :
    Calls Try.prog 9 #[.pointer (some ⟨po, 0, none⟩), .int .u64 1, .slice (some ⟨w.heap.size, 0, none⟩) 3 3] (w.alloc (.cells #[.int .u8 v, .int .u8 7, .int .u8 7] 5)) fun e w' => e = .returned (.int .i64 0) ∧ ∃ To', R3 w0 wk w' K po pc pr v To' (No + 2) T ls N := by
  have hb := below_alloc w (.cells #[.int .u8 v, .int .u8 7, .int .u8 7] 5)
  have hr : Row (w.alloc (.cells #[.int .u8 v, .int .u8 7, .int .u8 7] 5)) (some ⟨w.heap.size, 0, none⟩) 3 3 [v, 7, 7] := row_lit w 5 [v, 7, 7] 3 rfl (by omega) (fun y hy => by simp at hy; rcases hy with rfl | rfl <;> omega)
  have hlt : ∀ So : Nat → Prop, Ar w So po v To No → ∀ b, So b → b < w.heap.size := fun So h => h.lt
  obtain ⟨So, Sc, Sr, h1, h2, h3, h4, h5, h6, h7, h8, h9, h10, h11⟩ := h
  have hl := hlt So h1
  refine (put_ok (h1.below hb) hN 1 (by unfold U; omega) hr ⟨rfl, by simp⟩ (fun y hy hS => by obtain rfl := Option.some.inj hy; exact absurd (hl _ hS) (Nat.lt_irrefl _))).mono ?_
  rintro e w1 ⟨rfl, hA, t⟩
  exact ⟨rfl, _, R3.turn (h1.below hb) (h2.below hb) h3 (h4.below hb) h5 h6 h7 h8 h9 (h10.trans (hb.mono h10.size)) (fun b hk => ⟨(h11 b hk).1, Nat.lt_of_lt_of_le (h11 b hk).2.1 hb.size, (hb.block b (h11 b hk).2.1).trans (h11 b hk).2.2⟩) hA t⟩
theorem R3.drop {po pc : Nat} {To : Tx} {No : Nat} (h : R3 w0 wk w K po pc pr v To No T ls N) (hN : No ≤ 34359738368) :
    Calls Try.prog 13 #[.pointer (some ⟨po, 0, none⟩), .int .u64 2] w fun e w' => ∃ c : Int, e = .returned (.int .i64 c) ∧ ∃ To' No', R3 w0 wk w' K po pc pr v To' No' T ls N := by
  have h0 := h
  obtain ⟨So, Sc, Sr, h1, h2, h3, h4, h5, h6, h7, h8, h9, h10, h11⟩ := h
  cases hT : To 2 with
  | none =>
    refine (drop_none h1 (by omega) hT).mono ?_
    rintro e w1 ⟨rfl, b1⟩
    exact ⟨7, rfl, _, _, h0.below b1⟩
  | some ys =>
    refine (drop_ok h1 hN hT).mono ?_
    rintro e w1 ⟨rfl, hA, t⟩
    exact ⟨0, rfl, _, _, R3.turn h1 h2 h3 h4 h5 h6 h7 h8 h9 h10 h11 hA t⟩
end
end Go.Proofs.Ytafnonmpanpfkaa
