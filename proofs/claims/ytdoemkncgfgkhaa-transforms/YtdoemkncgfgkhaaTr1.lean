/- Labels of levels as labels of sets, plainly: the categories of each level, and back. What trans' appendIf answers, and a label of sets that a call builds in a variable of its own, two sets at once: contracts. What trans.Split answers: a contract. -/
import Derived.Test.YtdoemkncgfgkhaaBkMath
import Derived.Test.YtdoemkncgfgkhaaLabMay
import Derived.Test.YtdoemkncgfgkhaaLabOut
import Derived.OwnWalk
import Derived.ArgAppend
import Derived.Test.YtdoemkncgfgkhaaSvLaws
namespace Go.Proofs.Ytdoemkncgfgkhaa
open Go.RowKit
set_option maxRecDepth 100000

theorem stars_mem {v : Int} {ps : List (Int × Int)} (c : Int) : c ∈ starsL v ps ↔ (c, v) ∈ ps := by
  unfold starsL
  rw [List.mem_map]
  constructor
  · rintro ⟨⟨a, b⟩, hp, rfl⟩
    obtain ⟨h1, h2⟩ := List.mem_filter.1 hp
    have : b = v := by simpa using h2
    rwa [this] at h1
  · exact fun hp => ⟨(c, v), List.mem_filter.2 ⟨hp, by simp⟩, rfl⟩
theorem stars_srt (v : Int) {ps : List (Int × Int)} (h : UpL ps) : Srt (starsL v ps) := List.pairwise_map.2 (List.Pairwise.filter _ h)
theorem stars_cons (v : Int) (p : Int × Int) (ps : List (Int × Int)) : (starsL v (p :: ps)).length = (if p.2 = v then 1 else 0) + (starsL v ps).length := by
  unfold starsL
  by_cases h : p.2 = v
  · simp [h]; omega
  · simp [h]
theorem stars_len (ps : List (Int × Int)) : (starsL 4 ps).length + (starsL 1 ps).length + (starsL 0 ps).length ≤ ps.length := by
  induction ps with
  | nil => simp [starsL]
  | cons p ps ih =>
    rw [stars_cons, stars_cons, stars_cons, List.length_cons]
    by_cases h4 : p.2 = 4
    · rw [if_pos h4, if_neg (by omega), if_neg (by omega)]; omega
    · by_cases h1 : p.2 = 1
      · rw [if_neg h4, if_pos h1, if_neg (by omega)]; omega
      · rw [if_neg h4, if_neg h1]
        split <;> omega
theorem stars_apart {u v : Int} (hne : u ≠ v) {ps : List (Int × Int)} (h : UpL ps) : ∀ z, z ∈ starsL u ps → z ∉ starsL v ps := fun z hz hk => by
  have h1 := atL_mem 0 h ((stars_mem z).1 hz)
  have h2 := atL_mem 0 h ((stars_mem z).1 hk)
  exact hne (h1.symm.trans h2)
theorem stars_may {ps : List (Int × Int)} (h : UpL ps) (hl : ps.length ≤ 16) : MayP (starsL 4 ps) (starsL 1 ps) (starsL 0 ps) :=
  ⟨⟨stars_srt _ h, stars_srt _ h, stars_srt _ h⟩, ⟨stars_apart (by omega) h, stars_apart (by omega) h, stars_apart (by omega) h⟩, Nat.le_trans (stars_len ps) hl⟩
/-- A label that sets say is the label of its levels' sets. -/
theorem Bk.of {ps : List (Int × Int)} (h : CanL 2 ps) (hl : ∀ p ∈ ps, p.2 = 4 ∨ p.2 = 1 ∨ p.2 = 0) : Bk (starsL 4 ps) (starsL 1 ps) (starsL 0 ps) ps := by
  refine ⟨h, fun c => ?_⟩
  unfold lvl
  by_cases h0 : c ∈ starsL 0 ps
  · rw [if_pos h0]; exact atL_mem 2 h.1 ((stars_mem c).1 h0)
  · rw [if_neg h0]
    by_cases h1 : c ∈ starsL 1 ps
    · rw [if_pos h1]; exact atL_mem 2 h.1 ((stars_mem c).1 h1)
    · rw [if_neg h1]
      by_cases h4 : c ∈ starsL 4 ps
      · rw [if_pos h4]; exact atL_mem 2 h.1 ((stars_mem c).1 h4)
      · rw [if_neg h4]
        rcases atL_any 2 ps c with e | ⟨⟨a, b⟩, hp, rfl, _⟩
        · exact e
        · rcases hl _ hp with e | e | e
          · simp only at e; subst e; exact absurd ((stars_mem a).2 hp) h4
          · simp only at e; subst e; exact absurd ((stars_mem a).2 hp) h1
          · simp only at e; subst e; exact absurd ((stars_mem a).2 hp) h0
theorem Bk.uniq {A B C : List Int} {ps qs : List (Int × Int)} (h : Bk A B C ps) (k : Bk A B C qs) : ps = qs := can_ext h.can k.can fun c => (h.lv c).trans (k.lv c).symm
theorem lvl_four {A B C : List Int} (h : MayP A B C) {c : Int} : lvl A B C c = 4 ↔ c ∈ A := by
  refine ⟨fun e => ?_, lvl_in1 h⟩
  unfold lvl at e
  split at e
  · omega
  · split at e
    · omega
    · split at e
      · assumption
      · omega
theorem lvl_one {A B C : List Int} (h : MayP A B C) {c : Int} : lvl A B C c = 1 ↔ c ∈ B := by
  refine ⟨fun e => ?_, lvl_in2 h⟩
  unfold lvl at e
  split at e
  · omega
  · split at e
    · assumption
    · split at e <;> omega
/-- The levels' sets of the label of three sets are these. -/
theorem Bk.split {A B C : List Int} {ps : List (Int × Int)} (h : Bk A B C ps) (hm : MayP A B C) : starsL 4 ps = A ∧ starsL 1 ps = B ∧ starsL 0 ps = C :=
  ⟨srt_unique (stars_srt _ h.can.1) hm.1.1 fun c => (h.stars (by omega) c).trans (lvl_four hm), srt_unique (stars_srt _ h.can.1) hm.1.2.1 fun c => (h.stars (by omega) c).trans (lvl_one hm), srt_unique (stars_srt _ h.can.1) hm.1.2.2 fun c => (h.stars (by omega) c).trans lvl_zero⟩
theorem name_two {d : Int} {ps : List (Int × Int)} (h : nameB d ps = true) : d = 2 ∧ starsL 3 ps = [] := by
  unfold nameB at h
  simpa using h
theorem name_levels {d : Int} {ps : List (Int × Int)} (h : nameB d ps = true) (hm : mayB d ps = true) (hv : LvL d ps) : d = 2 ∧ CanL 2 ps ∧ ∀ p ∈ ps, p.2 = 4 ∨ p.2 = 1 ∨ p.2 = 0 := by
  obtain ⟨rfl, h3⟩ := name_two h
  obtain ⟨_, _, h4, h5⟩ := mayB_iff.1 hm
  refine ⟨rfl, ⟨h5, fun p hp => (h4 p hp).2⟩, fun p hp => ?_⟩
  have e1 := h4 p hp
  have e2 := hv.2 p hp
  have e3 : p.2 ≠ 3 := fun e => by
    have : p.1 ∈ starsL 3 ps := (stars_mem p.1).2 (by rw [← e]; exact hp)
    rw [h3] at this
    simp at this
  omega
theorem stars_app (v : Int) (ps qs : List (Int × Int)) : starsL v (ps ++ qs) = starsL v ps ++ starsL v qs := by simp [starsL]
end Go.Proofs.Ytdoemkncgfgkhaa

namespace Go.Proofs.Ytdoemkncgfgkhaa
open Go.RowKit
set_option maxRecDepth 100000

theorem infoU : (Try.prog.info? 38).map (fun i => (i.zero, i.size, i.bytes)) = some (some (.int .u16 0), 1, 2) := by kernel_rfl
theorem ownw_block {e : TypeId} {w : World} {B n cap : Nat} {so : Option Addr} {ys : List Int} (hown : OwnW e w B so n cap ys) : ∀ k, (Value.slice so n cap).ownBlock = some k → B ≤ k ∧ k < w.heap.size := by
  intro k hk
  rcases hown.cases with ⟨rfl, _⟩ | ⟨g, cur, rfl, hBg, hg, _⟩
  · simp [Value.ownBlock] at hk
  · obtain rfl : g = k := by simpa [Value.ownBlock] using hk
    exact ⟨hBg, (Array.getElem?_eq_some_iff.1 hg).1⟩
theorem OwnW.grownBy {e : TypeId} {w w' : World} {B n cap : Nat} {a : Option Addr} {xs : List Int} {r : Option Nat} (h : OwnW e w B a n cap xs) (hg : w.grownBy w' r) (hne : ∀ p, a = some p → r ≠ some p.block) : OwnW e w' B a n cap xs := by
  rcases h.cases with ⟨rfl, rfl, rfl, rfl⟩ | ⟨g, cur, rfl, hB, hk, hn, hm, hs, ht⟩
  · exact OwnW.of_nil _ _ _
  · exact OwnW.of_cells hB ((hg.block g (Array.getElem?_eq_some_iff.1 hk).1 (fun e => hne _ rfl e.symm)).trans hk) hn hm hs h.1 h.2.1 ht
/-- What is kept of a category. -/
def has (q : Bool) (c : Int) : List Int := if q = true then [c] else []
set_option maxHeartbeats 1000000 in
theorem tput_any (so : Option Addr) (n cap : Nat) (ys : List Int) (c : Int) (q : Bool) (hc : 0 ≤ c ∧ c < 65536) (w : World) (B : Nat) (hB : B ≤ w.heap.size) (hown : OwnW 38 w B so n cap ys) (hbd : n + 1 ≤ 1000000) :
    Calls Try.prog 40 #[.slice so n cap, .int .u16 c, .bool q] w fun e w' => ∃ so' k cap', e = .returned (.slice so' k cap') ∧ OwnW 38 w' B so' k cap' (ys ++ has q c) ∧ k ≤ n + 1 ∧ w.grownBy w' (Value.slice so n cap).ownBlock ∧ (so' = so ∨ ∀ p, so' = some p → w.heap.size ≤ p.block) := by
  cases q
  · go_enter Try.func40, Try.ntmps40
    go_wp2_with fail
    go_ret
    exact ⟨so, n, cap, rfl, by simpa [has] using hown, by omega, World.grownBy.refl _ _, .inl rfl⟩
  · obtain ⟨i, hi, hz0, hz1, hz2⟩ := info_parts infoU
    have hb := below_alloc w (.cells #[.int .u16 c] 38)
    have hrow := roww_lit w 38 [c] 1 rfl (by omega) (Wrd.one hc)
    have ho2 := hown.below hb
    have hlen := hown.1
    have hw2 : Wrd (ys ++ [c]) := hown.2.1.append (Wrd.one hc)
    by_cases hfit : n + 1 ≤ cap
    · obtain ⟨g, cur, rfl, _⟩ : ∃ (g : Nat) (cur : Array Value), so = some ⟨g, 0, none⟩ ∧ True := by
        rcases hown.cases with ⟨_, _, h0, _⟩ | ⟨g, cur, h, _⟩
        · omega
        · exact ⟨g, cur, h, trivial⟩
      go_enter Try.func40, Try.ntmps40
      go_wp2_with (at_builtin; refine wpList_append_fits _ rfl (.tmp 10) (.tmp 12) 25 rfl B 38 i 1 Try.underlying25 hi hz1 g n cap (ys.map (Value.int .u16)) rfl ho2.2.2 ⟨w.heap.size, 0, none⟩ 1 1 [.int .u16 c] rfl rfl hrow.news (words_one [c]) hfit ?_; intro w1 hown1 hgr1)
      go_ret
      refine ⟨some ⟨g, 0, none⟩, n + 1, cap, rfl, ⟨by simp [has, hlen], by simpa [has] using hw2, by simpa [has] using hown1⟩, Nat.le_refl _, ?_, .inl rfl⟩
      exact grown_trans (grown_of_below hb _) hgr1 (fun x hx => .inl (by simpa [Value.ownBlock] using hx))
    · have hr := hown.row
      have hz6 : (Value.int IntKind.u16 0).cells.size = 1 := rfl
      go_enter Try.func40, Try.ntmps40
      go_wp2_with (at_builtin; refine wpList_append_grows _ rfl (.tmp 10) (.tmp 12) 25 rfl 38 i (.int .u16 0) 1 2 Try.underlying25 hi hz0 hz1 hz2 hz6 (by decide) so n cap (ys.map (Value.int .u16)) rfl hr.2.2.2.2.1 (by simp [hlen]) (fun b hb' => by subst hb'; exact ho2.row.news) ⟨w.heap.size, 0, none⟩ 1 1 [.int .u16 c] rfl rfl hrow.news (words_one [c]) (by omega) (by unfold maxLen; omega) (by omega) ?_; intro v1 w1 hown1 hgr1)
      have hl2 : (ys ++ [c]).length = n + 1 := by simp [hlen]
      have h1' : w1.ownsRow (w.heap.size + 1) 38 1 v1 (n + 1) ((ys ++ [c]).map (Value.int .u16)) := by simpa using hown1
      rcases h1'.2 with ⟨_, h0⟩ | ⟨g, co, cur, rfl, hBg, r⟩
      · omega
      · go_ret
        refine ⟨some ⟨g, 0, none⟩, n + 1, co, rfl, OwnW.mono ⟨by simp [has, hlen], by simpa [has] using hw2, by simpa [has] using h1'⟩ (by omega), Nat.le_refl _, ?_, .inr fun p hp => by injection hp with hp; subst hp; simp only; omega⟩
        exact grown_trans (grown_of_below hb _) hgr1 (fun x hx => by simp at hx)
end Go.Proofs.Ytdoemkncgfgkhaa

namespace Go.Proofs.Ytdoemkncgfgkhaa
open Go.RowKit
set_option maxRecDepth 100000

/-- The variable at block G holds two sets of the call's own, apart, and none as its third; all made since W0; all else of W0 is as it was. -/
structure OutS (W0 : World) (G : Nat) (wr : World) (s1 : Option Addr) (n1 c1 : Nat) (l1 : List Int) (s2 : Option Addr) (n2 c2 : Nat) (l2 : List Int) : Prop where
  gr : W0.grownBy wr (some G)
  hp : wr.heap[G]? = some (.cells #[.slice s1 n1 c1, .slice s2 n2 c2, .slice none 0 0] 27 (0, 0))
  o1 : OwnW 38 wr W0.heap.size s1 n1 c1 l1
  o2 : OwnW 38 wr W0.heap.size s2 n2 c2 l2
  ap : ∀ p q, s1 = some p → s2 = some q → p.block ≠ q.block
  lt : G < W0.heap.size
section
variable {W0 : World} {G : Nat} {wr : World} {s1 : Option Addr} {n1 c1 : Nat} {l1 : List Int} {s2 : Option Addr} {n2 c2 : Nat} {l2 : List Int}
theorem OutS.init (h : W0.heap[G]? = some (.cells #[.slice none 0 0, .slice none 0 0, .slice none 0 0] 27 (0, 0))) : OutS W0 G W0 none 0 0 [] none 0 0 [] :=
  ⟨World.grownBy.refl _ _, h, OwnW.of_nil _ _ _, OwnW.of_nil _ _ _, fun p q hp _ => by simp at hp, (Array.getElem?_eq_some_iff.1 h).1⟩
theorem OutS.below {w' : World} (h : OutS W0 G wr s1 n1 c1 l1 s2 n2 c2 l2) (hb : Below wr.heap.size wr w') : OutS W0 G w' s1 n1 c1 l1 s2 n2 c2 l2 :=
  ⟨grown_trans h.gr (grown_of_below hb none) (fun x hx => by simp at hx), (hb.block G (Nat.lt_of_lt_of_le h.lt h.gr.size)).trans h.hp, h.o1.below hb, h.o2.below hb, h.ap, h.lt⟩
theorem OutS.cell (h : OutS W0 G wr s1 n1 c1 l1 s2 n2 c2 l2) {p : Addr} {v : Value} (hc : W0.cell? p = some v) (hne : p.block ≠ G) : wr.cell? p = some v := h.gr.cell hc (by simpa using hne)
theorem OutS.heap (h : OutS W0 G wr s1 n1 c1 l1 s2 n2 c2 l2) {i : Nat} {o : Obj} (hc : W0.heap[i]? = some o) (hne : i ≠ G) : wr.heap[i]? = some o := (h.gr.block i (Array.getElem?_eq_some_iff.1 hc).1 (by simpa using hne)).trans hc
theorem OutS.fz (h : OutS W0 G wr s1 n1 c1 l1 s2 n2 c2 l2) (i : Nat) : wr.frozen? ⟨G, i, none⟩ = false := frozen_of_row wr G i _ 27 h.hp
theorem OutS.k0 (h : OutS W0 G wr s1 n1 c1 l1 s2 n2 c2 l2) : wr.cell? ⟨G, 0, none⟩ = some (.slice s1 n1 c1) := cell_of_heap h.hp 0 _ rfl
theorem OutS.k1 (h : OutS W0 G wr s1 n1 c1 l1 s2 n2 c2 l2) : wr.cell? ⟨G, 1, none⟩ = some (.slice s2 n2 c2) := cell_of_heap h.hp 1 _ rfl
theorem OutS.k2 (h : OutS W0 G wr s1 n1 c1 l1 s2 n2 c2 l2) : wr.cell? ⟨G, 2, none⟩ = some (.slice none 0 0) := cell_of_heap h.hp 2 _ rfl
theorem OutS.row {α : Type} {E : Enc α} (h : OutS W0 G wr s1 n1 c1 l1 s2 n2 c2 l2) {a : Option Addr} {n c : Nat} {xs : List α} (hr : RowG E W0 a n c xs) (hne : ∀ x, a = some x → x.block ≠ G) : RowG E wr a n c xs :=
  hr.grown h.gr (fun x hx e => hne x hx (by simpa using e.symm))
theorem own_block_some {p : Addr} {n c : Nat} {e : TypeId} {w : World} {B : Nat} {l : List Int} (h : OwnW e w B (some p) n c l) : B ≤ p.block ∧ p.block < w.heap.size := by
  rcases h.cases with ⟨h0, _⟩ | ⟨g, cur, hp, hB, hg, _⟩
  · simp at h0
  · injection hp with hp; subst hp; exact ⟨hB, (Array.getElem?_eq_some_iff.1 hg).1⟩
/-- Behind a call that may have grown the first set: the variable still holds the old one. -/
theorem OutS.mid1 {w3 : World} (h : OutS W0 G wr s1 n1 c1 l1 s2 n2 c2 l2) (hg : wr.grownBy w3 (Value.slice s1 n1 c1).ownBlock) : w3.heap[G]? = some (.cells #[.slice s1 n1 c1, .slice s2 n2 c2, .slice none 0 0] 27 (0, 0)) :=
  (hg.block G (Nat.lt_of_lt_of_le h.lt h.gr.size) (fun e => by have := ownw_block h.o1 _ e.symm; have := h.lt; omega)).trans h.hp
theorem OutS.mid2 {w3 : World} (h : OutS W0 G wr s1 n1 c1 l1 s2 n2 c2 l2) (hg : wr.grownBy w3 (Value.slice s2 n2 c2).ownBlock) : w3.heap[G]? = some (.cells #[.slice s1 n1 c1, .slice s2 n2 c2, .slice none 0 0] 27 (0, 0)) :=
  (hg.block G (Nat.lt_of_lt_of_le h.lt h.gr.size) (fun e => by have := ownw_block h.o2 _ e.symm; have := h.lt; omega)).trans h.hp
theorem own_ne {e : TypeId} {w : World} {B n c : Nat} {s t : Option Addr} {l : List Int} (h : OwnW e w B s n c l) (hap : ∀ p q, s = some p → t = some q → p.block ≠ q.block) : ∀ q, t = some q → (Value.slice s n c).ownBlock ≠ some q.block := fun q hq e => by
  rcases h.cases with ⟨rfl, _⟩ | ⟨g, cur, rfl, _⟩
  · simp [Value.ownBlock] at e
  · exact hap _ _ rfl hq (by simpa [Value.ownBlock] using e)
theorem OutS.store1 {w3 : World} {s' : Option Addr} {n' c' : Nat} {l' : List Int} (h : OutS W0 G wr s1 n1 c1 l1 s2 n2 c2 l2) (hg : wr.grownBy w3 (Value.slice s1 n1 c1).ownBlock) (ho : OwnW 38 w3 W0.heap.size s' n' c' l') (hs : s' = s1 ∨ ∀ p, s' = some p → wr.heap.size ≤ p.block) :
    OutS W0 G (w3.setCell ⟨G, 0, none⟩ (.slice s' n' c')) s' n' c' l' s2 n2 c2 l2 := by
  have h1 := h.mid1 hg
  have hlt := h.lt
  have hse : w3.grownBy (w3.setCell ⟨G, 0, none⟩ (.slice s' n' c')) (some G) := ⟨rfl, rfl, rfl, by simp [World.setCell], fun k _ hk => Below.heap_setCell _ _ _ _ (fun e => hk (by rw [e]))⟩
  refine ⟨grown_trans (grown_trans h.gr hg (fun x hx => .inr (ownw_block h.o1 x hx).1)) hse (fun x hx => .inl hx), ?_, ho.grownBy hse (fun p hp e => ?_), (h.o2.grownBy hg (own_ne h.o1 h.ap)).grownBy hse (fun p hp e => ?_), fun p q hp hq => ?_, hlt⟩
  · rw [heap_setCell_same w3 G 0 _ 27 _ h1]; rfl
  · subst hp; have := own_block_some ho; have : G = p.block := (by simpa using e); omega
  · subst hp; have := own_block_some h.o2; have : G = p.block := (by simpa using e); omega
  · subst hq
    rcases hs with rfl | hs
    · exact h.ap p q hp rfl
    · have := hs p hp; have := own_block_some h.o2; omega
theorem OutS.store2 {w3 : World} {s' : Option Addr} {n' c' : Nat} {l' : List Int} (h : OutS W0 G wr s1 n1 c1 l1 s2 n2 c2 l2) (hg : wr.grownBy w3 (Value.slice s2 n2 c2).ownBlock) (ho : OwnW 38 w3 W0.heap.size s' n' c' l') (hs : s' = s2 ∨ ∀ p, s' = some p → wr.heap.size ≤ p.block) :
    OutS W0 G (w3.setCell ⟨G, 1, none⟩ (.slice s' n' c')) s1 n1 c1 l1 s' n' c' l' := by
  have h1 := h.mid2 hg
  have hlt := h.lt
  have hse : w3.grownBy (w3.setCell ⟨G, 1, none⟩ (.slice s' n' c')) (some G) := ⟨rfl, rfl, rfl, by simp [World.setCell], fun k _ hk => Below.heap_setCell _ _ _ _ (fun e => hk (by rw [e]))⟩
  refine ⟨grown_trans (grown_trans h.gr hg (fun x hx => .inr (ownw_block h.o2 x hx).1)) hse (fun x hx => .inl hx), ?_, (h.o1.grownBy hg (own_ne h.o2 fun p q hp hq => (h.ap q p hq hp).symm)).grownBy hse (fun p hp e => ?_), ho.grownBy hse (fun p hp e => ?_), fun p q hp hq => ?_, hlt⟩
  · rw [heap_setCell_same w3 G 1 _ 27 _ h1]; rfl
  · subst hp; have := own_block_some h.o1; have : G = p.block := (by simpa using e); omega
  · subst hp; have := own_block_some ho; have : G = p.block := (by simpa using e); omega
  · subst hp
    rcases hs with rfl | hs
    · exact h.ap p q rfl hq
    · have := hs q hq; have := own_block_some h.o1; omega
end
/-- What a point of a level says, held against the point of level 3 and against 1. -/
def PtP (Y : Int) (a b : Nat) : Prop := ((FloatKind.f64.format.order a 4602678819172646912 == some .eq) && (FloatKind.f64.format.order b 0 == some .eq)) = decide (Y = 3) ∧ (FloatKind.f64.format.order a 4607182418800017408 == some .eq) = decide (Y = 4) ∧ (FloatKind.f64.format.order b 4607182418800017408 == some .eq) = decide (Y = 1)
theorem pt_is : ∀ i : Fin 6, PtP (lev i) (rep i) (imp i) := by unfold PtP; decide +kernel
theorem point_is (Y : Int) (hY : 0 ≤ Y ∧ Y ≤ 5) (w : World) : Calls Try.prog 39 #[.int .u8 Y] w fun e w' => ∃ a b, e = .returned (.complex .f64 a b) ∧ Hid (PtP Y a b) ∧ w' = w := by
  obtain ⟨i, rfl⟩ := lev_of hY
  exact (point_lev i w).mono fun e w' ⟨h1, h2⟩ => ⟨rep i, imp i, h1, pt_is i, h2⟩
theorem point_half (w : World) : Calls Try.prog 39 #[.int .u8 3] w fun e w' => e = .returned (.complex .f64 4602678819172646912 0) ∧ w' = w := point_lev 3 w
/-- A call that hands back a label of sets by a variable of its own, and one more. -/
theorem ret_sv2 {fn : Func} {p u : Tmp} (h : fn.results = #[.cell p 27, .tmp u]) (tmps : Array Value) (w : World) (g : Nat) (x : Sv) (hp : tmps.getD p undef = .pointer (some ⟨g, 0, none⟩))
    (hg : w.heap[g]? = some (.cells #[.slice x.a1 x.n1 x.c1, .slice x.a2 x.n2 x.c2, .slice x.a3 x.n3 x.c3] 27 (0, 0))) : (results fn tmps).run Try.prog w = .ok (.tuple #[.agg #[.slice x.a1 x.n1 x.c1, .slice x.a2 x.n2 x.c2, .slice x.a3 x.n3 x.c3], tmps.getD u undef]) w := by
  have hp' : tmps[p]?.getD undef = .pointer (some ⟨g, 0, none⟩) := by simpa using hp
  simp [results, h, hp', asAddr, run_loadVar_row w g 27 27 _ (0, 0) _ hg Try.underlying27 rfl (by kernel_rfl)]
/-- What a label splits into. -/
def SpP (d : Int) (xs : List (Int × Int)) (r : Sv) (E : Int) : Prop := (nameB d xs = true ∧ E = 0 ∧ r.xs = starsL 4 xs ∧ r.ys = starsL 1 xs ∧ r.zs = starsL 0 xs) ∨ (nameB d xs = false ∧ E = 14 ∧ r = Sv.none)
theorem name_off {d : Int} {xs : List (Int × Int)} (h : d ≠ 2) : nameB d xs = false := by
  unfold nameB
  exact decide_eq_false fun e => h e.1
theorem name_three {xs : List (Int × Int)} {c : Int} (h : (c, 3) ∈ xs) (d : Int) : nameB d xs = false := by
  unfold nameB
  exact decide_eq_false fun e => by have := (stars_mem c).2 h; rw [e.2] at this; simp at this
theorem has_four {Y X : Int} : has (decide (Y = 4)) X = starsL 4 [(X, Y)] := by
  by_cases h : Y = 4 <;> simp [has, starsL, h]
theorem has_one {Y X : Int} : has (decide (Y = 1)) X = starsL 1 [(X, Y)] := by
  by_cases h : Y = 1 <;> simp [has, starsL, h]
set_option maxHeartbeats 8000000 in
theorem split_any (d : Int) (a : Option Addr) (n cap : Nat) (xs : List (Int × Int)) (w : World) (hl : Lb w d a n cap xs) :
    Calls Try.prog 12 #[.agg #[.int .u8 d, .slice a n cap]] w fun e w' => ∃ (r : Sv) (E : Int), e = .returned (.tuple #[.agg #[.slice r.a1 r.n1 r.c1, .slice r.a2 r.n2 r.c2, .slice r.a3 r.n3 r.c3], .int .i64 E]) ∧ r.In w' ∧ Hid (SpP d xs r E) ∧ Below w.heap.size w w' := by
  have hr := hl.row
  have hle := hl.le
  have HL : Hid (xs.length = n) := hr.len
  have HV : Hid (LvL d xs) := hl.lv
  clear hl
  by_cases hd : d = 2
  · subst hd
    go_enter Try.func12, Try.ntmps12
    go_wp2_with fail
    obtain ⟨W0, hW0⟩ : ∃ V, V = ((w.alloc (Obj.cells #[.int .u8 2, .slice a n cap] 24)).alloc (Obj.cells #[.slice none 0 0, .slice none 0 0, .slice none 0 0] 27)).alloc (Obj.cells #[.slice none 0 0, .slice none 0 0, .slice none 0 0] 27) := ⟨_, rfl⟩
    rw [← hW0]
    have hG : W0.heap[w.heap.size + 1 + 1]? = some (.cells #[.slice none 0 0, .slice none 0 0, .slice none 0 0] 27 (0, 0)) := by rw [hW0]; exact heap_new_at _ _ _ (by simp)
    have hbW : Below w.heap.size w W0 := hW0 ▸ ext_trans (two_allocs _ _ _) (below_alloc _ _)
    have hB0 : W0.heap[w.heap.size]? = some (.cells #[.int .u8 2, .slice a n cap] 24 (0, 0)) := by
      rw [hW0]
      exact ((two_allocs _ _ _).block _ (by simp)).trans (heap_new_at _ _ _ rfl)
    have hR0 : W0.heap[w.heap.size + 1]? = some (.cells #[.slice none 0 0, .slice none 0 0, .slice none 0 0] 27 (0, 0)) := by
      rw [hW0]
      exact ((below_alloc _ _).block _ (by simp)).trans (heap_new_at _ _ _ (by simp))
    have hsz0 : W0.heap.size = w.heap.size + 1 + 1 + 1 := by rw [hW0]; simp
    clear hW0
    go_loopw [15] (fun i wr => ∃ (j : Nat) (s1 : Option Addr) (n1 c1 : Nat) (s2 : Option Addr) (n2 c2 : Nat), j ≤ n ∧ i = .int .i64 j ∧ OutS W0 (w.heap.size + 1 + 1) wr s1 n1 c1 (starsL 4 (xs.take j)) s2 n2 c2 (starsL 1 (xs.take j)) ∧ (n1 ≤ j ∧ n2 ≤ j) ∧ starsL 3 (xs.take j) = []) (fun i _ => n - (intOf i).toNat)
    case atStart => exact ⟨0, none, 0, 0, none, 0, 0, by omega, rfl, by simpa [starsL] using OutS.init hG, by omega, by simp [starsL]⟩
    case round =>
      obtain ⟨j, s1, n1, c1, s2, n2, c2, hj, rfl, hout, hn12, h3⟩ := hrel
      have H3 : Hid (starsL 3 (xs.take j) = []) := h3
      clear h3
      have hsz := hout.gr.size
      have hbr : Below w.heap.size w wr := hbW.trans (below_of_grown hout.gr hbW.size (fun x hx => by injection hx with hx; omega))
      by_cases hlt : j < n
      · have hp : (j : Int) < (n : Int) := by omega
        obtain ⟨b, off, rfl, _⟩ := hr.at (by omega)
        obtain ⟨X, Y, hX, HXb⟩ := hr.get2 j hlt
        obtain ⟨t1, t2⟩ := (hr.below hbr).pair hX
        have hY : 0 ≤ Y ∧ Y ≤ 5 := HV.out.2 (X, Y) (List.mem_of_getElem? hX)
        have HX : Hid (xs[j]? = some (X, Y)) := hX
        clear hX
        go_wp2_with fail
        refine (point_is Y hY _).mono ?_
        rintro e w1 ⟨pa, pb, rfl, HP, rfl⟩
        go_wp2_with fail
        refine (point_half _).mono ?_
        rintro e w1 ⟨rfl, rfl⟩
        by_cases hY3 : Y = 3
        · subst hY3
          have p3 := HP.out.1
          rw [decide_eq_true rfl] at p3
          have o1 := hout.below (below_alloc wr (Obj.cells #[.int .u16 X, .int .u8 3] 40))
          have bR := o1.heap hR0 (by omega)
          have k0 := cell_of_heap bR 0 _ rfl
          have k1 := cell_of_heap bR 1 _ rfl
          have k2 := cell_of_heap bR 2 _ rfl
          have f0 := frozen_of_row _ _ 0 _ 27 bR
          have f1 := frozen_of_row _ _ 1 _ 27 bR
          have f2 := frozen_of_row _ _ 2 _ 27 bR
          go_wp2_with fail
          refine bodyPost_ret (ret_sv2 rfl _ _ (w.heap.size + 1) Sv.none rfl (put3_heap bR Sv.none)) rfl ?_
          refine ⟨Sv.none, 14, rfl, Sv.none_in _, .inr ⟨name_three (c := X) (List.mem_of_getElem? HX.out) 2, rfl, rfl⟩, put3_below (hbW.trans (below_of_grown o1.gr hbW.size (fun x hx => by injection hx with hx; omega))) (by omega) Sv.none⟩
        · have p3 := HP.out.1
          rw [decide_eq_false hY3] at p3
          have o1 := hout.below (below_alloc wr (Obj.cells #[.int .u16 X, .int .u8 Y] 40))
          have q0 := o1.k0
          go_wp2_with fail
          have hP : (wr.alloc (Obj.cells #[.int .u16 X, .int .u8 Y] 40)).cell? ⟨wr.heap.size, 0, none⟩ = some (.int .u16 X) := cell_of_heap (heap_new_at _ _ _ rfl) 0 _ rfl
          have hne1 : wr.heap.size ≠ w.heap.size + 1 + 1 := by omega
          have hne2 : w.heap.size + 1 + 1 ≠ wr.heap.size := by omega
          refine (tput_any s1 n1 c1 _ X _ HXb.1 _ W0.heap.size (by simp; omega) o1.o1 (by omega)).mono ?_
          rintro e w3 ⟨s1', n1', c1', rfl, ho1, hk1, hg1, hap1⟩
          have m1 := o1.mid1 hg1
          have k0 := cell_of_heap m1 0 _ rfl
          have k1 := cell_of_heap m1 1 _ rfl
          have f0 := frozen_of_row _ _ 0 _ 27 m1
          have hP3 : w3.cell? ⟨wr.heap.size, 0, none⟩ = some (.int .u16 X) := hg1.cell hP (fun e => by have := ownw_block hout.o1 _ e.symm; simp only at this; omega)
          go_wp2_with fail
          have o2 := o1.store1 hg1 ho1 hap1
          refine (tput_any s2 n2 c2 _ X _ HXb.1 _ W0.heap.size o2.gr.size o2.o2 (by omega)).mono ?_
          rintro e w5 ⟨s2', n2', c2', rfl, ho2, hk2, hg2, hap2⟩
          have m2 := o2.mid2 hg2
          have k3 := cell_of_heap m2 1 _ rfl
          have f3 := frozen_of_row _ _ 1 _ 27 m2
          go_wp2_with fail
          go_roundw
          case rel =>
            refine ⟨j + 1, s1', n1', c1', s2', n2', c2', by omega, by go_num, ?_, by omega, ?_⟩
            · rw [take_snoc HX.out, stars_app, stars_app, ← has_four, ← has_one, ← HP.out.2.1, ← HP.out.2.2]
              exact o2.store2 hg2 ho2 hap2
            · rw [take_snoc HX.out, stars_app, H3.out]
              simp [starsL, hY3]
          case measure => simp [intOf]; omega
      · obtain rfl : j = n := by omega
        have b0 := hout.heap hB0 (by omega)
        have c0 := cell_of_heap b0 0 _ rfl
        have c1' := cell_of_heap b0 1 _ rfl
        go_wp2_with fail
        refine (stars_any 2 a j cap xs wr (hr.below hbr) (by omega)).mono ?_
        rintro e w3 ⟨s3, n3, c3, rfl, ho3, hb3⟩
        have o3 := hout.below hb3
        have bR := o3.heap hR0 (by omega)
        have g0 := o3.k0
        have g1 := o3.k1
        have g2 := o3.k2
        have fg := o3.fz 2
        have k0 := cell_of_heap bR 0 _ rfl
        have k1 := cell_of_heap bR 1 _ rfl
        have k2 := cell_of_heap bR 2 _ rfl
        have f0 := frozen_of_row _ _ 0 _ 27 bR
        have f1 := frozen_of_row _ _ 1 _ 27 bR
        have f2 := frozen_of_row _ _ 2 _ 27 bR
        go_wp2_with fail
        have hlen := HL.out
        have hxs : xs.take j = xs := List.take_of_length_le (by omega)
        have bR' : (w3.setCell ⟨w.heap.size + 1 + 1, 2, none⟩ (.slice s3 n3 c3)).heap[w.heap.size + 1]? = _ := (heap_else (g := w.heap.size + 1 + 1) (v := .slice s3 n3 c3) bR (by omega))
        have hlt := ho3.mono (B' := W0.heap.size) hsz
        have h9 : Below w.heap.size w w3 := hbr.trans (hb3.mono hbr.size)
        have hrow : ∀ {s : Option Addr} {n c : Nat} {l : List Int}, OwnW 38 w3 W0.heap.size s n c l → RowW (put3 (w3.setCell ⟨w.heap.size + 1 + 1, 2, none⟩ (.slice s3 n3 c3)) (w.heap.size + 1) (⟨s1, n1, c1, starsL 4 (xs.take j), s2, n2, c2, starsL 1 (xs.take j), s3, n3, c3, starsL 0 xs⟩ : Sv)) s n c l := fun {s n c l} h =>
          put3_row (h.row.grown (sv_grown_set w3 (w.heap.size + 1 + 1) 2 _) (fun p hp e => by subst hp; have := own_block_some h; injection e with e; omega)) (fun p hp e => by subst hp; have := own_block_some h; omega)
        refine bodyPost_ret (ret_sv2 rfl _ _ (w.heap.size + 1) (⟨s1, n1, c1, starsL 4 (xs.take j), s2, n2, c2, starsL 1 (xs.take j), s3, n3, c3, starsL 0 xs⟩ : Sv) rfl (put3_heap bR' (⟨s1, n1, c1, starsL 4 (xs.take j), s2, n2, c2, starsL 1 (xs.take j), s3, n3, c3, starsL 0 xs⟩ : Sv))) rfl ?_
        refine ⟨(⟨s1, n1, c1, starsL 4 (xs.take j), s2, n2, c2, starsL 1 (xs.take j), s3, n3, c3, starsL 0 xs⟩ : Sv), 0, rfl, ⟨hrow o3.o1, hrow o3.o2, hrow hlt⟩, ?_, put3_below (h9.setCell (show w.heap.size ≤ w.heap.size + 1 + 1 by omega) _) (by omega) (⟨s1, n1, c1, starsL 4 (xs.take j), s2, n2, c2, starsL 1 (xs.take j), s3, n3, c3, starsL 0 xs⟩ : Sv)⟩
        refine .inl ⟨?_, rfl, by simp only [hxs], by simp only [hxs], rfl⟩
        unfold nameB
        rw [hxs] at H3
        exact decide_eq_true ⟨rfl, H3.out⟩
  · have hd' : (d == 2) = false := by simpa using hd
    go_enter Try.func12, Try.ntmps12
    go_wp2_with fail
    refine bodyPost_ret (ret_sv2 rfl _ _ (w.heap.size + 1) Sv.none rfl (heap_new_at _ _ _ (by simp))) rfl ?_
    exact ⟨Sv.none, 14, rfl, Sv.none_in _, .inr ⟨name_off hd, rfl, rfl⟩, two_allocs _ _ _⟩
end Go.Proofs.Ytdoemkncgfgkhaa
