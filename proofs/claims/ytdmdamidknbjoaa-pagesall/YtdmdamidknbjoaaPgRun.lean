/- The law's run: what each call, each append and each copy of the law leaves of the space and the lists. -/
import Derived.Test.YtdmdamidknbjoaaPgSame
import Derived.Test.YtdmdamidknbjoaaPgAppend
namespace Go.Proofs.Ytdmdamidknbjoaa
open Go.RowKit
set_option maxRecDepth 100000

/-- The state within a round: the space says T; the lists may not yet say the same; an operation is in a variable at v. -/
structure Mdx (W w : World) (S : Nat → Prop) (q K c free : Nat) (T : Txt) (ids : List Int) (ds : List (Nat × Nat)) (es : List Nm) (ia da : Option Addr) (ic dc n1 n2 v : Nat) (vo : Array Value) : Prop where
  spc : Spc w S q K c free T
  sS : ∀ x, S x → W.heap.size ≤ x
  bel : Below W.heap.size W w
  ids : OwnG EU 28 w W.heap.size ia n1 ic ids
  dat : OwnG ED 29 w W.heap.size da n2 dc ds
  si : ∀ x, ia = some x → ¬ S x.block
  sd : ∀ x, da = some x → ¬ S x.block
  txs : Txs w W S es
  var : w.heap[v]? = some (.cells vo 31 (0, 0)) ∧ ¬ S v
theorem OwnG.spot {α : Type} {E : Enc α} {e : TypeId} {w : World} {B n cap : Nat} {a : Option Addr} {xs : List α} (h : OwnG E e w B a n cap xs) {y : Addr} (hy : a = some y) : ∃ cur, w.heap[y.block]? = some (.cells cur e (0, 0)) := by
  rcases h.cases with ⟨h0, _⟩ | ⟨g, cur, hg, _, hk, _⟩
  · rw [h0] at hy; cases hy
  · rw [hg] at hy
    obtain rfl := Option.some.inj hy
    exact ⟨cur, hk⟩
theorem OwnG.chg {α : Type} {E : Enc α} {e : TypeId} {w w' : World} {B n cap : Nat} {a : Option Addr} {xs : List α} (h : OwnG E e w B a n cap xs) (hb : ∀ y, a = some y → w'.heap[y.block]? = w.heap[y.block]?) : OwnG E e w' B a n cap xs := by
  obtain ⟨h1, h2, h3, h4⟩ := h
  refine ⟨h1, h2, h3, ?_⟩
  rcases h4 with h | ⟨g', cap', cur, hv, hB, hg, r⟩
  · exact .inl h
  · refine .inr ⟨g', cap', cur, hv, hB, ?_, r⟩
    simp only [Value.slice.injEq] at hv
    exact (hb _ hv.1).trans hg
theorem cells_ne {w : World} {x y : Nat} {a b : Array Value} {s t : TypeId} (hx : w.heap[x]? = some (.cells a s (0, 0))) (hy : w.heap[y]? = some (.cells b t (0, 0))) (hne : s ≠ t) : x ≠ y := fun e => by
  subst e
  rw [hx] at hy
  simp at hy
  exact hne hy.2
theorem own_block {a : Option Addr} {n c g : Nat} (h : (Value.slice a n c).ownBlock = some g) : ∃ y, a = some y ∧ y.block = g := by
  cases a with
  | none => simp [Value.ownBlock] at h
  | some y => exact ⟨y, rfl, by simpa [Value.ownBlock] using h⟩
section
variable {W w w' : World} {S S' : Nat → Prop} {q K c c' free free' : Nat} {T T' : Txt} {ids ids' : List Int} {ds ds' : List (Nat × Nat)} {es es' : List Nm} {ia ia' da da' : Option Addr} {ic ic' dc dc' n1 n1' n2 n2' v : Nat} {vo : Array Value}
theorem Mdx.below (h : Mdx W w S q K c free T ids ds es ia da ic dc n1 n2 v vo) (hb : Below w.heap.size w w') : Mdx W w' S q K c free T ids ds es ia da ic dc n1 n2 v vo :=
  ⟨h.spc.below hb, h.sS, h.bel.trans (hb.mono h.bel.size), h.ids.below hb, h.dat.below hb, h.si, h.sd, h.txs.below hb, (hb.block _ (Array.getElem?_eq_some_iff.1 h.var.1).1).trans h.var.1, h.var.2⟩
/-- A call of the space. -/
theorem Mdx.step (h : Mdx W w S q K c free T ids ds es ia da ic dc n1 n2 v vo) (h1 : Spc w' S' q K c' free' T') (hc : Chg S w w') (hS : ∀ x, S' x → S x ∨ w.heap.size ≤ x) : Mdx W w' S' q K c' free' T' ids ds es ia da ic dc n1 n2 v vo := by
  have hlt : ∀ {α : Type} {E : Enc α} {e : TypeId} {B n cap : Nat} {a : Option Addr} {xs : List α}, OwnG E e w B a n cap xs → ∀ y, a = some y → y.block < w.heap.size := fun ho y hy => by
    obtain ⟨cur, hk⟩ := ho.spot hy
    exact (Array.getElem?_eq_some_iff.1 hk).1
  have hno : ∀ x, x < w.heap.size → ¬ S x → ¬ S' x := fun x hx hn hs => (hS x hs).elim hn (by omega)
  have hvl := (Array.getElem?_eq_some_iff.1 h.var.1).1
  refine ⟨h1, fun x hx => (hS x hx).elim (h.sS x) (fun e => Nat.le_trans h.bel.size e), h.bel.trans (hc.below h.sS h.bel.size), h.ids.chg fun y hy => hc.block _ (hlt h.ids y hy) (h.si y hy), h.dat.chg fun y hy => hc.block _ (hlt h.dat y hy) (h.sd y hy),
    fun y hy => hno _ (hlt h.ids y hy) (h.si y hy), fun y hy => hno _ (hlt h.dat y hy) (h.sd y hy), ?_, (hc.block _ hvl h.var.2).trans h.var.1, hno _ hvl h.var.2⟩
  have ht := h.txs.kept (w' := w') (fun e he => hc.block _ (h.txs.lt e he) (h.txs.row e he).2.2.1)
  exact ⟨fun e he => ⟨(ht.row e he).1, (ht.row e he).2.1, hno _ (h.txs.lt e he) (h.txs.row e he).2.2.1, (ht.row e he).2.2.2⟩, ht.byt, ht.one⟩
/-- An append to the list of ids, to the list of texts. -/
theorem Mdx.ids_step (h : Mdx W w S q K c free T ids ds es ia da ic dc n1 n2 v vo) (ho : OwnG EU 28 w' W.heap.size ia' n1' ic' ids') (hg : w.grownBy w' (Value.slice ia n1 ic).ownBlock) (hw : ∀ y, ia' = some y → (Value.slice ia n1 ic).ownBlock = some y.block ∨ y.block = w.heap.size) :
    Mdx W w' S q K c free T ids' ds es ia' da ic' dc n1' n2 v vo := by
  have hne : ∀ (x : Nat) (t : TypeId) (a : Array Value), w.heap[x]? = some (.cells a t (0, 0)) → t ≠ 28 → w'.heap[x]? = w.heap[x]? := fun x t a hx ht => hg.block x (Array.getElem?_eq_some_iff.1 hx).1 (fun e => by
    obtain ⟨y, hy, hyb⟩ := own_block e.symm
    obtain ⟨cur, hk⟩ := h.ids.spot hy
    rw [hyb] at hk
    exact cells_ne hx hk ht rfl)
  have hsz := hg.size
  refine ⟨h.spc.kept (fun x hx => hg.block x (h.spc.lt x hx) (fun e => ?_)) hsz, h.sS, ?_, ho, h.dat.chg fun y hy => ?_, fun y hy hs => ?_, h.sd, h.txs.kept fun e he => ?_, (hne _ _ _ h.var.1 (by decide)).trans h.var.1, h.var.2⟩
  · obtain ⟨y, hy, hyb⟩ := own_block e.symm
    exact h.si y hy (by rw [hyb]; exact hx)
  · refine h.bel.grown hg h.bel.size fun k hk => ?_
    obtain ⟨y, hy, hyb⟩ := own_block hk
    rcases h.ids.cases with ⟨h0, _⟩ | ⟨g, cur, hgg, hB, _⟩
    · rw [h0] at hy; cases hy
    · rw [hgg] at hy
      obtain rfl := Option.some.inj hy
      rw [← hyb]; exact hB
  · obtain ⟨cur, hk⟩ := h.dat.spot hy
    exact hne _ _ _ hk (by decide)
  · rcases hw y hy with hw | hw
    · obtain ⟨z, hz, hzb⟩ := own_block hw
      exact h.si z hz (by rw [hzb]; exact hs)
    · have := h.spc.lt _ hs; omega
  · obtain ⟨cs, hk, _⟩ := (h.txs.row e he).1
    exact hne _ _ _ hk (by decide)
theorem Mdx.dat_step (h : Mdx W w S q K c free T ids ds es ia da ic dc n1 n2 v vo) (ho : OwnG ED 29 w' W.heap.size da' n2' dc' ds') (hg : w.grownBy w' (Value.slice da n2 dc).ownBlock) (hw : ∀ y, da' = some y → (Value.slice da n2 dc).ownBlock = some y.block ∨ y.block = w.heap.size) :
    Mdx W w' S q K c free T ids ds' es ia da' ic dc' n1 n2' v vo := by
  have hne : ∀ (x : Nat) (t : TypeId) (a : Array Value), w.heap[x]? = some (.cells a t (0, 0)) → t ≠ 29 → w'.heap[x]? = w.heap[x]? := fun x t a hx ht => hg.block x (Array.getElem?_eq_some_iff.1 hx).1 (fun e => by
    obtain ⟨y, hy, hyb⟩ := own_block e.symm
    obtain ⟨cur, hk⟩ := h.dat.spot hy
    rw [hyb] at hk
    exact cells_ne hx hk ht rfl)
  have hsz := hg.size
  refine ⟨h.spc.kept (fun x hx => hg.block x (h.spc.lt x hx) (fun e => ?_)) hsz, h.sS, ?_, h.ids.chg fun y hy => ?_, ho, h.si, fun y hy hs => ?_, h.txs.kept fun e he => ?_, (hne _ _ _ h.var.1 (by decide)).trans h.var.1, h.var.2⟩
  · obtain ⟨y, hy, hyb⟩ := own_block e.symm
    exact h.sd y hy (by rw [hyb]; exact hx)
  · refine h.bel.grown hg h.bel.size fun k hk => ?_
    obtain ⟨y, hy, hyb⟩ := own_block hk
    rcases h.dat.cases with ⟨h0, _⟩ | ⟨g, cur, hgg, hB, _⟩
    · rw [h0] at hy; cases hy
    · rw [hgg] at hy
      obtain rfl := Option.some.inj hy
      rw [← hyb]; exact hB
  · obtain ⟨cur, hk⟩ := h.ids.spot hy
    exact hne _ _ _ hk (by decide)
  · rcases hw y hy with hw | hw
    · obtain ⟨z, hz, hzb⟩ := own_block hw
      exact h.sd z hz (by rw [hzb]; exact hs)
    · have := h.spc.lt _ hs; omega
  · obtain ⟨cs, hk, _⟩ := (h.txs.row e he).1
    exact hne _ _ _ hk (by decide)
/-- A list that is made anew takes a list's place. -/
theorem Mdx.ids_new (h : Mdx W w S q K c free T ids ds es ia da ic dc n1 n2 v vo) {B : Nat} (ho : OwnG EU 28 w B ia' n1' ic' ids') (hB : ∀ x, S x → x < B) (hW : W.heap.size ≤ B) : Mdx W w S q K c free T ids' ds es ia' da ic' dc n1' n2 v vo :=
  ⟨h.spc, h.sS, h.bel, ho.mono hW, h.dat, fun y hy hs => by
    rcases ho.cases with ⟨h0, _⟩ | ⟨g, cur, hgg, hBg, _⟩
    · rw [h0] at hy; cases hy
    · rw [hgg] at hy
      obtain rfl := Option.some.inj hy
      have h9 : g < B := hB _ hs
      omega, h.sd, h.txs, h.var⟩
theorem Mdx.dat_new (h : Mdx W w S q K c free T ids ds es ia da ic dc n1 n2 v vo) {B : Nat} (ho : OwnG ED 29 w B da' n2' dc' ds') (hB : ∀ x, S x → x < B) (hW : W.heap.size ≤ B) : Mdx W w S q K c free T ids ds' es ia da' ic dc' n1 n2' v vo :=
  ⟨h.spc, h.sS, h.bel, h.ids, ho.mono hW, h.si, fun y hy hs => by
    rcases ho.cases with ⟨h0, _⟩ | ⟨g, cur, hgg, hBg, _⟩
    · rw [h0] at hy; cases hy
    · rw [hgg] at hy
      obtain rfl := Option.some.inj hy
      have h9 : g < B := hB _ hs
      omega, h.txs, h.var⟩
theorem Mdx.md (h : Mdx W w S q K c free T (es.map Nm.id) (es.map fun e => (e.db, e.n)) es ia da ic dc es.length es.length v vo) (hs : Says T es) : Md W w q K c free es ia da ic dc := ⟨S, T, h.spc, h.sS, h.bel, h.ids, h.dat, h.si, h.sd, h.txs, hs⟩
end
/-! what the lists say behind a call -/
theorem Says.put {T : Txt} {ls : List Nm} (h : Says T ls) {e : Nm} (h0 : ∀ e' ∈ ls, e'.id ≠ e.id) (he : ∀ j, j < e.n → e.d j = 0) : Says (setI T e.id (some (e.n, fun _ => 0))) (ls ++ [e]) := by
  refine ⟨fun e' he' => ?_, fun i hi => ?_, fun j k e1 e2 h1 h2 hid => ?_⟩
  · rcases List.mem_append.1 he' with h1 | h1
    · obtain ⟨f, hf, hd⟩ := h.has e' h1
      exact ⟨f, (setI_other _ _ (h0 e' h1)).trans hf, hd⟩
    · simp at h1
      subst h1
      exact ⟨_, setI_same _ _ _, fun j hj => (he j hj).symm⟩
  · rw [setI_other _ _ (fun hh => hi e (by simp) hh.symm)]
    exact h.no i (fun e' h1 => hi e' (by simp [h1]))
  · have hlt : ∀ {j e1}, (ls ++ [e])[j]? = some e1 → (j < ls.length ∧ ls[j]? = some e1) ∨ (j = ls.length ∧ e1 = e) := fun {j e1} hj => by
      by_cases hl : j < ls.length
      · rw [List.getElem?_append_left hl] at hj; exact .inl ⟨hl, hj⟩
      · rw [List.getElem?_append_right (by omega)] at hj
        have hj0 : j - ls.length = 0 := by
          apply Classical.byContradiction
          intro hc
          rw [List.getElem?_eq_none (by simp; omega)] at hj
          cases hj
        rw [hj0] at hj
        simp at hj
        exact .inr ⟨by omega, hj.symm⟩
    rcases hlt h1 with ⟨a1, a2⟩ | ⟨a1, a2⟩ <;> rcases hlt h2 with ⟨b1, b2⟩ | ⟨b1, b2⟩
    · exact h.one _ _ _ _ a2 b2 hid
    · subst b2; exact absurd hid (h0 e1 (List.mem_of_getElem? a2))
    · subst a2; exact absurd hid.symm (h0 e2 (List.mem_of_getElem? b2))
    · omega
theorem cut_get {ls : List Nm} {k j : Nat} {e : Nm} (h : (ls.take k ++ ls.drop (k + 1))[j]? = some e) (hk : k < ls.length) : ∃ j', j' ≠ k ∧ ls[j']? = some e ∧ j' = if j < k then j else j + 1 := by
  by_cases hj : j < k
  · rw [List.getElem?_append_left (by simp; omega), List.getElem?_take_of_lt hj] at h
    exact ⟨j, by omega, h, by rw [if_pos hj]⟩
  · rw [List.getElem?_append_right (by simp; omega), List.getElem?_drop] at h
    rw [List.length_take, Nat.min_eq_left (by omega), show k + 1 + (j - k) = j + 1 by omega] at h
    exact ⟨j + 1, by omega, h, by rw [if_neg hj]⟩
theorem cut_mem {ls : List Nm} {k : Nat} {e : Nm} (h : e ∈ ls.take k ++ ls.drop (k + 1)) : e ∈ ls := (List.mem_append.1 h).elim List.mem_of_mem_take List.mem_of_mem_drop
theorem mem_cut {ls : List Nm} {k : Nat} {e e' : Nm} (hk : ls[k]? = some e) (h : e' ∈ ls) (hne : e' ≠ e) : e' ∈ ls.take k ++ ls.drop (k + 1) := by
  obtain ⟨j, hj⟩ := List.getElem?_of_mem h
  by_cases h1 : j < k
  · exact List.mem_append.2 (.inl (List.mem_of_getElem? (i := j) (by rw [List.getElem?_take_of_lt h1]; exact hj)))
  · by_cases h2 : j = k
    · subst h2; rw [hk] at hj; exact absurd (Option.some.inj hj).symm hne
    · exact List.mem_append.2 (.inr (List.mem_of_getElem? (i := j - (k + 1)) (by rw [List.getElem?_drop, show k + 1 + (j - (k + 1)) = j by omega]; exact hj)))
theorem Says.cut {T : Txt} {ls : List Nm} (h : Says T ls) {k : Nat} {e : Nm} (hk : ls[k]? = some e) : Says (setI T e.id none) (ls.take k ++ ls.drop (k + 1)) := by
  have hkl := (List.getElem?_eq_some_iff.1 hk).1
  refine ⟨fun e' he' => ?_, fun i hi => ?_, fun j l e1 e2 h1 h2 hid => ?_⟩
  · obtain ⟨f, hf, hd⟩ := h.has e' (cut_mem he')
    obtain ⟨j, hj⟩ := List.getElem?_of_mem he'
    obtain ⟨j', hne, hj', _⟩ := cut_get hj hkl
    exact ⟨f, (setI_other _ _ (fun hid => hne (h.one _ _ _ _ hj' hk hid))).trans hf, hd⟩
  · by_cases e1 : i = e.id
    · rw [e1]; exact setI_same _ _ _
    · rw [setI_other _ _ e1]
      exact h.no i (fun e' h1 hid => hi e' (mem_cut hk h1 (fun hh => e1 (by rw [← hid, hh]))) hid)
  · obtain ⟨j', _, hj', hj2⟩ := cut_get h1 hkl
    obtain ⟨l', _, hl', hl2⟩ := cut_get h2 hkl
    have := h.one _ _ _ _ hj' hl' hid
    rw [hj2, hl2] at this
    by_cases g1 : j < k <;> by_cases g2 : l < k <;> simp [g1, g2] at this <;> omega
theorem Txs.cut {w W : World} {S : Nat → Prop} {ls : List Nm} (h : Txs w W S ls) {k : Nat} (hk : k < ls.length) : Txs w W S (ls.take k ++ ls.drop (k + 1)) := by
  refine ⟨fun e he => h.row e (cut_mem he), fun e he => h.byt e (cut_mem he), fun j l e1 e2 h1 h2 hid => ?_⟩
  obtain ⟨j', _, hj', hj2⟩ := cut_get h1 hk
  obtain ⟨l', _, hl', hl2⟩ := cut_get h2 hk
  have := h.one _ _ _ _ hj' hl' hid
  rw [hj2, hl2] at this
  by_cases g1 : j < k <;> by_cases g2 : l < k <;> simp [g1, g2] at this <;> omega
end Go.Proofs.Ytdmdamidknbjoaa
