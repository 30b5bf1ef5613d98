/- As Region, for a region whose last operation stores: what S says need not hold behind the last one. No program of the seat is named here. -/
import Derived.Test.YtafnonmpanpfkaaRegion
namespace Go.Proofs.Ytafnonmpanpfkaa
open Go.RowKit
set_option maxRecDepth 100000

section
variable {P : Program} {ops : Array Oper} {Q : Exit → Act → World → Prop} {md : Region.Mode} {S : World → Prop}
/-- All have come up. -/
def allB (l : Array Bool) : Bool := l.toList.all id
/-- What has come up had all before it that it waits for. -/
def shutB (md : Region.Mode) (ops : Array Oper) (l : Array Bool) : Bool := (List.range ops.size).all fun j => !l.getD j false || ((ops[j]?).map (·.after.all fun e => !Region.binds md e || l.getD e.on false)).getD false
/-- Something waits for number i. -/
def heldB (md : Region.Mode) (ops : Array Oper) (i : Nat) : Bool := (List.range ops.size).any fun j => j != i && ((ops[j]?).map (·.after.any fun e => Region.binds md e && e.on == i)).getD false
def wpAnyT (P : Program) (md : Region.Mode) (ops : Array Oper) (Q : Exit → Act → World → Prop) (S : World → Prop) : Nat → Array Bool → Act → World → Prop
  | 0, listed, a, w => Region.ready md ops listed = [] ∧ Q .normal a w
  | fuel + 1, listed, a, w =>
    (Region.ready md ops listed = [] → Q .normal a w) ∧
    ∀ i ∈ Region.ready md ops listed, wpOp P ops Q i (fun a' w' => (allB (listed.setIfInBounds i true) = false → S w') ∧ wpAnyT P md ops Q S fuel (listed.setIfInBounds i true) a' w') a w
theorem wpAny_of_T : ∀ (fuel : Nat) (listed : Array Bool) (a : Act) (w : World), wpAnyT P md ops Q S fuel listed a w → wpAny P md ops Q fuel listed a w
  | 0, _, _, _, h => h
  | fuel + 1, _, _, _, h => ⟨h.1, fun i hi => wpOp_mono (fun a' w' h' => wpAny_of_T fuel _ a' w' h'.2) (h.2 i hi)⟩
theorem wpAnyT_more {S' : World → Prop} (hs : ∀ w, S' w → S w) : ∀ (fuel : Nat) (listed : Array Bool) (a : Act) (w : World), wpAnyT P md ops Q S' fuel listed a w → wpAnyT P md ops Q S fuel listed a w
  | 0, _, _, _, h => h
  | fuel + 1, _, _, _, h => ⟨h.1, fun i hi => wpOp_mono (fun a' w' h' => ⟨fun e => hs _ (h'.1 e), wpAnyT_more hs fuel _ a' w' h'.2⟩) (h.2 i hi)⟩
theorem shut_spec {l : Array Bool} (h : shutB md ops l = true) {j : Nat} {o : Oper} (ho : ops[j]? = some o) (hl : l.getD j false = true) : ∀ e ∈ o.after, Region.binds md e = true → l.getD e.on false = true := fun e he hb => by
  unfold shutB at h
  rw [List.all_eq_true] at h
  have := h j (by simp; exact (Array.getElem?_eq_some_iff.1 ho).1)
  rw [ho] at this
  simp only [hl, Bool.not_true, Bool.false_or, Option.map_some, Option.getD_some, Array.all_eq_true_iff_forall_mem] at this
  have := this e he
  simpa [hb] using this
theorem shut_set {l : Array Bool} (h : shutB md ops l = true) {j : Nat} (hj : j ∈ Region.ready md ops l) : shutB md ops (l.setIfInBounds j true) = true := by
  unfold shutB
  rw [List.all_eq_true]
  intro k hk
  simp only [List.mem_range] at hk
  obtain ⟨ok, hok⟩ : ∃ o, ops[k]? = some o := ⟨ops[k], Array.getElem?_eq_getElem hk⟩
  rw [hok]
  simp only [Option.map_some, Option.getD_some, Bool.or_eq_true, Bool.not_eq_true', Array.all_eq_true_iff_forall_mem]
  by_cases hkl : (l.setIfInBounds j true).getD k false = true
  · refine .inr fun e he => ?_
    cases hb : Region.binds md e with
    | false => exact .inl rfl
    | true =>
      refine .inr (getD_set_true ?_)
      by_cases hkj : j = k
      · subst hkj
        obtain ⟨_, o, ho, hall⟩ := mem_ready.1 hj
        rw [hok] at ho
        obtain rfl := Option.some.inj ho
        exact hall e he hb
      · rw [getD_set_ne false hkj] at hkl
        exact shut_spec h hok hkl e he hb
  · exact .inl (by simpa using hkl)
theorem allB_not {l : Array Bool} {i : Nat} (hi : l.getD i true = false) : allB l = false := by
  unfold allB
  rw [List.all_eq_false]
  have hlt : i < l.size := by
    rcases Nat.lt_or_ge i l.size with h | h
    · exact h
    · simp [Array.getElem?_eq_none h] at hi
  refine ⟨l[i], by simp, ?_⟩
  simp [hlt] at hi
  simp [hi]
theorem allB_get {l : Array Bool} (h : allB l = true) {k : Nat} (hk : k < l.size) : l[k]? = some true := by
  unfold allB at h
  rw [List.all_eq_true] at h
  rw [Array.getElem?_eq_getElem hk]
  have := h l[k] (by simp)
  simpa using this
/-- Number i may come up, and what has not come up yet and does not wait for it is apart from it. -/
structure Loose (md : Region.Mode) (ops : Array Oper) (i : Nat) (oi : Oper) (l : Array Bool) : Prop where
  size : l.size = ops.size
  shut : shutB md ops l = true
  up : i ∈ Region.ready md ops l
  apart : ∀ j oj, ops[j]? = some oj → j ≠ i → l.getD j true = false → (∀ e ∈ oj.after, Region.binds md e = true → e.on ≠ i) → oi.apart ops oj = true
/-- What may come up beside number i does not wait for it. -/
theorem Loose.free {i j : Nat} {oi oj : Oper} {l : Array Bool} (h : Loose md ops i oi l) (hj : j ∈ Region.ready md ops l) (ho : ops[j]? = some oj) : ∀ e ∈ oj.after, Region.binds md e = true → e.on ≠ i := by
  obtain ⟨_, o, ho', hall⟩ := mem_ready.1 hj
  obtain rfl := Option.some.inj (ho'.symm.trans ho)
  intro e he hb hon
  have h1 := hall e he hb
  have h0 := (mem_ready.1 h.up).1
  rw [hon] at h1
  cases hl : l[i]? with
  | none => simp [hl] at h1
  | some b => simp [hl] at h1 h0; rw [h1] at h0; cases h0
theorem Loose.next {i j : Nat} {oi : Oper} {l : Array Bool} (h : Loose md ops i oi l) (hj : j ∈ Region.ready md ops l) (hji : j ≠ i) : Loose md ops i oi (l.setIfInBounds j true) :=
  ⟨by simpa using h.size, shut_set h.shut hj, ready_mono h.up (Ne.symm hji), fun k ok hk hki hun hno => h.apart k ok hk hki (by
    by_cases e : j = k
    · subst e; exact (mem_ready.1 hj).1
    · rwa [getD_set_ne true e] at hun) hno⟩
/-- Something waits for number i: so number j is not the last one beside it. -/
theorem Loose.more {i j : Nat} {oi : Oper} {l : Array Bool} (h : Loose md ops i oi l) (hheld : heldB md ops i = true) (hj : j ∈ Region.ready md ops l) : allB ((l.setIfInBounds i true).setIfInBounds j true) = false := by
  refine Bool.eq_false_iff.2 fun hA => ?_
  unfold heldB at hheld
  obtain ⟨k, hk, hk2⟩ := List.any_eq_true.1 hheld
  simp only [List.mem_range] at hk
  rw [Array.getElem?_eq_getElem hk] at hk2
  simp only [Option.map_some, Option.getD_some, Bool.and_eq_true, bne_iff_ne, ne_eq] at hk2
  obtain ⟨e, he, hb⟩ := Array.any_eq_true'.1 hk2.2
  simp only [Bool.and_eq_true, beq_iff_eq] at hb
  have hok : ops[k]? = some ops[k] := Array.getElem?_eq_getElem hk
  by_cases hkj : k = j
  · subst hkj
    exact h.free hj hok e he hb.1 hb.2
  · have hg := allB_get hA (k := k) (by simp; have := h.size; omega)
    rw [Array.getElem?_setIfInBounds_ne (Ne.symm hkj), Array.getElem?_setIfInBounds_ne (Ne.symm hk2.1)] at hg
    have h1 := shut_spec h.shut hok (by simp [hg]) e he hb.1
    have h0 := (mem_ready.1 h.up).1
    rw [hb.2] at h1
    cases hl : l[i]? with
    | none => simp [hl] at h1
    | some b => simp [hl] at h1 h0; rw [h1] at h0; cases h0
/-- Number i is taken first: whatever else comes up ahead of it could come up behind it. -/
theorem wpAnyT_first {i : Nat} {oi : Oper} {v : Value} (hi : ops[i]? = some oi) (hsel : ∀ (j : Nat) (o : Oper) cs b, ops[j]? = some o → o.op ≠ .select cs b)
    (hQ : ∀ c a w, Q (.panic c) (a.put oi.dst v) w → Q (.panic c) a w) (hheld : heldB md ops i = true) (fuel : Nat) :
    ∀ (l : Array Bool) (a : Act) (w : World), Loose md ops i oi l → YieldsIf P ops S oi v a → S w → wpAnyT P md ops Q S fuel (l.setIfInBounds i true) (a.put oi.dst v) w → wpAnyT P md ops Q S (fuel + 1) l a w := by
  induction fuel with
  | zero =>
    intro l a w h hy hS H
    refine ⟨fun e => absurd h.up (by rw [e]; exact List.not_mem_nil), fun j hj => ?_⟩
    obtain rfl : j = i := Decidable.byContradiction fun c => by have := ready_mono hj c; rw [H.1] at this; cases this
    exact hy.wpOp hi hS ⟨fun _ => hS, H⟩
  | succ fuel ih =>
    intro l a w h hy hS H
    refine ⟨fun e => absurd h.up (by rw [e]; exact List.not_mem_nil), fun j hj => ?_⟩
    by_cases hji : j = i
    · subst hji
      exact hy.wpOp hi hS ⟨fun _ => hS, H⟩
    · obtain ⟨hun, oj, hoj, _⟩ := mem_ready.1 hj
      have hm := h.more hheld hj
      refine wpOp_mono (fun a1 w1 k => ?_) (wpOp_putIf hoj (h.apart j oj hoj hji hun (h.free hj hoj)) (fun cs b => hsel i oi cs b hi) (fun cs b => hsel j oj cs b hoj) hQ hy (H.2 j (ready_mono hj hji)))
      have hS1 := k.2.1 hm
      refine ⟨fun _ => hS1, ih _ a1 w1 (h.next hj hji) k.1 hS1 ?_⟩
      rw [Array.setIfInBounds_comm _ _ hji]
      exact k.2.2
theorem takeT_to {i : Nat} {oi : Oper} {v : Value} {fuel : Nat} {listed : Array Bool} {a : Act} {w : World} (d : Tmp)
    (hi : ops[i]? = some oi) (hd : oi.dst = some d) (hs : Region.noSelect ops = true) (hf : Region.free md ops listed i = true) (hr : (Region.ready md ops listed).contains i = true)
    (hh : (heldB md ops i && shutB md ops listed && listed.size == ops.size) = true)
    (hQ : ∀ c a w, Q (.panic c) (a.put oi.dst v) w → Q (.panic c) a w) (hy : YieldsIf P ops S oi v a) (hS : S w)
    (h : wpAnyT P md ops Q S fuel (listed.setIfInBounds i true) { a with tmps := a.tmps.setIfInBounds d v } w) : wpAnyT P md ops Q S (fuel + 1) listed a w := by
  simp only [Bool.and_eq_true, beq_iff_eq] at hh
  refine wpAnyT_first hi (Region.noSelect_spec hs) hQ hh.1.1 fuel listed a w ⟨hh.2, hh.1.2, by simpa using hr, Region.free_spec hi hf⟩ hy hS ?_
  rw [hd]
  exact h
/-- Each of the operations 'rs' comes up next. -/
def AllReadyT (P : Program) (md : Region.Mode) (ops : Array Oper) (Q : Exit → Act → World → Prop) (S : World → Prop) (fuel : Nat) (listed : Array Bool) (a : Act) (w : World) (rs : List Nat) : Prop :=
  ∀ i ∈ rs, wpOp P ops Q i (fun a' w' => (allB (listed.setIfInBounds i true) = false → S w') ∧ wpAnyT P md ops Q S fuel (listed.setIfInBounds i true) a' w') a w
theorem AllReadyT.nil {fuel : Nat} {listed : Array Bool} {a : Act} {w : World} : AllReadyT P md ops Q S fuel listed a w [] := fun _ h => by cases h
theorem AllReadyT.cons {fuel : Nat} {listed : Array Bool} {a : Act} {w : World} {i : Nat} {o : Oper} {rs : List Nat} (ho : ops[i]? = some o)
    (h : ∀ K' : Act → World → Prop, Shut (∀ a w, (allB (listed.setIfInBounds i true) = false → S w) → wpAnyT P md ops Q S fuel (listed.setIfInBounds i true) a w → K' a w) → if Region.wanted o (yielded ops a.tmps) = true then Oper.wp P o a w K' Q else K' (a.put o.dst undef) w)
    (hs : AllReadyT P md ops Q S fuel listed a w rs) : AllReadyT P md ops Q S fuel listed a w (i :: rs) := fun j hj => by
  rcases List.mem_cons.1 hj with rfl | hj
  · exact wpOp_step ho (fun K' hK => h K' (fun a w hS hW => hK a w ⟨hS, hW⟩))
  · exact hs j hj
theorem wpAnyT_ready {rs : List Nat} {fuel : Nat} {listed : Array Bool} {a : Act} {w : World} (hr : Region.ready md ops listed = rs) (hne : rs ≠ [])
    (h : AllReadyT P md ops Q S fuel listed a w rs) : wpAnyT P md ops Q S (fuel + 1) listed a w := ⟨fun h0 => absurd (hr ▸ h0) hne, hr ▸ h⟩
theorem wpAnyT_done {listed : Array Bool} {a : Act} {w : World} (hr : Region.ready md ops listed = []) (h : Q .normal a w) : ∀ fuel, wpAnyT P md ops Q S fuel listed a w
  | 0 => ⟨hr, h⟩
  | _ + 1 => ⟨fun _ => h, by rw [hr]; simp⟩
theorem wp_region_T {id : Nat} {a : Act} {w : World} (hm : P.follows .mixedOrders = true) (hS : S w.drew)
    (h : S w.drew → wpAnyT P .any ops Q S ops.size (Array.replicate ops.size false) a w.drew) : (Code.region id ops true).wp P Q a w :=
  wp_region_any hm (wpAny_of_T _ _ _ _ (h hS))
end
end Go.Proofs.Ytafnonmpanpfkaa
