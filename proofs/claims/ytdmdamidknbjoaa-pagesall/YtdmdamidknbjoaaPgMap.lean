/- A map from ids to tables: what stands at each id, as a function; look-up, store, delete. -/
import Derived.Test.YtdmdamidknbjoaaFrOps
import Derived.Maps.OwnSet
namespace Go.Proofs.Ytdmdamidknbjoaa
open Go.RowKit
set_option maxRecDepth 100000

/-- An element of the map reads as itself. -/
def rdV (v : Value) : Option (DataW Value × List MemPlace) := some (.held v, [])
/-- An id. -/
def U (i : Int) : Prop := 0 ≤ i ∧ i < 18446744073709551616
def setI {α : Type} (f : Int → α) (i : Int) (v : α) : Int → α := fun j => if j = i then v else f j
theorem setI_same {α : Type} (f : Int → α) (i : Int) (v : α) : setI f i v i = v := if_pos rfl
theorem setI_other {α : Type} (f : Int → α) {i j : Int} (v : α) (h : j ≠ i) : setI f i v j = f j := if_neg h
/-- The map m, nil or a block's, of at most c entries: what stands at each id. -/
def MapAt (w : World) (m : Option Nat) (c : Nat) (V : Int → Option Value) : Prop :=
  (m = none ∧ ∀ i, U i → V i = none) ∨ ∃ b D, m = some b ∧ w.ownsMap Try.prog 28 rdV b c D ∧ ∀ i, U i → Maps.has D (.int .u64 i) = (V i).isSome ∧ ∀ z, D.atKey (.int .u64 i) (.held z) = .held ((V i).getD z)
def noTab : Value := .agg #[.slice none 0 0, .int .i64 0]
theorem keyed : Maps.Keyed Try.prog 28 := Maps.int_keyed Try.underlying28
theorem wf_u {i : Int} (h : U i) : (Lit.int .u64 i).wf = true := by
  obtain ⟨h0, h1⟩ := h
  simp [Lit.wf, IntKind.min, IntKind.max, IntKind.signed, IntKind.bits]
  omega
theorem key_of {i : Int} (h : U i) : keyOf Try.prog 28 (.int .u64 i) = some (.int .u64 i) := Maps.keyOf_int_mk Try.underlying28 (wf_u h)
theorem zero_tab (w : World) : (zeroValue 56).run Try.prog w = .ok noTab w := by
  have h : (Try.prog.info? 56).map (fun i => i.zero) = some (some noTab) := by kernel_rfl
  obtain ⟨i, hi, hz⟩ := Option.map_eq_some_iff.1 h
  simp [zeroValue, typeInfo, hi, hz]
section
variable {w w' : World} {m : Option Nat} {c : Nat} {V : Int → Option Value}
theorem MapAt.kept (h : MapAt w m c V) (hb : ∀ x, m = some x → w'.heap[x]? = w.heap[x]?) : MapAt w' m c V := by
  rcases h with h | ⟨b, D, rfl, ⟨es, clock, h1, h2⟩, h3⟩
  · exact .inl h
  · exact .inr ⟨b, D, rfl, ⟨es, clock, (hb b rfl).trans h1, h2⟩, h3⟩
theorem MapAt.lt (h : MapAt w m c V) {x : Nat} (hx : m = some x) : x < w.heap.size := by
  rcases h with ⟨h, _⟩ | ⟨b, D, rfl, h1, _⟩
  · rw [h] at hx; cases hx
  · obtain rfl := Option.some.inj hx
    exact h1.lt
theorem MapAt.mono (h : MapAt w m c V) {c' : Nat} (hc : c ≤ c') : MapAt w m c' V := by
  rcases h with h | ⟨b, D, rfl, h1, h2⟩
  · exact .inl h
  · exact .inr ⟨b, D, rfl, h1.mono hc, h2⟩
theorem MapAt.congr (h : MapAt w m c V) {V' : Int → Option Value} (hv : ∀ i, U i → V' i = V i) : MapAt w m c V' := by
  rcases h with ⟨h0, h⟩ | ⟨b, D, rfl, h1, h2⟩
  · exact .inl ⟨h0, fun i hi => (hv i hi).trans (h i hi)⟩
  · exact .inr ⟨b, D, rfl, h1, fun i hi => by rw [hv i hi]; exact h2 i hi⟩
theorem map_nil (w : World) (c : Nat) : MapAt w none c (fun _ => none) := .inl ⟨rfl, fun _ _ => rfl⟩
theorem map_new (w : World) (c b : Nat) (hb : w.heap.size = b) : MapAt (w.alloc (.map #[] 0)) (some b) c (fun _ => none) := by
  subst hb
  exact .inr ⟨_, _, rfl, (World.ownsMap_made w Try.prog 28 rdV).mono (by omega), fun i hi => ⟨rfl, fun z => rfl⟩⟩
/-- 'v, ok := m[id]' -/
theorem map_look (h : MapAt w m c V) (i : Int) (hi : U i) (v : Value) (q : Bool) (hv : (V i).getD noTab = v) (hq : (V i).isSome = q) : (Instr.lookup 49 (.map m) (.int .u64 i) true).run Try.prog w = .ok (.tuple #[v, .bool q]) w := by
  subst hv hq
  rcases h with ⟨rfl, h⟩ | ⟨b, D, rfl, h1, h2⟩
  · rw [Maps.look_nil true keyed Try.underlying49 (zero_tab w) (key_of hi), h i hi]
    rfl
  · obtain ⟨v, ps, hr, hv⟩ := h1.look_ok keyed Try.underlying49 (zero_tab w) (zd := .held noTab) (zp := []) rfl (key_of hi)
    obtain ⟨e1, e2⟩ := h2 i hi
    rw [e2 noTab] at hv
    simp only [rdV, Option.some.injEq, Prod.mk.injEq, DataW.held.injEq] at hv
    rw [hr, hv.1, e1]
/-- 'm[id] = v' -/
theorem map_put {b : Nat} (h : MapAt w (some b) c V) (hc : c < 1000000) (i : Int) (hi : U i) (v : Value) : ∃ w', (Instr.mapUpdate 49 (.map (some b)) (.int .u64 i) v).run Try.prog w = .ok () w' ∧ MapAt w' (some b) (c + 1) (setI V i (some v)) ∧ Chg (fun x => x = b) w w' := by
  rcases h with ⟨h, _⟩ | ⟨b', D, hb, h1, h2⟩
  · cases h
  · obtain rfl := Option.some.inj hb
    obtain ⟨w', hr, ho, ht⟩ := h1.store keyed Try.underlying49 (by simp [maxLen]; omega) (key_of hi) (show rdV v = some (.held v, []) from rfl)
    refine ⟨w', hr, .inr ⟨b, _, rfl, ho, fun j hj => ?_⟩, ?_⟩
    · by_cases e : j = i
      · subst e
        rw [setI_same]
        exact ⟨Maps.has_put_same h1.isMap (keyed.key (key_of hi)) _, fun z => Maps.atKey_put_same h1.isMap (keyed.key (key_of hi)) _ _⟩
      · rw [setI_other _ _ e]
        have hne : (Lit.int .u64 j) ≠ (Lit.int .u64 i) := fun hh => e (by simpa using hh)
        exact ⟨(Maps.has_put_other hne _).trans (h2 j hj).1, fun z => (Maps.atKey_put_other hne _ _).trans ((h2 j hj).2 z)⟩
    · obtain ⟨g1, g2, g3, g4, g5⟩ := ht.grown
      exact ⟨g1, g2, g3, g4, fun x hx hn => g5 x hx (fun e => hn (Option.some.inj e))⟩
/-- 'delete(m, id)' -/
theorem map_del (h : MapAt w m c V) (i : Int) (hi : U i) (ty : TypeId) : ∃ w', (Builtin.delete_ #[49, 28] ty #[.map m, .int .u64 i]).run Try.prog w = .ok (.tuple #[]) w' ∧ MapAt w' m c (setI V i none) ∧ Chg (fun x => m = some x) w w' := by
  rcases h with ⟨rfl, h⟩ | ⟨b, D, rfl, h1, h2⟩
  · refine ⟨w, Maps.drop_nil keyed Try.underlying49 (key_of hi) ty, .inl ⟨rfl, fun j hj => ?_⟩, Chg.refl _ _⟩
    by_cases e : j = i
    · subst e; exact setI_same _ _ _
    · rw [setI_other _ _ e]; exact h j hj
  · obtain ⟨w', hr, ho, ht⟩ := h1.drop keyed Try.underlying49 (key_of hi) ty
    refine ⟨w', hr, .inr ⟨b, _, rfl, ho, fun j hj => ?_⟩, ?_⟩
    · by_cases e : j = i
      · subst e
        rw [setI_same]
        exact ⟨Maps.has_del_same, fun z => Maps.atKey_del_same _⟩
      · rw [setI_other _ _ e]
        have hne : (Lit.int .u64 j) ≠ (Lit.int .u64 i) := fun hh => e (by simpa using hh)
        exact ⟨(Maps.has_del_other hne).trans (h2 j hj).1, fun z => (Maps.atKey_del_other hne _).trans ((h2 j hj).2 z)⟩
    · obtain ⟨g1, g2, g3, g4, g5⟩ := ht.grown
      exact ⟨g1, g2, g3, g4, fun x hx hn => g5 x hx (fun e => hn e.symm)⟩
end
end Go.Proofs.Ytdmdamidknbjoaa
