/- copy between rows whose elements take several cells, and what it makes of a block. No program of the seat is named here. -/
import Derived.Test.YtafnonmpanpfkaaCells
import Derived.Laws.IdiomCopy
import Derived.Lib.Overlaps
import Derived.Lib.AppendZerosOnto
import Derived.Deep.RegionLaw
namespace Go.Proofs.Ytafnonmpanpfkaa
open Go.RowKit
set_option maxRecDepth 100000

section
variable {P : Program}
theorem run_copy_k (k : Nat) (w : World) (dT sT ty elem : TypeId) (b o dLen dCap : Nat) (a : Addr) (sLen sCap m : Nat) (cs : List Value)
    (hu : P.underlying dT = some (.slice elem)) (hs : (P.info? elem).map (·.size) = some k) (hm : Nat.min sLen dLen = m) (hn : cs.length = m * k)
    (hsrc : ∀ j v, cs[j]? = some v → w.cell? (a.add j) = some v) (hc : ∀ j, j < cs.length → (w.cell? ⟨b, o + j, none⟩).isSome = true) (hf : ∀ j, j < cs.length → w.frozen? ⟨b, o + j, none⟩ = false) (h1 : ∀ v ∈ cs, v.oneCell' = true) :
    (Builtin.copy_ #[dT, sT] ty #[.slice (some ⟨b, o, none⟩) dLen dCap, .slice (some a) sLen sCap]).run P w = .ok (goInt m) (w.setCells b o cs) := by
  have hl := run_loadCells_list (P := P) w a cs hsrc
  have hst := run_storeCells_cells (P := P) b o cs 0 w (by simpa using hc) (by simpa using hf) h1
  rw [hn] at hl
  cases hq : P.info? elem with
  | none => simp [hq] at hs
  | some i =>
    have hi : i.size = k := by simpa [hq] using hs
    simp [Builtin.copy_, run_underlying hu, Builtin.lenOf, Builtin.firstCells, sizeOf, typeInfo, hq, hi, hm, hl, hst]
theorem wp_copy_k (w : World) {o : Oper} {a : Act} {K : Act → World → Prop} {Q : Exit → Act → World → Prop} (d s : Operand) (t t' : TypeId)
    (ho : o.op = .call { callee := .builtin .copy, args := #[d, s], argTypes := #[t, t'] }) (v u : Value) (hd : a.eval d = v) (hs : a.eval s = u) {v' : Value} {w' : World}
    (hr : (Builtin.copy_ #[t, t'] o.type #[v, u]).run P w = .ok v' w') (h : K (a.put o.dst v') w') : o.wp P a w K Q := by
  unfold Oper.wp execOp
  simp only [ho, resolve, invoke, builtin, Sem.run_bind, Sem.run_pure, Result.andThen_ok, List.map_toArray, List.map_cons, List.map_nil, hd, hs, hr]
  exact h
theorem wpList_copy_k (w : World) {ops : Array Oper} {rest : List Oper} {o : Oper} {a : Act} {Q : Exit → Act → World → Prop} (hgd : o.guard = none) (d s : Operand) (t t' : TypeId)
    (ho : o.op = .call { callee := .builtin .copy, args := #[d, s], argTypes := #[t, t'] }) (v u : Value) (hd : a.eval d = v) (hs : a.eval s = u) {v' : Value} {w' : World}
    (hr : (Builtin.copy_ #[t, t'] o.type #[v, u]).run P w = .ok v' w') (h : wpList P ops Q rest (a.put o.dst v') w') : wpList P ops Q (o :: rest) a w :=
  wpList_plain hgd fun _ hK => wp_copy_k w d s t t' ho v u hd hs hr (hK _ _ h)
theorem step_copy_k {ops : Array Oper} {o : Oper} {a : Act} {w : World} {K : Act → World → Prop} {Q : Exit → Act → World → Prop} {E : Prop}
    (hg : o.guard = none) (d x : Operand) (dT sT : TypeId) (hop : o.op = Op.call { callee := Callee.builtin Builtin.copy, args := #[d, x], argTypes := #[dT, sT] })
    (v u : Value) (hd : a.eval d = v) (hx : a.eval x = u) {v' : Value} {w' : World} (hr : (Builtin.copy_ #[dT, sT] o.type #[v, u]).run P w = .ok v' w') (hK : K (a.put o.dst v') w') :
    if Region.wanted o (yielded ops a.tmps) = true then Oper.wp P o a w K Q else E := by
  have hw : Region.wanted o (yielded ops a.tmps) = true := by simp [Region.wanted, hg]
  rw [if_pos hw]
  exact wp_copy_k w d x dT sT hop v u hd hx hr hK
end
/-- A list with a stretch written over. -/
def over (xs : List Value) (o : Nat) (cs : List Value) : List Value := xs.take o ++ cs ++ xs.drop (o + cs.length)
theorem over_len (xs : List Value) (o : Nat) (cs : List Value) (h : o + cs.length ≤ xs.length) : (over xs o cs).length = xs.length := by simp [over]; omega
theorem cut_at (xs : List Value) (o : Nat) (h : o ≤ xs.length) : ∃ A B, xs = A ++ B ∧ A.length = o := ⟨xs.take o, xs.drop o, (List.take_append_drop _ _).symm, by simp; omega⟩
theorem over_mid (A M Z cs : List Value) (o : Nat) (hA : A.length = o) (hM : M.length = cs.length) : over (A ++ M ++ Z) o cs = A ++ cs ++ Z := by
  subst hA
  unfold over
  rw [← hM, List.append_assoc A, List.take_left, List.drop_length_add_append, List.drop_left]
theorem over_cons (xs : List Value) (o : Nat) (v : Value) (cs : List Value) (h : o < xs.length) : over (xs.set o v) (o + 1) cs = over xs o (v :: cs) := by
  obtain ⟨A, B, rfl, hA⟩ := cut_at xs o (by omega)
  subst hA
  cases B with
  | nil => simp at h
  | cons u B =>
    have e : (A ++ u :: B).set A.length v = (A ++ [v]) ++ B := by simp
    have e2 : A.length + 1 = (A ++ [v]).length := by simp
    unfold over
    rw [e, e2, List.take_left, List.drop_length_add_append, List.take_left, List.length_cons, List.drop_length_add_append, List.drop_succ_cons]
    simp
theorem setCells_block {g : Nat} {e : TypeId} {f : Nat × Nat} : ∀ (cs : List Value) (o : Nat) (w : World) (cur : Array Value), w.heap[g]? = some (.cells cur e f) → o + cs.length ≤ cur.size → ∃ cur' : Array Value, (w.setCells g o cs).heap[g]? = some (.cells cur' e f) ∧ cur'.toList = over cur.toList o cs
  | [], o, w, cur, h, _ => ⟨cur, h, by simp [over]⟩
  | v :: cs, o, w, cur, h, hl => by
    simp only [List.length_cons] at hl
    have h1 : (w.setCell ⟨g, o, none⟩ v).heap[g]? = some (.cells (cur.setIfInBounds o v) e f) := by simp [World.setCell, Array.getElem?_modify, h]
    obtain ⟨cur', h2, h3⟩ := setCells_block cs (o + 1) _ _ h1 (by simp; omega)
    refine ⟨cur', h2, ?_⟩
    rw [h3, Array.toList_setIfInBounds, over_cons _ _ _ _ (by simp; omega)]
theorem setCells_grown {g : Nat} : ∀ (cs : List Value) (o : Nat) (w : World), w.grownBy (w.setCells g o cs) (some g)
  | [], o, w => ⟨rfl, rfl, rfl, Nat.le_refl _, fun _ _ _ => rfl⟩
  | v :: cs, o, w => World.grownBy.trans (b := w.setCell ⟨g, o, none⟩ v) ⟨rfl, rfl, rfl, by simp [World.setCell], fun x _ hn => Below.heap_setCell _ _ _ _ (fun e => hn (by rw [e]))⟩ (setCells_grown cs (o + 1) _)
/-- What stands behind is moved on, then the gap is filled: or the other way round. -/
theorem over_shift (xs A D R : List Value) (o : Nat) (hA : xs.take o = A) (hl : o + R.length + D.length ≤ xs.length) : ∃ Z, over (over xs (o + R.length) D) o R = A ++ R ++ D ++ Z := by
  obtain ⟨X, B, rfl, hX⟩ := cut_at xs o (by omega)
  simp only [List.length_append] at hl
  obtain ⟨M, B, rfl, hM⟩ := cut_at B R.length (by omega)
  simp only [List.length_append] at hl
  obtain ⟨Y, Z, rfl, hY⟩ := cut_at B D.length (by omega)
  rw [List.take_left' hX] at hA
  subst hA
  refine ⟨Z, ?_⟩
  have h1 := over_mid (X ++ M) Y Z D (o + R.length) (by simp; omega) hY
  have h2 := over_mid X M (D ++ Z) R o hX hM
  simp only [List.append_assoc] at h1 h2 ⊢
  rw [h1, h2]
theorem over_fill (xs A D R : List Value) (o : Nat) (hA : xs.take o = A) (hl : o + R.length + D.length ≤ xs.length) : ∃ Z, over (over xs o R) (o + R.length) D = A ++ R ++ D ++ Z := by
  obtain ⟨X, B, rfl, hX⟩ := cut_at xs o (by omega)
  simp only [List.length_append] at hl
  obtain ⟨M, B, rfl, hM⟩ := cut_at B R.length (by omega)
  simp only [List.length_append] at hl
  obtain ⟨Y, Z, rfl, hY⟩ := cut_at B D.length (by omega)
  rw [List.take_left' hX] at hA
  subst hA
  refine ⟨Z, ?_⟩
  have h1 := over_mid X M (Y ++ Z) R o hX hM
  have h2 := over_mid (X ++ R) Y Z D (o + R.length) (by simp; omega) hY
  simp only [List.append_assoc] at h1 h2 ⊢
  rw [h1, h2]
end Go.Proofs.Ytafnonmpanpfkaa
