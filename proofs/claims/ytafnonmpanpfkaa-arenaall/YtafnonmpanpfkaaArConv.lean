/- A string as bytes: '[]byte(s)'. -/
import Derived.Test.YtafnonmpanpfkaaRegion
import Derived.Laws.IdiomStrings
import Derived.Lib.ConvBytes
import Derived.Laws.BytesArg
import Derived.Test.YtafnonmpanpfkaaNum
namespace Go.Proofs.Ytafnonmpanpfkaa
open Go.RowKit
set_option maxRecDepth 100000

theorem wp_convert {P : Program} {Q : Exit → Act → World → Prop} {K : Act → World → Prop} {o : Oper} {a : Act} {w w' : World} (s d : TypeId) (x : Operand) (ho : o.op = .convert s d x) (u v : Value) (hx : a.eval x = u) (hr : (convert s d u).run P w = .ok v w') (h : K (a.put o.dst v) w') : o.wp P a w K Q := by
  unfold Oper.wp execOp
  simp only [ho, Sem.run_bind, hx, hr]
  exact h
theorem add_plC (b n : Nat) : (⟨b, 0, none⟩ : Addr).add n = ⟨b, n, none⟩ := by
  by_cases h : n = 0
  · subst h; simp [Addr.add]
  · simp [Addr.add, h]
theorem conv_row {xs : List Int} (hb : Byt xs) (hl : xs.length ≤ maxLen) (W : World) : ∃ cap w', (convert 9 32 (.string (strOfNums xs))).run Try.prog W = .ok (.slice (some ⟨W.heap.size, 0, none⟩) xs.length cap) w' ∧ Row w' (some ⟨W.heap.size, 0, none⟩) xs.length cap xs ∧ Below W.heap.size W w' := by
  have hr := Lib.run_convert_string_bytes (P := Try.prog) W 9 32 5 (strOfNums xs) Try.underlying9 Try.underlying32 Try.underlying5
  rw [strOfNums_size] at hr
  have hcl := grownCap_ge W xs.length 0 5
  have hcm := grownCap_le_maxLen W xs.length 0 5 hl
  refine ⟨_, _, hr, ⟨rfl, hcl, hcm, hb, fun h => (by cases h), fun _ => ⟨_, _, rfl⟩, fun x hx i hi => ?_⟩, ⟨rfl, rfl, rfl, ?_, fun k hk => Lib.bytesWorld_at_old _ _ _ _ hk⟩⟩
  · obtain rfl := Option.some.inj hx
    rw [add_plC, Lib.bytesWorld_cell _ _ _ _ (by rw [strOfNums_size]; exact hi), strOfNums_data]
    have h1 : (xs.map fun n => UInt8.ofNat n.toNat).getD i 0 = UInt8.ofNat (xs.getD i 0).toNat := by
      rw [List.getD_eq_getElem?_getD, List.getD_eq_getElem?_getD, List.getElem?_map, List.getElem?_eq_getElem hi]
      rfl
    have h2 := hb (xs.getD i 0) (by rw [List.getD_eq_getElem?_getD, List.getElem?_eq_getElem hi]; exact List.getElem_mem hi)
    rw [h1]
    generalize xs.getD i 0 = y at h2
    congr 2
    rw [UInt8.toNat_ofNat']
    omega
  · rw [Lib.bytesWorld_size]
    omega
end Go.Proofs.Ytafnonmpanpfkaa
