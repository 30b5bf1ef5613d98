/- From what a row hands over (a slice of bytes that came in; an integer that fits its kind) to what the walks ask. -/
import Derived.Test.YtafnonmpanpfkaaBytes
import Derived.OpenShut
namespace Go.Proofs.Ytafnonmpanpfkaa
open Go.RowKit
set_option maxRecDepth 100000

theorem row_of {w : World} {a : Option Addr} {len cap : Nat} {zs : List Int}
    (h : (a = none ∧ len = 0 ∧ cap = 0 ∧ zs = []) ∨ ∃ x, a = some x ∧ len ≤ cap ∧ cap ≤ maxLen ∧ zs.length = cap ∧ (∀ i, i < zs.length → w.cell? (x.add i) = some (.int .u8 (zs.getD i 0))) ∧ ∀ n ∈ zs, (Lit.int .u8 n).wf = true) :
    Row w a len cap (zs.take len) := by
  rcases h with ⟨rfl, rfl, rfl, rfl⟩ | ⟨x, rfl, hl, hm, hz, hcell, hwz⟩
  · exact Row.nil w
  · refine ⟨by simp; omega, hl, hm, fun y hy => ?_, fun h => by simp at h, fun hp => ?_, fun y hy i hi => ?_⟩
    · have := bounds_u8 (hwz y (List.mem_of_mem_take hy)); omega
    · have hc := hcell 0 (by omega)
      obtain ⟨b, off, spot⟩ := x
      have hspot : spot = none := by simpa [Addr.add] using World.cell?_spot hc
      subst hspot
      exact ⟨b, off, rfl⟩
    · obtain rfl := Option.some.inj hy
      rw [hcell i (by omega)]
      simp [List.getD, hi]
end Go.Proofs.Ytafnonmpanpfkaa
