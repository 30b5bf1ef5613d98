/- That sets does something: what the statements ask first. -/
import Derived.Test.YtdoemkncgfgkhaaSvMake
namespace Go.Proofs.Ytdoemkncgfgkhaa
open Go.RowKit
set_option maxRecDepth 100000

@[go_sem] theorem run_field0 (w : World) (v0 v1 v2 : Value) : (Instr.field 27 (.agg #[v0, v1, v2]) 0).run Try.prog w = .ok v0 w := by kernel_rfl
/-- One category in the first set, at block g. -/
def lone (g : Nat) (c : Int) : Sv := ⟨some ⟨g, 0, none⟩, 1, 1, [c], none, 0, 0, [], none, 0, 0, []⟩
theorem lone_in {W : World} {g : Nat} {c : Int} (h : RowW W (some ⟨g, 0, none⟩) 1 1 [c]) : (lone g c).In W := ⟨h, RowW.nil _, RowW.nil _⟩
theorem less_self (c : Int) : mrg true false false [c] [c] = [] := by rw [mrg_eq _ _ _ rfl, mrg_nil_left]; rfl
theorem or_self (c : Int) : mrg true true true [c] [c] = [c] := by rw [mrg_eq _ _ _ rfl, mrg_nil_left]; rfl
theorem may_one : mayV [3] [] [] = true := by
  rw [mayV_iff]
  exact ⟨⟨srt_one _, Srt.nil, Srt.nil⟩, ⟨fun z _ h => by simp at h, fun z _ h => by simp at h, fun z h => by simp at h⟩, by decide⟩
theorem fl_none (g : Nat) : Sv.none.flows (lone g 3) = true := by simp [Sv.flows, Sv.none, lone, mrg_nil_left]
theorem fl_one (g : Nat) : (lone g 3).flows Sv.none = false := by simp [Sv.flows, Sv.none, lone, mrg_nil_right]
theorem sm_one (x : Sv) : x.same x = true := by simp [Sv.same]

end Go.Proofs.Ytdoemkncgfgkhaa
