/- What bytes.Clone, num.TakeBytes and num.PutBytes do: contracts. -/
import Derived.Test.YtafnonmpanpfkaaPut
namespace Go.Proofs.Ytafnonmpanpfkaa
open Go.RowKit
set_option maxRecDepth 100000

set_option maxHeartbeats 400000 in
theorem clone_some (x : Addr) (len cap : Nat) (xs : List Int) (w : World) (hr : Row w (some x) len cap xs) (hbd : len ≤ 140737488351232) :
    Calls Try.prog 23 #[.slice (some x) len cap] w fun e w' => ∃ g cap', e = .returned (.slice (some ⟨g, 0, none⟩) len cap') ∧ Own 5 w' w.heap.size g len cap' xs ∧ Below w.heap.size w w' := by
  have hq := fun W => Lib.run_eql_slice_nil (P := Try.prog) W 32 5 (some x) len cap 0 0 Try.underlying32
  go_enter Try.func23, Try.ntmps23
  go_wp2_with (at_builtin; refine wp_append_bytes _ rfl (.tmp 5) (.tmp 6) 32 rfl 5 Try.underlying32 info5 w.heap.size w.heap.size 0 0 [] rfl (own_lit w 5 [] 0 rfl (by omega) Byt.nil) (some x) len cap xs rfl (hr.below (below_alloc _ _)) (by omega) (by simp) w (below_alloc _ _) ?_; intro g cap' w1 hown hbel)
  go_ret
  exact ⟨g, cap', by simp, by simpa using hown, hbel⟩

set_option maxHeartbeats 400000 in
theorem putBytes_any (a : Option Addr) (len cap : Nat) (xs : List Int) (a2 : Option Addr) (len2 cap2 : Nat) (ys : List Int) (w : World) (hr : Row w a len cap xs) (hr2 : Row w a2 len2 cap2 ys) (hbd : len ≤ 70368744177664) (hbd2 : len2 ≤ 65535) :
    Calls Try.prog 36 #[.slice a len cap, .slice a2 len2 cap2] w fun e w' => ∃ g cap', e = .returned (.slice (some ⟨g, 0, none⟩) (len + 2 + len2) cap') ∧ Own 5 w' w.heap.size g (len + 2 + len2) cap' (xs ++ putB len2 2 ++ ys) ∧ Below w.heap.size w w' := by
  have h1 : ¬ (65535 : Int) < (len2 : Int) := by omega
  have hw : IntKind.u64.wrap (len2 : Int) = (len2 : Int) := by rw [IntKind.wrap_u64]; omega
  go_enter Try.func36, Try.ntmps36
  go_wp2_with fail
  refine (put_any a len cap _ 2 xs _ hr (by omega)).mono ?_
  rintro e w1 ⟨g, cap', rfl, hown, hbel⟩
  have hsz := hbel.size
  go_wp2_with (at_builtin; refine wp_append_bytes _ rfl (.tmp 14) (.tmp 15) 32 rfl 5 Try.underlying32 info5 w.heap.size g (len + 2) cap' (xs ++ putB len2 2) rfl hown a2 len2 cap2 ys rfl (hr2.below hbel) (by omega) hsz w hbel ?_; intro g2 cap2' w2 hown2 hbel2)
  go_ret
  exact ⟨g2, cap2', rfl, hown2, hbel2⟩

end Go.Proofs.Ytafnonmpanpfkaa
