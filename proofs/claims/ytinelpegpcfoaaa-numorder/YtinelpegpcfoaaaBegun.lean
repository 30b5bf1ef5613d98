/- 'begun' answers true, whatever the world. -/
import Derived.Test.YtinelpegpcfoaaaNumBytes
namespace Go.Proofs.Ytinelpegpcfoaaa
open Go.RowKit

theorem take_bel (a : Option Addr) (len cap : Nat) (n : Int) (xs : List Int) (w : World) (hr : Row w a len cap xs) :
    Calls Try.prog 13 #[.slice a len cap, .int .i64 n] w fun e w' => e = .returned (.tuple #[.int .u64 (takeV xs n), .int .i64 (takeE xs n)]) ∧ Below w.heap.size w w' :=
  (take_any a len cap n xs w hr).mono fun _ _ h => ⟨h.1, h.2 ▸ Below.refl _ _⟩
theorem takeBytes_short_bel (a : Option Addr) (len cap : Nat) (xs : List Int) (w : World) (hr : Row w a len cap xs) (h : len < 2 ∨ len < num (xs.take 2) + 2) :
    Calls Try.prog 16 #[.slice a len cap] w fun e w' => e = .returned (.tuple #[.slice none 0 0, .int .i64 0, .int .i64 3]) ∧ Below w.heap.size w w' :=
  (takeBytes_short a len cap xs w hr h).mono fun _ _ h => ⟨h.1, h.2 ▸ Below.refl _ _⟩
set_option maxHeartbeats 400000 in
theorem begun_true (w : World) : Calls Try.prog 9 #[] w fun e w' => e = .returned (.bool true) ∧ Below w.heap.size w w' := by
  go_enter Try.func9, Try.ntmps9
  go_wp2_with fail
  refine (take_bel _ 2 2 2 [1, 2] _ (row_lit w 5 [1, 2] 2 rfl (by omega) (byt_of _ rfl))).mono ?_
  rintro e w1 ⟨rfl, hb1⟩
  replace hb1 := ext_trans (below_alloc _ _) hb1
  rw [show takeV [1, 2] 2 = 258 from rfl, show takeE [1, 2] 2 = 0 from rfl]
  go_wp2_with fail
  refine (takeBytes_in w1.heap.size 0 3 3 [0, 1, 9] _ (row_lit w1 5 [0, 1, 9] 3 rfl (by omega) (byt_of _ rfl)) (by omega) (by omega) 1 rfl (by omega)).mono ?_
  rintro e w2 ⟨g, cap, rfl, hown, hb2⟩
  replace hb2 := ext_trans (ext_trans hb1 (below_alloc _ _)) hb2
  go_wp2_with fail
  refine (put_any none 0 0 258 2 [] _ (Row.nil _) (by omega)).mono ?_
  rintro e w3 ⟨g3, cap3, rfl, hown3, hb3⟩
  replace hb3 := ext_trans hb2 hb3
  rw [show wid 2 = 2 from rfl, show putB 258 2 = [1, 2] from rfl, List.nil_append] at hown3
  rw [show wid 2 = 2 from rfl]
  have hs9 := run_str (P := Try.prog) w3 22 9 5 Try.underlying22 Try.underlying5 Try.underlying9 _ _ _ _ hown3.row
  have hq : ((strOfNums [1, 2]).toList == [1, 2]) = true := by rw [Lib.strOfNums_toList]; rfl
  go_wp2_with fail
  refine (putBytes_any none 0 0 [] _ 1 1 [7] _ (Row.nil _) (row_lit w3 5 [7] 1 rfl (by omega) (byt_of _ rfl)) (by omega) (by omega)).mono ?_
  rintro e w4 ⟨g4, cap4, rfl, hown4, hb4⟩
  replace hb4 := ext_trans (ext_trans hb3 (below_alloc _ _)) hb4
  go_wp2_with fail
  go_ret
  exact ⟨rfl, hb4⟩
end Go.Proofs.Ytinelpegpcfoaaa
