/- NameAll: what the code says of a number is what the document says of it, for every number, every box and every n. -/
import Derived.Test.YtpnlibdfbopmhaaNmBegun
namespace Go.Proofs.Ytpnlibdfbopmhaa
open Go.RowKit
set_option maxRecDepth 100000

set_option maxHeartbeats 800000 in
theorem nameAll_walk (x b n : Int) (hx : U x) (hb : U b) (w : World) : Calls Try.prog 3 #[.int .u64 x, .int .u64 b, .int .i64 n] w fun e w' => e = .returned (.bool true) ∧ Below w.heap.size w w' := by
  go_enter Try.func3, Try.ntmps3
  go_wp2_with fail
  refine (begun14_true _).mono ?_
  rintro e w1 ⟨rfl, b1⟩
  go_wp2_with fail
  refine (of_any b n hb _).mono ?_
  rintro e w2 ⟨rfl, rfl⟩
  go_wp2_with fail
  refine (refOf_any b n hb _).mono ?_
  rintro e w3 ⟨rfl, b3⟩
  replace b3 := ext_trans b1 b3
  clear b1
  go_wp2_with fail
  refine (may_any x hx _).mono ?_
  rintro e w4 ⟨rfl, rfl⟩
  go_wp2_with fail
  refine (refMay_any x hx _).mono ?_
  rintro e w5 ⟨rfl, b5⟩
  replace b5 := ext_trans b3 b5
  clear b3
  go_wp2_with fail
  refine (parent_any x hx _).mono ?_
  rintro e w6 ⟨rfl, rfl⟩
  go_wp2_with fail
  refine (refParent_any x hx _).mono ?_
  rintro e w7 ⟨rfl, b7⟩
  replace b7 := ext_trans b5 b7
  clear b5
  go_wp2_with fail
  refine (number_any x hx _).mono ?_
  rintro e w8 ⟨rfl, rfl⟩
  go_wp2_with fail
  refine (refNumber_any x hx _).mono ?_
  rintro e w9 ⟨rfl, b9⟩
  replace b9 := ext_trans b7 b9
  clear b7
  go_wp2_with fail
  refine (depthOf_any x hx _).mono ?_
  rintro e w10 ⟨rfl, rfl⟩
  go_wp2_with fail
  refine (refDepth_any x hx _).mono ?_
  rintro e w11 ⟨rfl, b11⟩
  replace b11 := ext_trans b9 b11
  clear b9
  go_wp2_with fail
  refine (path_any x hx _).mono ?_
  rintro e w12 ⟨s1, n1, c1, rfl, r1, b12⟩
  replace b12 := ext_trans b11 b12
  clear b11
  go_wp2_with fail
  refine (refPath_any x hx _).mono ?_
  rintro e w13 ⟨s2, n2, c2, rfl, r2, b13⟩
  obtain rfl : n1 = n2 := r1.len.symm.trans r2.len
  replace r1 := r1.below b13
  replace b13 := ext_trans b12 b13
  clear b12
  go_wp2_with fail
  refine (sameIDs_true s1 s2 n1 c1 c2 _ _ r1 r2).mono ?_
  rintro e w14 ⟨rfl, b14⟩
  replace b14 := ext_trans b13 b14
  clear b13 r1 r2
  go_wp2_with fail
  refine (within_any x b hx hb _).mono ?_
  rintro e w15 ⟨rfl, rfl⟩
  go_wp2_with fail
  refine (refMay_any b hb _).mono ?_
  rintro e w16 ⟨rfl, b16⟩
  replace b16 := ext_trans b14 b16
  clear b14
  cases h : isN b with
  | false =>
    rw [wi_box h]
    go_wp2_with fail
    go_ret
    exact ⟨rfl, b16⟩
  | true =>
    go_wp2_with fail
    refine (refWithin_any x b hx _).mono ?_
    rintro e w17 ⟨rfl, b17⟩
    go_wp2_with fail
    go_ret
    exact ⟨rfl, ext_trans b16 b17⟩
end Go.Proofs.Ytpnlibdfbopmhaa
