/- scode does something: what the statements ask first; and how a boxed label of sets is read. -/
import Derived.Test.YtaogggldpjljoaaScTake
import Derived.Test.YtaogggldpjljoaaScPut
namespace Go.Proofs.Ytaogggldpjljoaa
open Go.RowKit
set_option linter.unusedVariables false

/-- What 'string(b)' of bytes is. -/
theorem strB : Hid (∀ (W : World) (ao : Option Addr) (n c : Nat) (zs : List Int), Row W ao n c zs → (convert 25 9 (.slice ao n c)).run Try.prog W = .ok (.string (strOfNums zs)) W) := fun W ao n c zs hrow => run_str (P := Try.prog) W 25 9 5 Try.underlying25 Try.underlying5 Try.underlying9 ao n c zs hrow
/-- A label of sets lies in the variable at block G. -/
def Boxed (W : World) (G : Nat) (x : Sv) : Prop := W.cell? ⟨G, 0, none⟩ = some (.slice x.a1 x.n1 x.c1) ∧ W.cell? ⟨G, 1, none⟩ = some (.slice x.a2 x.n2 x.c2) ∧ W.cell? ⟨G, 2, none⟩ = some (.slice x.a3 x.n3 x.c3)
theorem Boxed.new (w : World) (x : Sv) : Boxed (w.alloc (Obj.cells #[.slice x.a1 x.n1 x.c1, .slice x.a2 x.n2 x.c2, .slice x.a3 x.n3 x.c3] 24)) w.heap.size x := by
  obtain ⟨a, b, c, _⟩ := one_sv w x _ (Below.refl _ _)
  exact ⟨a, b, c⟩
theorem Boxed.below {W W' : World} {G : Nat} {x : Sv} (h : Boxed W G x) (hb : Below W.heap.size W W') : Boxed W' G x :=
  ⟨by rw [hb.cell (lt_of_cell h.1)]; exact h.1, by rw [hb.cell (lt_of_cell h.2.1)]; exact h.2.1, by rw [hb.cell (lt_of_cell h.2.2)]; exact h.2.2⟩
theorem sv_len {x : Sv} {w : World} (h : x.In w) : (encV x.xs x.ys x.zs).length = 3 + 2 * (x.n1 + x.n2 + x.n3) := by rw [encV_len, h.r1.len, h.r2.len, h.r3.len]
theorem bytesOf_inj : ∀ {xs ys : List Int}, Byt xs → Byt ys → Lib.bytesOf xs = Lib.bytesOf ys → xs = ys
  | [], [], _, _, _ => rfl
  | [], _ :: _, _, _, h => by simp [Lib.bytesOf] at h
  | _ :: _, [], _, _, h => by simp [Lib.bytesOf] at h
  | x :: xs, y :: ys, hx, hy, h => by
    simp only [Lib.bytesOf, List.map_cons, List.cons.injEq] at h
    have h1 := hx x (by simp)
    have h2 := hy y (by simp)
    have h3 := congrArg UInt8.toNat h.1
    rw [UInt8.toNat_ofNat', UInt8.toNat_ofNat'] at h3
    have h4 : x = y := by omega
    rw [h4, bytesOf_inj (fun z hz => hx z (by simp [hz])) (fun z hz => hy z (by simp [hz])) h.2]
theorem str_inj {xs ys : List Int} (hx : Byt xs) (hy : Byt ys) (h : (strOfNums xs).toList = (strOfNums ys).toList) : xs = ys := by
  rw [Lib.strOfNums_toList, Lib.strOfNums_toList] at h
  exact bytesOf_inj hx hy h


set_option maxHeartbeats 400000 in
theorem place_any (k n : Int) (w : World) (hn : 1 ≤ n ∧ n ≤ 9223372036854775807) :
    Calls Try.prog 14 #[.int .i64 k, .int .i64 n] w fun e w' => ∃ m : Nat, e = .returned (.int .i64 m) ∧ (m : Int) < n ∧ Below w.heap.size w w' := by
  obtain ⟨hn0, hn1⟩ := hn
  have h1 : ¬ n < 1 := by omega
  obtain ⟨t0, t1⟩ := tmod_bd k n hn0
  by_cases hneg : k.tmod n < 0
  · obtain ⟨m, hm⟩ := Int.eq_ofNat_of_zero_le (show 0 ≤ k.tmod n + n by omega)
    go_enter Try.func14, Try.ntmps14
    go_wp2_with fail
    go_ret
    exact ⟨m, by rw [← hm]; rfl, by omega, Below.refl _ _⟩
  · obtain ⟨m, hm⟩ := Int.eq_ofNat_of_zero_le (show 0 ≤ k.tmod n by omega)
    go_enter Try.func14, Try.ntmps14
    go_wp2_with fail
    go_ret
    exact ⟨m, rfl, by omega, Below.refl _ _⟩


set_option maxHeartbeats 2000000 in
theorem begun9_true (w : World) : Calls Try.prog 7 #[] w fun e w' => e = .returned (.bool true) ∧ Below w.heap.size w w' := by
  go_enter Try.func7, Try.ntmps7
  go_wp2_with fail
  refine (stake_any (some ⟨w.heap.size, 0, none⟩) 6 6 [1, 0, 3, 0, 0, 9] _ (row_lit w 5 [1, 0, 3, 0, 0, 9] 6 rfl (by omega) (byt_of _ rfl)) (by omega)).mono ?_
  rintro e w1 ⟨x, rfl, i1, ⟨l1, l2, l3⟩, b1⟩
  rw [show svX [1, 0, 3, 0, 0, 9] = [3] by decide +kernel] at l1
  rw [show svY [1, 0, 3, 0, 0, 9] = [] by decide +kernel] at l2
  rw [show svZ [1, 0, 3, 0, 0, 9] = [] by decide +kernel] at l3
  rw [show svN [1, 0, 3, 0, 0, 9] = 5 by decide +kernel, show svE [1, 0, 3, 0, 0, 9] = 0 by decide +kernel]
  replace b1 := ext_trans (below_alloc w _) b1
  have k1 : x.n1 = 1 := by rw [← i1.r1.len, l1]; rfl
  have k2 : x.n2 = 0 := by rw [← i1.r2.len, l2]; rfl
  have k3 : x.n3 = 0 := by rw [← i1.r3.len, l3]; rfl
  have q1 : ((x.n1 : Int) == 1) = true := by rw [k1]; rfl
  have h1 := below_alloc w1 (Obj.cells #[.slice x.a1 x.n1 x.c1, .slice x.a2 x.n2 x.c2, .slice x.a3 x.n3 x.c3] 24)
  have hp := sput_any none 0 0 [] x 5 (by omega) _ (Row.nil _) (i1.below h1) (by rw [l1, l2, l3]; decide +kernel) (by omega)
  rw [l1, l2, l3, show [] ++ encV [3] [] [] = [1, 0, 3, 0, 0] by decide] at hp
  replace b1 := ext_trans b1 h1
  clear h1 k1 k2 k3 i1 l1 l2 l3
  go_wp2_with fail
  refine hp.mono ?_
  rintro e w2 ⟨g2, c2, rfl, o2, b2⟩
  have o3 : Own 5 w2 _ g2 5 c2 [1, 0, 3, 0, 0] := o2
  have hs9 := strB.out w2 _ _ _ _ o3.row
  have hq : ((strOfNums [1, 0, 3, 0, 0]).toList == [1, 0, 3, 0, 0]) = true := by rw [Lib.strOfNums_toList]; rfl
  replace b2 := ext_trans b1 b2
  clear o2 o3 b1 hp
  go_wp2_with fail
  go_ret
  exact ⟨rfl, b2⟩
end Go.Proofs.Ytaogggldpjljoaa
