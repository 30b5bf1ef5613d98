/- What lcode.Put answers, of a label that may be: a contract. -/
import Derived.Test.YtldkelpngeopmaaLc
import Derived.Test.YtldkelpngeopmaaJLabOut
import Derived.Test.YtldkelpngeopmaaConcat
namespace Go.Proofs.Ytldkelpngeopmaa
open Go.RowKit
set_option maxRecDepth 100000

set_option maxHeartbeats 400000 in
theorem putTwo_any (a : Option Addr) (len cap : Nat) (v : Int) (m : Nat) (hm : m ≤ 2) (y : Int) (hy : 0 ≤ y ∧ y < 256) (xs : List Int) (w : World) (hr : Row w a len cap xs) (hbd : len ≤ 1000000000) :
    Calls Try.prog 35 #[.slice a len cap, .int .u64 v, .int .i64 m, .int .u8 y] w fun e w' => ∃ g cap', e = .returned (.slice (some ⟨g, 0, none⟩) (len + m + 1) cap') ∧ Own 5 w' w.heap.size g (len + m + 1) cap' (xs ++ (putB v m ++ putB y 1)) ∧ Below w.heap.size w w' := by
  have hw : IntKind.u64.wrap y = y := by rw [IntKind.wrap_u64]; omega
  go_enter Try.func35, Try.ntmps35
  go_wp2_with fail
  refine (put_in a len cap v m (by omega) xs w hr (by omega)).mono ?_
  rintro e w1 ⟨g, c1, rfl, o1, b1⟩
  have h2 := put_in _ (len + m) c1 y 1 (by omega) _ w1 o1.row (by omega)
  have hsz := b1.size
  go_wp2_with fail
  refine h2.mono ?_
  rintro e w2 ⟨g2, c2, rfl, o2, b2⟩
  go_wp2_with fail
  go_ret
  refine ⟨g2, c2, rfl, ?_, ext_trans b1 b2⟩
  rw [← List.append_assoc]
  exact o2.mono hsz

set_option maxHeartbeats 2000000 in
theorem lput_any (a : Option Addr) (len cap : Nat) (bs : List Int) (d : Int) (b : Option Addr) (n c : Nat) (xs : List (Int × Int)) (w : World) (hr : Row w a len cap bs) (hs : RowG PE w b n c xs) (hm : mayB d xs = true) (hbd : len ≤ 1000000000) :
    Calls Try.prog 17 #[.slice a len cap, .agg #[.int .u8 d, .slice b n c]] w fun e w' => ∃ g cap', e = .returned (.slice (some ⟨g, 0, none⟩) (len + (2 + 3 * n)) cap') ∧ Own 5 w' w.heap.size g (len + (2 + 3 * n)) cap' (bs ++ encL d xs) ∧ Below w.heap.size w w' := by
  have hmm := mayB_iff.1 hm
  have hxl : Hid (xs.length = n) := hs.len
  have hn16 : n ≤ 16 := by have := hxl.out; omega
  have hd : 0 ≤ d ∧ d < 256 := by omega
  have hcap := hs.cap_le
  clear hmm
  have hwd : IntKind.u64.wrap d = d := by rw [IntKind.wrap_u64]; omega
  have hwn : IntKind.u8.wrap (n : Int) = (n : Int) := by rw [IntKind.wrap_u8]; omega
  obtain ⟨W, hW⟩ : ∃ W, W = w.alloc (.cells #[.int .u8 d, .slice b n c] 25) := ⟨_, rfl⟩
  have hbW : Below w.heap.size w W := by rw [hW]; exact below_alloc _ _
  have k0 : W.cell? ⟨w.heap.size, 0, none⟩ = some (.int .u8 d) := by rw [hW]; simp
  have k1 : W.cell? ⟨w.heap.size, 1, none⟩ = some (.slice b n c) := by rw [hW]; simp
  have HW : Hid (W = w.alloc (.cells #[.int .u8 d, .slice b n c] 25)) := hW
  clear hW
  have hmay := mayL_any d hd.1 b n c xs W (hs.below hbW)
  rw [hm] at hmay
  go_enter Try.func17, Try.ntmps17
  go_wp2_with fail
  rw [← HW.out]
  refine hmay.mono ?_
  rintro e w1 ⟨rfl, b1⟩
  have q0 : w1.cell? ⟨w.heap.size, 0, none⟩ = some (.int .u8 d) := by rw [b1.cell (lt_of_cell k0)]; exact k0
  have q1 : w1.cell? ⟨w.heap.size, 1, none⟩ = some (.slice b n c) := by rw [b1.cell (lt_of_cell k1)]; exact k1
  have h2 := putTwo_any none 0 0 d 1 (by omega) n (by omega) [] w1 (Row.nil _) (by omega)
  go_wp2_with fail
  refine h2.mono ?_
  rintro e w2 ⟨g2, c2, rfl, o2, b2⟩
  rw [List.nil_append] at o2
  replace o2 : Own 5 w2 w1.heap.size g2 2 c2 (putB d 1 ++ putB n 1) := o2
  have r1 : w2.cell? ⟨w.heap.size, 1, none⟩ = some (.slice b n c) := by rw [b2.cell (lt_of_cell q1)]; exact q1
  have hb2 : Below w.heap.size w w2 := ext_trans hbW (ext_trans b1 b2)
  have hsz1 : w.heap.size ≤ w1.heap.size := Nat.le_trans hbW.size b1.size
  replace o2 := o2.mono hsz1
  clear b1 b2 q0 q1 k0 k1 h2 hmay
  go_wp2_with fail
  go_loopw [5, 24] (fun o iv wr => ∃ (j L g cc : Nat), j ≤ n ∧ L = 2 + 3 * j ∧ iv = .int .i64 j ∧ o = .slice (some ⟨g, 0, none⟩) L cc ∧ Own 5 wr w.heap.size g L cc (putB d 1 ++ putB n 1 ++ encP (xs.take j)) ∧ Below w.heap.size w wr) (fun _ i _ => n - (intOf i).toNat)
  case atStart => exact ⟨0, 2, g2, c2, by omega, by omega, rfl, rfl, by simpa [encP] using o2, hb2⟩
  case round =>
    clear o2 r1 hb2
    obtain ⟨j, L, g, cc, hj, hL, rfl, rfl, ho, hb⟩ := hrel
    have HL : Hid (L = 2 + 3 * j) := hL
    have hL1 : L ≤ 1000 := by omega
    clear hL
    by_cases hlt : j < n
    · have hp : (j : Int) < (n : Int) := by omega
      obtain ⟨bb, off, rfl, _⟩ := hs.at (by omega)
      obtain ⟨X, Y, hX, HXb⟩ := hs.get2 j hlt
      obtain ⟨t1, t2⟩ := (hs.below hb).pair hX
      have HX : Hid (xs[j]? = some (X, Y)) := hX
      clear hX
      have hwX : IntKind.u64.wrap X = X := by rw [IntKind.wrap_u64]; omega
      have h1 := below_alloc wr (.cells #[.int .u16 X, .int .u8 Y] 46)
      have h2 := putTwo_any _ L cc X 2 (by omega) Y HXb.2 _ _ (ho.below h1).row (by omega)
      go_wp2_with fail
      refine h2.mono ?_
      rintro e w3 ⟨g3, c3, rfl, o3, b3⟩
      go_wp2_with fail
      go_roundw
      case rel =>
        refine ⟨j + 1, L + 3, g3, c3, by omega, by have := HL.out; omega, by go_num, rfl, ?_, ext_trans hb (ext_trans h1 b3)⟩
        rw [take_snoc HX.out, encP_snoc, ← List.append_assoc]
        exact o3.mono (Nat.le_trans hb.size h1.size)
      case measure => simp [intOf]; omega
    · obtain rfl : j = n := by omega
      rw [List.take_of_length_le (by rw [hxl.out]; exact Nat.le_refl _)] at ho
      have h1 := below_alloc wr (.cells #[.slice a len cap, .slice (some ⟨g, 0, none⟩) L cc] 29)
      have h2 := concat_two wr.heap.size a (some ⟨g, 0, none⟩) len cap L cc bs _ (wr.alloc (.cells #[.slice a len cap, .slice (some ⟨g, 0, none⟩) L cc] 29)) (by simp) (by simp) (hr.below (ext_trans hb h1)) (ho.below h1).row (by have := HL.out; omega) (by omega)
      go_wp2_with fail
      refine h2.mono ?_
      rintro e w3 ⟨g3, c3, rfl, o3, b3⟩
      go_wp2_with fail
      go_ret
      rw [← HL.out]
      refine ⟨g3, c3, rfl, ?_, ext_trans hb (ext_trans h1 b3)⟩
      rw [encL, hxl.out]
      exact o3.mono (Nat.le_trans hb.size h1.size)
end Go.Proofs.Ytldkelpngeopmaa
