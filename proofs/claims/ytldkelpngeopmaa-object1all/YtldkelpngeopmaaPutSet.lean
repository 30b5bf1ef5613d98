/- What cats.Put and the document's PutSet write: contracts. -/
import Derived.Test.YtldkelpngeopmaaConcat
import Derived.Test.YtldkelpngeopmaaRef
import Derived.Test.YtldkelpngeopmaaReads
namespace Go.Proofs.Ytldkelpngeopmaa
open Go.RowKit
set_option maxRecDepth 100000

/-- Each category in two bytes. -/
def encS (xs : List Int) : List Int := xs.flatMap (fun c => putB c 2)
theorem encS_len (xs : List Int) : (encS xs).length = 2 * xs.length := by
  induction xs with
  | nil => rfl
  | cons x xs ih => simp only [encS, List.flatMap_cons, List.length_append, putB_len, List.length_cons] at ih ⊢; omega
theorem encS_take {xs : List Int} {i : Nat} (hi : i < xs.length) : encS (xs.take (i + 1)) = encS (xs.take i) ++ putB (xs.getD i 0) 2 := by
  rw [List.take_succ_eq_append_getElem hi, encS, List.flatMap_append, getD_eq hi]
  simp [encS]
theorem encS_byt (xs : List Int) : Byt (encS xs) := by
  intro x hx
  obtain ⟨c, _, hc⟩ := List.mem_flatMap.1 hx
  exact putB_byt _ _ x hc

set_option maxHeartbeats 1000000 in
theorem putSet_any (a b : Option Addr) (n cap m cap2 : Nat) (bs xs : List Int) (w : World) (hr : Row w a n cap bs) (hs : RowW w b m cap2 xs) (hm : mayS xs = true) (hbd : n ≤ 1000000000) :
    Calls Try.prog 31 #[.slice a n cap, .slice b m cap2] w fun e w' => ∃ g c, e = .returned (.slice (some ⟨g, 0, none⟩) (n + (1 + 2 * m)) c) ∧ Own 5 w' w.heap.size g (n + (1 + 2 * m)) c (bs ++ (putB m 1 ++ encS xs)) ∧ Below w.heap.size w w' := by
  have hl : Hid (xs.length = m) := hs.len
  have hm16 : m ≤ 16 := by
    have := hl.out
    simp only [mayS, Bool.and_eq_true, decide_eq_true_eq] at hm
    omega
  have hu : IntKind.u64.wrap (m : Int) = (m : Int) := by rw [IntKind.wrap_u64]; omega
  have hmc := may_any b m cap2 xs w hs
  rw [hm] at hmc
  have HM : Hid (mayS xs = true) := hm
  clear hm
  go_enter Try.func31, Try.ntmps31
  go_wp2_with fail
  refine hmc.mono ?_
  rintro e w1 ⟨rfl, hb1⟩
  clear hmc
  go_wp2_with fail
  refine (put_any none 0 0 m 1 [] _ (Row.nil _) (by omega)).mono ?_
  rintro e w2 ⟨g2, c2, rfl, o2, hb2⟩
  rw [show wid 1 = 1 from rfl, Nat.zero_add, List.nil_append] at o2
  rw [show wid 1 = 1 from rfl, Nat.zero_add]
  have hb12 := ext_trans hb1 hb2
  replace o2 := o2.mono hb1.size
  go_wp2_with fail
  go_loopw [5, 19] (fun o iv wr => ∃ i g c : Nat, i ≤ m ∧ iv = .int .i64 i ∧ o = .slice (some ⟨g, 0, none⟩) (1 + 2 * i) c ∧ Own 5 wr w.heap.size g (1 + 2 * i) c (putB m 1 ++ encS (xs.take i)) ∧ Below w.heap.size w wr) (fun _ i _ => m - (intOf i).toNat)
  case atStart => exact ⟨0, g2, c2, by omega, rfl, rfl, by simpa [encS] using o2, hb12⟩
  case round =>
    obtain ⟨i, g, c, hi, rfl, rfl, ho, hb⟩ := hrel
    by_cases hlt : i < m
    · have hp : (i : Int) < (m : Int) := by omega
      obtain ⟨b1, off, rfl, hc⟩ := (hs.below hb).at (by omega)
      have c1 := hc i hlt
      generalize hX : xs.getD i 0 = X at c1
      have HX : Hid (xs.getD i 0 = X) := hX
      have HXb : 0 ≤ X ∧ X < 65536 := by rw [← hX]; exact hs.wrd.get i
      have hu2 : IntKind.u64.wrap X = X := by rw [IntKind.wrap_u64]; omega
      clear hX hc
      go_wp2_with fail
      refine (put_any _ (1 + 2 * i) c X 2 _ _ ho.row (by omega)).mono ?_
      rintro e w3 ⟨g3, c3, rfl, o3, hb3⟩
      rw [show wid 2 = 2 from rfl] at o3 ⊢
      go_wp2_with fail
      go_roundw
      case rel =>
        refine ⟨i + 1, g3, c3, by omega, by go_num, ?_, ?_, ext_trans hb hb3⟩
        · rw [show 1 + 2 * (i + 1) = 1 + 2 * i + 2 by omega]
        · rw [encS_take (by rw [hl.out]; exact hlt), HX.out, ← List.append_assoc, show 1 + 2 * (i + 1) = 1 + 2 * i + 2 by omega]
          exact o3.mono hb.size
      case measure => simp [intOf]; omega
    · obtain rfl : i = m := by omega
      rw [List.take_of_length_le (by rw [hl.out]; exact Nat.le_refl _)] at ho
      go_wp2_with fail
      refine (concat_two wr.heap.size a (some ⟨g, 0, none⟩) n cap (1 + 2 * i) c bs (putB i 1 ++ encS xs) _ ?_ ?_ ((hr.below hb).below (below_alloc _ _)) (ho.row.below (below_alloc _ _)) (by omega) (by omega)).mono ?_
      · simp
      · simp
      rintro e w3 ⟨g3, c3, rfl, o3, hb3⟩
      go_wp2_with fail
      go_ret
      have hb4 := ext_trans hb (ext_trans (below_alloc wr _) hb3)
      refine ⟨g3, c3, rfl, o3.mono ?_, hb4⟩
      have := hb.size
      simp; omega

set_option maxHeartbeats 1000000 in
theorem refPutSet_any (a b : Option Addr) (n cap m cap2 : Nat) (bs xs : List Int) (w : World) (hr : Row w a n cap bs) (hs : RowW w b m cap2 xs) (hm16 : m ≤ 255) (hbd : n ≤ 1000000000) :
    Calls Try.prog 38 #[.slice a n cap, .slice b m cap2] w fun e w' => ∃ g c, e = .returned (.slice (some ⟨g, 0, none⟩) (n + (1 + 2 * m)) c) ∧ Own 5 w' w.heap.size g (n + (1 + 2 * m)) c (bs ++ (putB m 1 ++ encS xs)) ∧ Below w.heap.size w w' := by
  have hl : Hid (xs.length = m) := hs.len
  have hu : IntKind.u8.wrap (m : Int) = (m : Int) := by rw [IntKind.wrap_u8]; omega
  have hpb : Hid (putB m 1 = [(m : Int)]) := by
    show _ = _
    simp only [putB, Int.pow_zero, Int.ediv_one]
    rw [Int.emod_eq_of_lt (by omega) (by omega)]
  go_enter Try.func38, Try.ntmps38
  go_wp2_with (first | (at_builtin; refine wp_append_bytes _ rfl (.tmp 6) (.tmp 7) 29 rfl 5 Try.underlying29 info5 w.heap.size w.heap.size 0 0 [] rfl (own_lit w 5 [] 0 rfl (by omega) Byt.nil) a n cap bs rfl (hr.below (below_alloc _ _)) (by omega) (by simp) w (below_alloc _ _) ?_; intro g1 c1 w1 o1 b1; rw [Nat.zero_add, List.nil_append] at o1) | (at_builtin; refine wp_append_bytes _ rfl (.tmp 8) (.tmp 12) 29 rfl 5 Try.underlying29 info5 w.heap.size g1 n c1 bs rfl (o1.below (below_alloc _ _)) (some ⟨w1.heap.size, 0, none⟩) 1 1 [(m : Int)] rfl (row_lit w1 5 [_] 1 rfl (by omega) (Byt.one (by omega))) (by omega) (by have := b1.size; simp; omega) w (b1.alloc b1.size _) ?_; intro g2 c2 w2 o2 b2) | fail)
  go_loopw [0, 5] (fun o iv wr => ∃ i g c : Nat, i ≤ m ∧ iv = .int .i64 i ∧ o = .slice (some ⟨g, 0, none⟩) (n + (1 + 2 * i)) c ∧ Own 5 wr w.heap.size g (n + (1 + 2 * i)) c (bs ++ (putB m 1 ++ encS (xs.take i))) ∧ Below w.heap.size w wr) (fun _ i _ => m - (intOf i).toNat)
  case atStart => exact ⟨0, g2, c2, by omega, rfl, rfl, by rw [hpb.out]; simpa [encS] using o2, b2⟩
  case round =>
    obtain ⟨i, g, c, hi, rfl, rfl, ho, hb⟩ := hrel
    by_cases hlt : i < m
    · have hp : (i : Int) < (m : Int) := by omega
      obtain ⟨b1, off, rfl, hc⟩ := (hs.below hb).at (by omega)
      have c1 := hc i hlt
      generalize hX : xs.getD i 0 = X at c1
      have HX : Hid (xs.getD i 0 = X) := hX
      have HXb : 0 ≤ X ∧ X < 65536 := by rw [← hX]; exact hs.wrd.get i
      have hu2 : IntKind.u64.wrap X = X := by rw [IntKind.wrap_u64]; omega
      clear hX hc
      go_wp2_with fail
      refine (refPut_any _ (n + (1 + 2 * i)) c X 2 _ _ ho.row (by omega)).mono ?_
      rintro e w3 ⟨g3, c3, rfl, o3, hb3⟩
      rw [show wid 2 = 2 from rfl] at o3 ⊢
      go_wp2_with fail
      go_roundw
      case rel =>
        refine ⟨i + 1, g3, c3, by omega, by go_num, ?_, ?_, ext_trans hb hb3⟩
        · rw [show n + (1 + 2 * (i + 1)) = n + (1 + 2 * i) + 2 by omega]
        · rw [encS_take (by rw [hl.out]; exact hlt), HX.out, ← List.append_assoc, ← List.append_assoc, show n + (1 + 2 * (i + 1)) = n + (1 + 2 * i) + 2 by omega]
          rw [← List.append_assoc] at o3
          exact o3.mono hb.size
      case measure => simp [intOf]; omega
    · obtain rfl : i = m := by omega
      rw [List.take_of_length_le (by rw [hl.out]; exact Nat.le_refl _)] at ho
      go_wp2_with fail
      go_ret
      exact ⟨g, c, rfl, ho, hb⟩
end Go.Proofs.Ytldkelpngeopmaa
