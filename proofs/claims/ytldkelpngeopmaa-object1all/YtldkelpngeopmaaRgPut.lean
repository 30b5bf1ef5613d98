/- The bytes of a list of letters, and what ring.Put answers of one that may be: a contract. -/
import Derived.Test.YtldkelpngeopmaaRgOps
import Derived.Test.YtldkelpngeopmaaConcat
namespace Go.Proofs.Ytldkelpngeopmaa
open Go.RowKit
set_option maxRecDepth 100000
set_option linter.unusedVariables false

/-- The bytes of one letter, of letters, of a list. -/
def letB (l : List Int) : List Int := putB l.length 2 ++ l
def letsB (ls : List (List Int)) : List Int := ls.flatMap letB
def ringB (ls : List (List Int)) : List Int := putB ls.length 1 ++ letsB ls
theorem letB_len (l : List Int) : (letB l).length = 2 + l.length := by simp [letB, putB_len]
theorem letsB_snoc (ls : List (List Int)) (l : List Int) : letsB (ls ++ [l]) = letsB ls ++ letB l := by simp [letsB]
theorem ringB_len (ls : List (List Int)) : (ringB ls).length = 1 + (letsB ls).length := by simp [ringB, putB_len]
theorem letsB_le : ∀ (ls : List (List Int)), (∀ l ∈ ls, l.length ≤ 16) → (letsB ls).length ≤ 18 * ls.length
  | [], _ => by simp [letsB]
  | l :: ls, h => by
    have := letsB_le ls (fun x hx => h x (by simp [hx]))
    have hl := h l (by simp)
    have e : letsB (l :: ls) = letB l ++ letsB ls := by simp [letsB]
    rw [e, List.length_append, letB_len, List.length_cons]; omega

set_option maxHeartbeats 4000000 in
theorem put_okR (b : Option Addr) (m d : Nat) (ys : List Int) (a : Option Addr) (n c : Nat) (ps : List Le) (w : World) (hs : Row w b m d ys) (hr : RowR w a n c ps) (hm : mayT (txt ps) = true) (hb : m ≤ 1000000) :
    Calls Try.prog 32 #[.slice b m d, .slice a n c] w fun e w' => ∃ g k c', e = .returned (.slice (some ⟨g, 0, none⟩) k c') ∧ Own 5 w' w.heap.size g k c' (ys ++ ringB (txt ps)) ∧ Below w.heap.size w w' := by
  have hl := hr.len
  have hcap := hr.cap_le
  have hmi := (mayT_iff _).1 hm
  have h16 := hr.le16.1 hmi.2
  have hn4 : n ≤ 4 := by have := hmi.1; rw [txt_len] at this; omega
  have HL : Hid (∀ j, j ≤ n → (letsB ((txt ps).take j)).length ≤ 18 * j) := fun j hj => by
    have := letsB_le ((txt ps).take j) (fun l hl => hmi.2 l (List.mem_of_mem_take hl))
    simp [txt_len] at this; omega
  clear hmi
  go_enter Try.func32, Try.ntmps32
  go_wp2_with fail
  refine (may_anyR a n c ps _ hr).mono ?_
  rintro e w ⟨rfl, rfl⟩
  rw [hm]
  have hwr : IntKind.u64.wrap (n : Int) = (n : Int) := by rw [IntKind.wrap_u64]; omega
  go_wp2_with fail
  refine (put_any none 0 0 n 1 [] _ (Row.nil _) (by omega)).mono ?_
  rintro e w1 ⟨g1, c1, rfl, o1, b1⟩
  have hw1 : wid 1 = 1 := by decide
  rw [hw1] at o1
  rw [hw1]
  go_wp2_with fail
  go_loopw [5, 7, 19] (fun s5 s7 i wr => ∃ (j g c L : Nat), j ≤ n ∧ s5 = .slice (some ⟨g, 0, none⟩) L c ∧ (∃ z : Value, s7 = z) ∧ i = .int .i64 j ∧ Own 5 wr w.heap.size g L c (putB n 1 ++ letsB ((txt ps).take j)) ∧ L ≤ 1 + 18 * j ∧ Below w.heap.size w wr) (fun _ _ i _ => n - (intOf i).toNat)
  case atStart => exact ⟨0, g1, c1, 1, by omega, rfl, ⟨_, rfl⟩, rfl, by simpa [letsB] using o1, by omega, b1⟩
  case round =>
    obtain ⟨j, g, cc, L, hj, rfl, ⟨z, rfl⟩, rfl, ho, hL, hbel⟩ := hrel
    by_cases h : j < n
    · have h1 : (j : Int) < (n : Int) := by omega
      obtain ⟨gb, off, rfl, hr'⟩ := (hr.below hbel).at (by omega)
      obtain ⟨p, hp1⟩ := hr.get j h
      obtain ⟨k1, r1⟩ := hr'.cell hp1
      have HP : Hid (ps[j]? = some p) := hp1
      have hpn := h16 p (List.mem_of_getElem? hp1)
      have hpl := r1.len
      clear hr' hp1
      go_wp2_with fail
      refine (putBytes_any _ L cc _ p.a p.n p.c p.xs _ ho.row r1 (by omega) (by omega)).mono ?_
      rintro e w2 ⟨g2, c2, rfl, o2, b2⟩
      have b2' := hbel.trans (b2.mono hbel.size)
      go_wp2_with fail
      go_roundw
      case rel =>
        refine ⟨j + 1, g2, c2, L + 2 + p.n, by omega, rfl, ⟨_, rfl⟩, by go_num, ?_, by omega, b2'⟩
        have e1 : (txt ps).take (j + 1) = (txt ps).take j ++ [p.xs] := by
          rw [List.take_add_one]; congr 1
          have := HP.out
          simp [txt, this]
        rw [e1, letsB_snoc, ← List.append_assoc]
        have o3 := o2.mono hbel.size
        rw [List.append_assoc (putB (n : Int) 1 ++ _)] at o3
        unfold letB
        rw [hpl]
        exact o3
      case measure => simp [intOf]; omega
    · have h1 : ¬ (j : Int) < (n : Int) := by omega
      obtain rfl : j = n := by omega
      have hp0 : 0 < L := by have := ho.1; simp [putB_len] at this; omega
      rw [List.take_of_length_le (by rw [txt_len]; omega)] at ho
      go_wp2_with fail
      refine (concat_two _ b (some ⟨g, 0, none⟩) m d L cc ys _ _ (by simp) (by simp) ((hs.below hbel).below (below_alloc _ _)) (ho.row.below (below_alloc _ _)) (by omega) (by omega)).mono ?_
      rintro e w3 ⟨g3, c3, rfl, o3, b3⟩
      go_wp2_with fail
      go_ret
      refine ⟨g3, m + L, c3, rfl, ?_, ?_⟩
      · have := o3.mono (B' := w.heap.size) (by have := hbel.size; simp; omega)
        unfold ringB
        rw [txt_len, hl]
        exact this
      · exact (hbel.alloc hbel.size _).trans (b3.mono (by have := hbel.size; simp; omega))
end Go.Proofs.Ytldkelpngeopmaa
