/- What the document's Copy of a list of letters answers: a contract. -/
import Derived.Test.YtfofnealkfgjfaaRgOps
namespace Go.Proofs.Ytfofnealkfgjfaa
open Go.RowKit
set_option maxRecDepth 100000
set_option linter.unusedVariables false

set_option maxHeartbeats 2000000 in
theorem copyR_any (a : Option Addr) (n c : Nat) (ps : List Le) (w : World) (hr : RowR w a n c ps) (hn : n ≤ 100000) (hp : ∀ p ∈ ps, p.n ≤ 70368744177664) :
    Calls Try.prog 15 #[.slice a n c] w fun e w' => ∃ (so : Option Addr) (co : Nat) (qs : List Le), e = .returned (.slice so n co) ∧ OwnR w' w.heap.size so n co qs ∧ txt qs = txt ps ∧ Below w.heap.size w w' := by
  have hl := hr.len
  have hcap := hr.cap_le
  go_enter Try.func15, Try.ntmps15
  go_wp2_with fail
  go_loopw [3, 4] (fun s3 i wr => ∃ (j : Nat) (so : Option Addr) (co : Nat) (qs : List Le), j ≤ n ∧ s3 = .slice so j co ∧ i = .int .i64 j ∧ OwnR wr w.heap.size so j co qs ∧ txt qs = (txt ps).take j ∧ Below w.heap.size w wr) (fun _ i _ => n - (intOf i).toNat)
  case atStart => exact ⟨0, none, 0, [], by omega, rfl, rfl, OwnR.nil _ _, by simp [txt], Below.refl _ _⟩
  case round =>
    obtain ⟨j, so, co, qs, hj, rfl, rfl, ho, ht, hbel⟩ := hrel
    by_cases h : j < n
    · have h1 : (j : Int) < (n : Int) := by omega
      obtain ⟨g, off, rfl, hr'⟩ := (hr.below hbel).at (by omega)
      obtain ⟨p, hp1⟩ := hr.get j h
      obtain ⟨c1, r1⟩ := hr'.cell hp1
      have HP : Hid (ps[j]? = some p) := hp1
      have HT : Hid (txt qs = (txt ps).take j) := ht
      have hpn := hp p (List.mem_of_getElem? hp1)
      have hsz := hbel.size
      have bz := below_alloc wr (.cells #[] 5)
      have c1' := (bz.cell (lt_of_cell c1)).trans c1
      have r1' := r1.below bz
      clear hr' hp1 ht
      go_wp2_with (first | (at_builtin; refine wp_append_bytes _ rfl (.tmp 12) (.tmp 16) 22 rfl 5 Try.underlying22 info5 wr.heap.size wr.heap.size 0 0 [] rfl (own_lit wr 5 [] 0 rfl (by omega) Byt.nil) p.a p.n p.c p.xs rfl r1' (by omega) (by simp) wr bz ?_; intro g2 c2 w2 o2 b2; rw [Nat.zero_add, List.nil_append] at o2; have b2' := hbel.trans (b2.mono hbel.size); have ho2 := ho.below b2; have hL2 : LeO w2 w.heap.size ⟨some ⟨g2, 0, none⟩, p.n, c2, p.xs⟩ := (LeO.made o2).mono hsz) | (at_builtin; refine wp_append_letter _ rfl (.tmp 11) (.tmp 18) 24 rfl Try.underlying24 w.heap.size j co so qs rfl (ho2.below (below_alloc _ _)) _ 1 ⟨some ⟨g2, 0, none⟩, p.n, c2, p.xs⟩ rfl (lit_one _ ⟨some ⟨g2, 0, none⟩, p.n, c2, p.xs⟩) (hL2.below (below_alloc _ _)) (by omega) (by have := b2'.size; simp; omega) w (b2'.alloc b2'.size _) ?_; intro so' co' w3 o3 b3 _))
      go_roundw
      case rel =>
        refine ⟨j + 1, so', co', _, by omega, rfl, by go_num, o3, ?_, b3⟩
        rw [txt_append, HT.out, txt_one]
        have := HP.out
        rw [List.take_add_one]
        congr 1
        simp [txt, this]
      case measure => simp [intOf]; omega
    · have h1 : ¬ (j : Int) < (n : Int) := by omega
      obtain rfl : j = n := by omega
      go_wp2_with fail
      go_ret
      exact ⟨so, co, rfl, qs, ho, by rw [ht, List.take_of_length_le (by rw [txt_len]; omega)], hbel⟩
end Go.Proofs.Ytfofnealkfgjfaa
