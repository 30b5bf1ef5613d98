/- Ring has begun: a letter is put and taken again. -/
import Derived.Test.YtfofnealkfgjfaaRgPop
import Derived.Test.YtfofnealkfgjfaaRgPut
import Derived.Test.YtfofnealkfgjfaaRgTake
namespace Go.Proofs.Ytfofnealkfgjfaa
open Go.RowKit
set_option maxRecDepth 100000
set_option linter.unusedVariables false

theorem txt_nil_iff {qs : List Le} (h : txt qs = []) : qs = [] := by simpa [txt] using h
theorem txt_cons {qs : List Le} {x : List Int} {xs : List (List Int)} (h : txt qs = x :: xs) : ∃ p rs, qs = p :: rs ∧ p.xs = x ∧ txt rs = xs := by
  cases qs with
  | nil => simp [txt] at h
  | cons p rs => simp [txt] at h; exact ⟨p, rs, rfl, h.1, h.2⟩

set_option maxHeartbeats 4000000 in
theorem begun16_true (w : World) : Calls Try.prog 7 #[] w fun e w' => e = .returned (.bool true) ∧ Below w.heap.size w w' := by
  go_enter Try.func7, Try.ntmps7
  go_wp2_with fail
  refine (push_ok none 0 0 (some ⟨w.heap.size, 0, none⟩) 1 1 [] [7] _ (RowR.nil _) (row_lit w 5 [7] 1 rfl (by omega) (byt_of _ rfl)) (by omega) (by omega) (fun _ h => by simp at h)).mono ?_
  rintro e w1 ⟨s1, c1, qs, rfl, o1, t1, b1⟩
  replace b1 := ext_trans (below_alloc w _) b1
  obtain ⟨p, rs, rfl, hp, hrs⟩ := txt_cons (x := [7]) (xs := []) (by simpa [txt] using t1)
  obtain rfl := txt_nil_iff hrs
  have hpn : p.n = 1 := by have := (o1.row.2 p (by simp)).len; rw [hp] at this; simpa using this.symm
  obtain ⟨pa, pn, pc, px⟩ := p
  obtain rfl : pn = 1 := hpn
  obtain rfl : px = [7] := hp
  have hpop := pop_some s1 0 c1 ⟨pa, 1, pc, [7]⟩ [] w1 o1.row (by omega) (fun q hq => by simp at hq; subst hq; show 1 ≤ _; omega)
  clear hrs t1
  go_wp2_with fail
  refine hpop.mono ?_
  rintro e w2 ⟨a2, s2, c2, k2, q2, rfl, _, _, _, b2⟩
  replace b2 := ext_trans b1 b2
  have hk := takeR_any (some ⟨w2.heap.size, 0, none⟩) 5 5 [1, 0, 1, 7, 9] _ (row_lit w2 5 [1, 0, 1, 7, 9] 5 rfl (by omega) (byt_of _ rfl)) (by omega)
  clear hpop b1 o1
  go_wp2_with fail
  refine hk.mono ?_
  rintro e w3 ⟨s3, k3, c3, p3, E3, rfl, b3, h3⟩
  replace b3 := ext_trans b2 (ext_trans (below_alloc w2 _) b3)
  have hT : tkR [1, 0, 1, 7, 9] = some ([[7]], 4) := by decide
  rw [hT] at h3
  rcases h3 with ⟨qs, q, rfl, rfl, ht, hm, o3⟩ | ⟨_, _, _, _, _, ls, q, ht, hm⟩ | ⟨_, _, _, _, _, ht⟩
  · simp only [Option.some.injEq, Prod.mk.injEq] at ht
    obtain ⟨ht, rfl⟩ := ht
    have hk3 : k3 = 1 := by have := o3.len; have := congrArg List.length ht; rw [txt_len] at this; simp at this; omega
    subst hk3
    have hm1 := may_anyR s3 1 c3 qs w3 o3.row
    have hp1 := put_okR none 0 0 [] s3 1 c3 qs w3 (Row.nil _) o3.row hm (by omega)
    rw [hm] at hm1
    rw [← ht] at hp1
    rw [show ([] : List Int) ++ ringB [[7]] = [1, 0, 1, 7] by decide] at hp1
    clear hm ht hT hk o3
    go_wp2_with fail
    refine hm1.mono ?_
    rintro e w3 ⟨rfl, rfl⟩
    go_wp2_with fail
    refine hp1.mono ?_
    rintro e w4 ⟨g4, k4, c4, rfl, o4, b4⟩
    have hs9 := strR.out w4 _ _ _ _ o4.row
    have hq : ((strOfNums [1, 0, 1, 7]).toList == [1, 0, 1, 7]) = true := by rw [Lib.strOfNums_toList]; rfl
    replace b4 := ext_trans b3 b4
    clear o4 hp1 hm1 b3 b2
    go_wp2_with fail
    go_ret
    exact ⟨rfl, b4⟩
  · simp only [Option.some.injEq, Prod.mk.injEq] at ht
    rw [← ht.1] at hm
    exact absurd hm (by decide)
  · simp at ht
end Go.Proofs.Ytfofnealkfgjfaa
