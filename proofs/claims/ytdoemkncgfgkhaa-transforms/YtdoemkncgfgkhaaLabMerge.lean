/- What goes through two labels at once, by goto, answers: a contract, for every two labels. -/
import Derived.Test.YtdoemkncgfgkhaaLabPut
namespace Go.Proofs.Ytdoemkncgfgkhaa
open Go.RowKit
set_option maxRecDepth 100000

theorem mg_first (d e : Int) {xs ys : List (Int × Int)} {X Y : Int} (hx : xs[0]? = some (X, Y)) (h : ys = [] ∨ ∃ X' Y', ys[0]? = some (X', Y') ∧ X < X') : mg d e xs ys = (X, Y, e) :: mg d e (xs.drop 1) ys := by
  cases xs with
  | nil => simp at hx
  | cons p ps =>
    obtain rfl : p = (X, Y) := by simpa using hx
    cases ys with
    | nil => rw [mg]; rfl
    | cons q qs =>
      rcases h with h | ⟨X', Y', h1, h2⟩
      · simp at h
      · obtain rfl : q = (X', Y') := by simpa using h1
        rw [mg, if_pos h2]; rfl
theorem mg_second (d e : Int) {xs ys : List (Int × Int)} {X Y : Int} (hx : ys[0]? = some (X, Y)) (h : xs = [] ∨ ∃ X' Y', xs[0]? = some (X', Y') ∧ X < X') : mg d e xs ys = (X, d, Y) :: mg d e xs (ys.drop 1) := by
  cases ys with
  | nil => simp at hx
  | cons p ps =>
    obtain rfl : p = (X, Y) := by simpa using hx
    cases xs with
    | nil => rw [mg]; rfl
    | cons q qs =>
      rcases h with h | ⟨X', Y', h1, h2⟩
      · simp at h
      · obtain rfl : q = (X', Y') := by simpa using h1
        rw [mg, if_neg (by simp only; omega), if_pos h2]; rfl
theorem mg_same (d e : Int) {xs ys : List (Int × Int)} {X Y Y' : Int} (hx : xs[0]? = some (X, Y)) (hy : ys[0]? = some (X, Y')) : mg d e xs ys = (X, Y, Y') :: mg d e (xs.drop 1) (ys.drop 1) := by
  cases xs with
  | nil => simp at hx
  | cons p ps =>
    obtain rfl : p = (X, Y) := by simpa using hx
    cases ys with
    | nil => simp at hy
    | cons q qs =>
      obtain rfl : q = (X, Y') := by simpa using hy
      rw [mg, if_neg (by simp only; omega), if_neg (by simp only; omega)]; rfl

/-- A slot of a run. -/
def sl (a : Act) (i : Nat) : Value := a.tmps.getD i undef
/-- What holds at a label of the merge: how the run stands there. -/
def LAt (w W0 : World) (d d' : Int) (a1 a2 : Option Addr) (n1 c1 n2 c2 : Nat) (zs : List (Int × Int × Int)) (l : Nat) (a' : Act) (w' : World) : Prop :=
  ∃ (aa ab so : Option Addr) (na ca nb cb no co : Nat) (xs ys : List (Int × Int)) (os : List (Int × Int × Int)),
    a' = { tmps := #[.agg #[.int .u8 d, .slice a1 n1 c1], .agg #[.int .u8 d', .slice a2 n2 c2], .pointer (some ⟨w.heap.size, 0, none⟩), .pointer (some ⟨w.heap.size + 1, 0, none⟩), .slice none 0 0, .slice so no co, .slice aa na ca, .slice ab nb cb, sl a' 8, sl a' 9, sl a' 10, sl a' 11, sl a' 12, sl a' 13, sl a' 14, sl a' 15, sl a' 16, sl a' 17, sl a' 18, sl a' 19, sl a' 20, sl a' 21, sl a' 22, sl a' 23, sl a' 24, sl a' 25, sl a' 26, sl a' 27, sl a' 28, sl a' 29, sl a' 30, sl a' 31, sl a' 32, sl a' 33, sl a' 34, sl a' 35, sl a' 36, sl a' 37, sl a' 38, sl a' 39, sl a' 40, sl a' 41, sl a' 42, sl a' 43, sl a' 44, sl a' 45, sl a' 46, sl a' 47, sl a' 48, sl a' 49, sl a' 50, sl a' 51, sl a' 52, sl a' 53, sl a' 54, sl a' 55, sl a' 56, sl a' 57, sl a' 58, sl a' 59, sl a' 60, sl a' 61, sl a' 62, sl a' 63, sl a' 64, sl a' 65, sl a' 66, sl a' 67, sl a' 68, sl a' 69, sl a' 70, sl a' 71, sl a' 72, sl a' 73, sl a' 74, sl a' 75, sl a' 76, sl a' 77, sl a' 78, sl a' 79, sl a' 80, sl a' 81, sl a' 82, sl a' 83, sl a' 84, sl a' 85, sl a' 86, sl a' 87, sl a' 88, sl a' 89, sl a' 90, sl a' 91, sl a' 92, sl a' 93, sl a' 94, sl a' 95, sl a' 96], defers := [] } ∧
    Below W0.heap.size W0 w' ∧ RowG PE w aa na ca xs ∧ RowG PE w ab nb cb ys ∧ na ≤ n1 ∧ nb ≤ n2 ∧ OwnG RE 72 w' W0.heap.size so no co os ∧ no + na + nb ≤ n1 + n2 ∧ os ++ mg d d' xs ys = zs ∧
    ((l = 0) ∨ (l = 1 ∧ ∃ X Y, xs[0]? = some (X, Y) ∧ mg d d' xs ys = (X, Y, d') :: mg d d' (xs.drop 1) ys) ∨ (l = 2 ∧ ∃ X Y, ys[0]? = some (X, Y) ∧ mg d d' xs ys = (X, d, Y) :: mg d d' xs (ys.drop 1)))
def LMu (l : Nat) (a' : Act) (_ : World) : Nat := 2 * (slen (a'.tmps.getD 6 undef) + slen (a'.tmps.getD 7 undef)) + (if l = 0 then 1 else 0)

set_option maxHeartbeats 8000000 in
theorem mergeL_any (d d' : Int) (a1 a2 : Option Addr) (n1 c1 n2 c2 : Nat) (xs0 ys0 : List (Int × Int)) (w : World) (hr : RowG PE w a1 n1 c1 xs0) (hs : RowG PE w a2 n2 c2 ys0) (hd : 0 ≤ d ∧ d < 256) (hd' : 0 ≤ d' ∧ d' < 256) (hbd : n1 + n2 ≤ 100000000) :
    Calls Try.prog 59 #[.agg #[.int .u8 d, .slice a1 n1 c1], .agg #[.int .u8 d', .slice a2 n2 c2]] w fun e w' => ∃ so k co, e = .returned (.slice so k co) ∧ OwnG RE 72 w' w.heap.size so k co (mg d d' xs0 ys0) ∧ k ≤ n1 + n2 ∧ Below w.heap.size w w' := by
  have hcap1 := hr.cap_le
  have hcap2 := hs.cap_le
  go_enter Try.func59, Try.ntmps59
  go_wp2_with fail
  obtain ⟨W0, hW⟩ : ∃ W, W = ((w.alloc (Obj.cells #[Value.int IntKind.u8 d, Value.slice a1 n1 c1] 24)).alloc (Obj.cells #[Value.int IntKind.u8 d', Value.slice a2 n2 c2] 24)) := ⟨_, rfl⟩
  rw [← hW]
  have hb0 : Below w.heap.size w W0 := hW ▸ two_allocs _ _ _
  have hsz : W0.heap.size = w.heap.size + 2 := by rw [hW]; simp
  have k0 : W0.cell? ⟨w.heap.size, 0, none⟩ = some (.int .u8 d) := by rw [hW]; simp
  have k1 : W0.cell? ⟨w.heap.size, 1, none⟩ = some (.slice a1 n1 c1) := by rw [hW]; simp
  have k2 : W0.cell? ⟨w.heap.size + 1, 0, none⟩ = some (.int .u8 d') := by rw [hW]; simp
  have k3 : W0.cell? ⟨w.heap.size + 1, 1, none⟩ = some (.slice a2 n2 c2) := by rw [hW]; simp
  have HK : Hid (∀ W, Below W0.heap.size W0 W → W.cell? ⟨w.heap.size, 0, none⟩ = some (.int .u8 d) ∧ W.cell? ⟨w.heap.size + 1, 0, none⟩ = some (.int .u8 d')) := fun W h => ⟨by rw [h.cell (lt_of_cell k0)]; exact k0, by rw [h.cell (lt_of_cell k2)]; exact k2⟩
  clear hW
  refine wp_scope_labels (LAt w W0 d d' a1 a2 n1 c1 n2 c2 (mg d d' xs0 ys0)) LMu 0 rfl ?_ ?_
  · rintro l a' w2 ⟨aa, ab, so, na, ca, nb, cb, no, co, xs, ys, os, hact, hb2, hra, hrb, hna, hnb, hown2, hsum, hzs, hl⟩
    generalize sl a' = s at hact
    subst hact
    have hla := hra.len
    have hlb := hrb.len
    have q1 := hra.cap_le
    have q2 := hrb.cap_le
    have HZS : Hid (os ++ mg d d' xs ys = mg d d' xs0 ys0) := hzs
    clear hzs k0 k1 k2 k3
    rcases hl with rfl | ⟨rfl, X, Y, hX, hmg⟩ | ⟨rfl, X, Y, hX, hmg⟩
    · refine ⟨_, rfl, ?_⟩
      by_cases ha0 : na = 0
      · subst ha0
        have hx : xs = [] := List.eq_nil_of_length_eq_zero hla
        subst hx
        by_cases hb0' : nb = 0
        · subst hb0'
          have hy : ys = [] := List.eq_nil_of_length_eq_zero hlb
          subst hy
          go_wp2_with fail
          simp only [Exit.jumps]
          go_ret
          refine ⟨so, no, co, rfl, ?_, by omega, ext_trans hb0 hb2⟩
          have hz := HZS.out
          rw [mg, List.append_nil] at hz
          rw [← hz]
          exact hown2.mono hb0.size
        · have e2 : ((nb : Int) == 0) = false := by simp; omega
          obtain ⟨X, Y, hX, _⟩ := hrb.get2 0 (by omega)
          have HJ : Hid (∃ X Y, ys[0]? = some (X, Y) ∧ mg d d' ([] : List (Int × Int)) ys = (X, d, Y) :: mg d d' [] (ys.drop 1)) := ⟨X, Y, hX, mg_second d d' hX (.inl rfl)⟩
          clear hX
          go_wp2_with fail
          go_step3
          refine ⟨⟨aa, ab, so, 0, ca, nb, cb, no, co, [], ys, os, rfl, hb2, hra, hrb, hna, hnb, hown2, hsum, HZS.out, .inr (.inr ⟨rfl, HJ.out⟩)⟩, ?_⟩
          simp [LMu, slen]
      · have e1 : ((na : Int) == 0) = false := by simp; omega
        obtain ⟨X, Y, hX, HXb⟩ := hra.get2 0 (by omega)
        by_cases hb0' : nb = 0
        · subst hb0'
          have hy : ys = [] := List.eq_nil_of_length_eq_zero hlb
          subst hy
          have HJ : Hid (∃ X Y, xs[0]? = some (X, Y) ∧ mg d d' xs ([] : List (Int × Int)) = (X, Y, d') :: mg d d' (xs.drop 1) []) := ⟨X, Y, hX, mg_first d d' hX (.inl rfl)⟩
          clear hX
          go_wp2_with fail
          go_step3
          refine ⟨⟨aa, ab, so, na, ca, 0, cb, no, co, xs, [], os, rfl, hb2, hra, hrb, hna, hnb, hown2, hsum, HZS.out, .inr (.inl ⟨rfl, HJ.out⟩)⟩, ?_⟩
          simp [LMu, slen]
        · have e2 : ((nb : Int) == 0) = false := by simp; omega
          obtain ⟨X', Y', hX', HYb⟩ := hrb.get2 0 (by omega)
          obtain ⟨ba, offa, rfl, _⟩ := hra.at (by omega)
          obtain ⟨bb, offb, rfl, _⟩ := hrb.at (by omega)
          have hbw := ext_trans hb0 hb2
          obtain ⟨g1, g2⟩ := (hra.below hbw).pair0 hX
          obtain ⟨g3, g4⟩ := (hrb.below hbw).pair0 hX'
          have CX : Hid (∀ W, Below W0.heap.size W0 W → W.cell? ⟨ba, offa, none⟩ = some (.int .u16 X) ∧ W.cell? ⟨ba, offa + 1, none⟩ = some (.int .u8 Y) ∧ W.cell? ⟨bb, offb, none⟩ = some (.int .u16 X') ∧ W.cell? ⟨bb, offb + 1, none⟩ = some (.int .u8 Y')) := fun W h => by
            have h' := ext_trans hb0 h
            exact ⟨((hra.below h').pair0 hX).1, ((hra.below h').pair0 hX).2, ((hrb.below h').pair0 hX').1, ((hrb.below h').pair0 hX').2⟩
          have pn1 : 0 < na := by omega
          have pn2 : 0 < nb := by omega
          have p1 : (0 : Int) < (na : Int) := by omega
          have p2 : (0 : Int) < (nb : Int) := by omega
          have p3 : (1 : Int) ≤ (ca : Int) := by omega
          have p4 : (1 : Int) ≤ (cb : Int) := by omega
          have p5 : (1 : Int) ≤ (na : Int) := by omega
          have p6 : (1 : Int) ≤ (nb : Int) := by omega
          have HX : Hid (xs[0]? = some (X, Y)) := hX
          have HX' : Hid (ys[0]? = some (X', Y')) := hX'
          clear hX hX'
          by_cases hXY : X < X'
          · go_wp2
            go_quiet (fail)
            go_wp2_with fail
            go_step3
            refine ⟨⟨_, _, so, na, ca, nb, cb, no, co, xs, ys, os, rfl, bel_drewN hb2 _, hra, hrb, hna, hnb, hown2.below (same_drew _ _), hsum, HZS.out, .inr (.inl ⟨rfl, X, Y, HX.out, mg_first d d' HX.out (.inr ⟨X', Y', HX'.out, hXY⟩)⟩)⟩, ?_⟩
            simp [LMu, slen]
          · have hXY' : decide (X < X') = false := by simpa using hXY
            by_cases hYX : X' < X
            · go_wp2
              go_quiet (fail)
              go_wp2
              go_quiet (fail)
              go_wp2_with fail
              go_step3
              refine ⟨⟨_, _, so, na, ca, nb, cb, no, co, xs, ys, os, rfl, bel_drewN (bel_drewN hb2 _) _, hra, hrb, hna, hnb, hown2.below (same_drew2 _ _ _), hsum, HZS.out, .inr (.inr ⟨rfl, X', Y', HX'.out, mg_second d d' HX'.out (.inr ⟨X, Y, HX.out, hYX⟩)⟩)⟩, ?_⟩
              simp [LMu, slen]
            · have hYX' : decide (X' < X) = false := by simpa using hYX
              obtain rfl : X = X' := by omega
              go_wp2
              go_quiet (fail)
              go_wp2
              go_quiet (fail)
              go_wp2_with fail
              refine wp_region_noPanic ?_
              refine wp_region_held_drew (S := fun W => Below W0.heap.size W0 W) (by kernel_rfl) (by repeat (first | exact hb2 | refine Below.alloc ?_ (by simpa using hb2.size) _ | refine Below.drew ?_ | refine bel_drewN ?_ _)) fun hS => ?_
              refine take_to (i := 0) (v := ?_) 45 rfl rfl (by kernel_rfl) (by kernel_rfl) (by kernel_rfl) (fun _ _ _ h => h) (Or.inl ⟨by rfl, ?_⟩) hS ?_
              rotate_left
              · intro W hW
                obtain ⟨s1, s2, s3, s4⟩ := CX.out W hW
                go_simp
                try with_reducible rfl
              simp only [List.setIfInBounds_toArray, List.set_cons_zero, List.set_cons_succ]
              refine take_to (i := 1) (v := ?_) 46 rfl rfl (by kernel_rfl) (by kernel_rfl) (by kernel_rfl) (fun _ _ _ h => h) (Or.inl ⟨by rfl, ?_⟩) hS ?_
              rotate_left
              · intro W hW
                obtain ⟨s1, s2, s3, s4⟩ := CX.out W hW
                go_simp
                try with_reducible rfl
              simp only [List.setIfInBounds_toArray, List.set_cons_zero, List.set_cons_succ]
              refine take_to (i := 2) (v := ?_) 47 rfl rfl (by kernel_rfl) (by kernel_rfl) (by kernel_rfl) (fun _ _ _ h => h) (Or.inl ⟨by rfl, ?_⟩) hS ?_
              rotate_left
              · intro W hW
                obtain ⟨s1, s2, s3, s4⟩ := CX.out W hW
                go_simp
                try with_reducible rfl
              simp only [List.setIfInBounds_toArray, List.set_cons_zero, List.set_cons_succ]
              refine take_to (i := 3) (v := ?_) 48 rfl rfl (by kernel_rfl) (by kernel_rfl) (by kernel_rfl) (fun _ _ _ h => h) (Or.inl ⟨by rfl, ?_⟩) hS ?_
              rotate_left
              · intro W hW
                obtain ⟨s1, s2, s3, s4⟩ := CX.out W hW
                go_simp
                try with_reducible rfl
              simp only [List.setIfInBounds_toArray, List.set_cons_zero, List.set_cons_succ]
              refine take_to (i := 4) (v := ?_) 49 rfl rfl (by kernel_rfl) (by kernel_rfl) (by kernel_rfl) (fun _ _ _ h => h) (Or.inl ⟨by rfl, ?_⟩) hS ?_
              rotate_left
              · intro W hW
                obtain ⟨s1, s2, s3, s4⟩ := CX.out W hW
                go_simp
                try with_reducible rfl
              simp only [List.setIfInBounds_toArray, List.set_cons_zero, List.set_cons_succ]
              refine take_to (i := 5) (v := ?_) 50 rfl rfl (by kernel_rfl) (by kernel_rfl) (by kernel_rfl) (fun _ _ _ h => h) (Or.inl ⟨by rfl, ?_⟩) hS ?_
              rotate_left
              · intro W hW
                obtain ⟨s1, s2, s3, s4⟩ := CX.out W hW
                go_simp
                try with_reducible rfl
              simp only [List.setIfInBounds_toArray, List.set_cons_zero, List.set_cons_succ]
              refine take_to (i := 6) (v := ?_) 51 rfl rfl (by kernel_rfl) (by kernel_rfl) (by kernel_rfl) (fun _ _ _ h => h) (Or.inl ⟨by rfl, ?_⟩) hS ?_
              rotate_left
              · intro W hW
                obtain ⟨s1, s2, s3, s4⟩ := CX.out W hW
                go_simp
                try with_reducible rfl
              simp only [List.setIfInBounds_toArray, List.set_cons_zero, List.set_cons_succ]
              refine take_to (i := 7) (v := ?_) 52 rfl rfl (by kernel_rfl) (by kernel_rfl) (by kernel_rfl) (fun _ _ _ h => h) (Or.inl ⟨by rfl, ?_⟩) hS ?_
              rotate_left
              · intro W hW
                obtain ⟨s1, s2, s3, s4⟩ := CX.out W hW
                go_simp
                try with_reducible rfl
              simp only [List.setIfInBounds_toArray, List.set_cons_zero, List.set_cons_succ]
              refine take_to (i := 8) (v := ?_) 53 rfl rfl (by kernel_rfl) (by kernel_rfl) (by kernel_rfl) (fun _ _ _ h => h) (Or.inl ⟨by rfl, ?_⟩) hS ?_
              rotate_left
              · intro W hW
                obtain ⟨s1, s2, s3, s4⟩ := CX.out W hW
                go_simp
                try with_reducible rfl
              simp only [List.setIfInBounds_toArray, List.set_cons_zero, List.set_cons_succ]
              refine take_to (i := 9) (v := ?_) 54 rfl rfl (by kernel_rfl) (by kernel_rfl) (by kernel_rfl) (fun _ _ _ h => h) (Or.inl ⟨by rfl, ?_⟩) hS ?_
              rotate_left
              · intro W hW
                obtain ⟨s1, s2, s3, s4⟩ := CX.out W hW
                go_simp
                try with_reducible rfl
              simp only [List.setIfInBounds_toArray, List.set_cons_zero, List.set_cons_succ]
              refine take_to (i := 10) (v := ?_) 55 rfl rfl (by kernel_rfl) (by kernel_rfl) (by kernel_rfl) (fun _ _ _ h => h) (Or.inl ⟨by rfl, ?_⟩) hS ?_
              rotate_left
              · intro W hW
                obtain ⟨s1, s2, s3, s4⟩ := CX.out W hW
                go_simp
                try with_reducible rfl
              simp only [List.setIfInBounds_toArray, List.set_cons_zero, List.set_cons_succ]
              refine take_to (i := 11) (v := ?_) 56 rfl rfl (by kernel_rfl) (by kernel_rfl) (by kernel_rfl) (fun _ _ _ h => h) (Or.inl ⟨by rfl, ?_⟩) hS ?_
              rotate_left
              · intro W hW
                obtain ⟨s1, s2, s3, s4⟩ := CX.out W hW
                go_simp
                try with_reducible rfl
              simp only [List.setIfInBounds_toArray, List.set_cons_zero, List.set_cons_succ]
              refine take_to (i := 12) (v := ?_) 57 rfl rfl (by kernel_rfl) (by kernel_rfl) (by kernel_rfl) (fun _ _ _ h => h) (Or.inl ⟨by rfl, ?_⟩) hS ?_
              rotate_left
              · intro W hW
                obtain ⟨s1, s2, s3, s4⟩ := CX.out W hW
                go_simp
                try with_reducible rfl
              simp only [List.setIfInBounds_toArray, List.set_cons_zero, List.set_cons_succ]
              refine take_to (i := 13) (v := ?_) 58 rfl rfl (by kernel_rfl) (by kernel_rfl) (by kernel_rfl) (fun _ _ _ h => h) (Or.inl ⟨by rfl, ?_⟩) hS ?_
              rotate_left
              · intro W hW
                obtain ⟨s1, s2, s3, s4⟩ := CX.out W hW
                go_simp
                try with_reducible rfl
              simp only [List.setIfInBounds_toArray, List.set_cons_zero, List.set_cons_succ]
              refine wpAnyH_ready (rs := [14]) (by kernel_rfl) (by simp) ?_
              refine AllReadyH.cons rfl (fun K hK => ?_) AllReadyH.nil
              go_simp
              refine hK.out _ _ (by repeat (first | exact hb2 | refine Below.alloc ?_ (by simpa using hb2.size) _ | refine Below.drew ?_ | refine bel_drewN ?_ _)) fun _ => ?_
              clear hK K
              refine wpAnyH_ready (rs := [15]) (by kernel_rfl) (by simp) ?_
              refine AllReadyH.cons rfl (fun K hK => ?_) AllReadyH.nil
              refine Eq.mpr (if_pos (by kernel_rfl)) ?_
              refine op_append_g (E := RE) _ (.tmp 45) (.tmp 59) 69 rfl 72 Try.underlying69 (.agg #[.int .u16 0, .int .u8 0, .int .u8 0]) 4 info58 rfl (by omega) W0.heap.size no co so os rfl (hown2.below (by repeat (first | exact Below.refl _ _ | refine Below.alloc ?_ (by simp) _ | refine Below.drew ?_ | refine bel_drewN ?_ _))) (some ⟨w2.heap.size, 0, none⟩) 1 1 [(X, Y, Y')] rfl (owng_lit RE _ 72 [(X, Y, Y')] _ rfl 1 rfl (by omega) (Enc.Ok.one ⟨HXb.1, HXb.2, HYb.2⟩) _ w2.heap.size (by simp) (by omega)).row (by omega) (by simpa using Nat.le_succ_of_le hb2.size) W0 (by repeat (first | exact hb2 | refine Below.alloc ?_ (by simpa using hb2.size) _ | refine Below.drew ?_ | refine bel_drewN ?_ _)) ?_
              intro so' co' w3 hown3 hb3 _
              refine hK.out _ _ hb3 fun _ => ?_
              clear hK K
              refine wpAnyH_ready (rs := [16]) (by kernel_rfl) (by simp) ?_
              refine AllReadyH.cons rfl (fun K hK => ?_) AllReadyH.nil
              go_simp
              refine hK.out _ _ hb3 fun _ => ?_
              clear hK K
              refine wpAnyH_done (by kernel_rfl) ?_ _
              refine NoPanic.normal ?_
              have hz : Hid ((os ++ [(X, Y, Y')]) ++ mg d d' (xs.drop 1) (ys.drop 1) = mg d d' xs0 ys0) := by
                show _ = _
                rw [← HZS.out, mg_same d d' HX.out HX'.out, List.append_assoc]; rfl
              go_wp2
              go_quiet (fail)
              go_wp2_with fail
              all_goals go_step3
              all_goals refine ⟨⟨_, _, so', na - 1, _, nb - 1, _, no + 1, co', xs.drop 1, ys.drop 1, os ++ [(X, Y, Y')], rfl, bel_drewN hb3 _, ?_, ?_, by omega, by omega, hown3.below (same_drew _ _), by omega, hz.out, .inl rfl⟩, ?_⟩
              all_goals first | (simp [LMu, slen]; omega) | exact hra.tail 1 (by omega) | exact hrb.tail 1 (by omega) | exact hra.tail0 1 (by omega) (by omega) | exact hrb.tail0 1 (by omega) (by omega)
    · refine ⟨_, rfl, ?_⟩
      have hpa : 0 < na := by have := (List.getElem?_eq_some_iff.1 hX).1; omega
      have HXb : (0 ≤ X ∧ X < 65536) ∧ 0 ≤ Y ∧ Y < 256 := hra.ok.get hX
      obtain ⟨ba, offa, rfl, _⟩ := hra.at (by omega)
      have CX : Hid (∀ W, Below W0.heap.size W0 W → W.cell? ⟨ba, offa, none⟩ = some (.int .u16 X) ∧ W.cell? ⟨ba, offa + 1, none⟩ = some (.int .u8 Y) ∧ W.cell? ⟨w.heap.size + 1, 0, none⟩ = some (.int .u8 d')) := fun W h => by
        have h' := ext_trans hb0 h
        exact ⟨((hra.below h').pair0 hX).1, ((hra.below h').pair0 hX).2, (HK.out W h).2⟩
      have p1 : (0 : Int) < (na : Int) := by omega
      have p3 : (1 : Int) ≤ (ca : Int) := by omega
      have p5 : (1 : Int) ≤ (na : Int) := by omega
      have hz : Hid ((os ++ [(X, Y, d')]) ++ mg d d' (xs.drop 1) ys = mg d d' xs0 ys0) := by
        show _ = _
        rw [← HZS.out, hmg, List.append_assoc]; rfl
      clear hX hmg
      go_wp2_with fail
      refine wp_region_noPanic ?_
      refine wp_region_held_drew (S := fun W => Below W0.heap.size W0 W) (by kernel_rfl) (by repeat (first | exact hb2 | refine Below.alloc ?_ (by simpa using hb2.size) _ | refine Below.drew ?_ | refine bel_drewN ?_ _)) fun hS => ?_
      refine take_to (i := 0) (v := ?_) 65 rfl rfl (by kernel_rfl) (by kernel_rfl) (by kernel_rfl) (fun _ _ _ h => h) (Or.inl ⟨by rfl, ?_⟩) hS ?_
      rotate_left
      · intro W hW
        obtain ⟨s1, s2, s3⟩ := CX.out W hW
        go_simp
        try with_reducible rfl
      simp only [List.setIfInBounds_toArray, List.set_cons_zero, List.set_cons_succ]
      refine take_to (i := 1) (v := ?_) 66 rfl rfl (by kernel_rfl) (by kernel_rfl) (by kernel_rfl) (fun _ _ _ h => h) (Or.inl ⟨by rfl, ?_⟩) hS ?_
      rotate_left
      · intro W hW
        obtain ⟨s1, s2, s3⟩ := CX.out W hW
        go_simp
        try with_reducible rfl
      simp only [List.setIfInBounds_toArray, List.set_cons_zero, List.set_cons_succ]
      refine take_to (i := 2) (v := ?_) 67 rfl rfl (by kernel_rfl) (by kernel_rfl) (by kernel_rfl) (fun _ _ _ h => h) (Or.inl ⟨by rfl, ?_⟩) hS ?_
      rotate_left
      · intro W hW
        obtain ⟨s1, s2, s3⟩ := CX.out W hW
        go_simp
        try with_reducible rfl
      simp only [List.setIfInBounds_toArray, List.set_cons_zero, List.set_cons_succ]
      refine take_to (i := 3) (v := ?_) 68 rfl rfl (by kernel_rfl) (by kernel_rfl) (by kernel_rfl) (fun _ _ _ h => h) (Or.inl ⟨by rfl, ?_⟩) hS ?_
      rotate_left
      · intro W hW
        obtain ⟨s1, s2, s3⟩ := CX.out W hW
        go_simp
        try with_reducible rfl
      simp only [List.setIfInBounds_toArray, List.set_cons_zero, List.set_cons_succ]
      refine take_to (i := 4) (v := ?_) 69 rfl rfl (by kernel_rfl) (by kernel_rfl) (by kernel_rfl) (fun _ _ _ h => h) (Or.inl ⟨by rfl, ?_⟩) hS ?_
      rotate_left
      · intro W hW
        obtain ⟨s1, s2, s3⟩ := CX.out W hW
        go_simp
        try with_reducible rfl
      simp only [List.setIfInBounds_toArray, List.set_cons_zero, List.set_cons_succ]
      refine take_to (i := 5) (v := ?_) 70 rfl rfl (by kernel_rfl) (by kernel_rfl) (by kernel_rfl) (fun _ _ _ h => h) (Or.inl ⟨by rfl, ?_⟩) hS ?_
      rotate_left
      · intro W hW
        obtain ⟨s1, s2, s3⟩ := CX.out W hW
        go_simp
        try with_reducible rfl
      simp only [List.setIfInBounds_toArray, List.set_cons_zero, List.set_cons_succ]
      refine take_to (i := 6) (v := ?_) 71 rfl rfl (by kernel_rfl) (by kernel_rfl) (by kernel_rfl) (fun _ _ _ h => h) (Or.inl ⟨by rfl, ?_⟩) hS ?_
      rotate_left
      · intro W hW
        obtain ⟨s1, s2, s3⟩ := CX.out W hW
        go_simp
        try with_reducible rfl
      simp only [List.setIfInBounds_toArray, List.set_cons_zero, List.set_cons_succ]
      refine take_to (i := 7) (v := ?_) 72 rfl rfl (by kernel_rfl) (by kernel_rfl) (by kernel_rfl) (fun _ _ _ h => h) (Or.inl ⟨by rfl, ?_⟩) hS ?_
      rotate_left
      · intro W hW
        obtain ⟨s1, s2, s3⟩ := CX.out W hW
        go_simp
        try with_reducible rfl
      simp only [List.setIfInBounds_toArray, List.set_cons_zero, List.set_cons_succ]
      refine take_to (i := 8) (v := ?_) 73 rfl rfl (by kernel_rfl) (by kernel_rfl) (by kernel_rfl) (fun _ _ _ h => h) (Or.inl ⟨by rfl, ?_⟩) hS ?_
      rotate_left
      · intro W hW
        obtain ⟨s1, s2, s3⟩ := CX.out W hW
        go_simp
        try with_reducible rfl
      simp only [List.setIfInBounds_toArray, List.set_cons_zero, List.set_cons_succ]
      refine take_to (i := 9) (v := ?_) 74 rfl rfl (by kernel_rfl) (by kernel_rfl) (by kernel_rfl) (fun _ _ _ h => h) (Or.inl ⟨by rfl, ?_⟩) hS ?_
      rotate_left
      · intro W hW
        obtain ⟨s1, s2, s3⟩ := CX.out W hW
        go_simp
        try with_reducible rfl
      simp only [List.setIfInBounds_toArray, List.set_cons_zero, List.set_cons_succ]
      refine take_to (i := 10) (v := ?_) 75 rfl rfl (by kernel_rfl) (by kernel_rfl) (by kernel_rfl) (fun _ _ _ h => h) (Or.inl ⟨by rfl, ?_⟩) hS ?_
      rotate_left
      · intro W hW
        obtain ⟨s1, s2, s3⟩ := CX.out W hW
        go_simp
        try with_reducible rfl
      simp only [List.setIfInBounds_toArray, List.set_cons_zero, List.set_cons_succ]
      refine take_to (i := 11) (v := ?_) 76 rfl rfl (by kernel_rfl) (by kernel_rfl) (by kernel_rfl) (fun _ _ _ h => h) (Or.inl ⟨by rfl, ?_⟩) hS ?_
      rotate_left
      · intro W hW
        obtain ⟨s1, s2, s3⟩ := CX.out W hW
        go_simp
        try with_reducible rfl
      simp only [List.setIfInBounds_toArray, List.set_cons_zero, List.set_cons_succ]
      refine wpAnyH_ready (rs := [12]) (by kernel_rfl) (by simp) ?_
      refine AllReadyH.cons rfl (fun K hK => ?_) AllReadyH.nil
      go_simp
      refine hK.out _ _ (by repeat (first | exact hb2 | refine Below.alloc ?_ (by simpa using hb2.size) _ | refine Below.drew ?_ | refine bel_drewN ?_ _)) fun _ => ?_
      clear hK K
      refine wpAnyH_ready (rs := [13]) (by kernel_rfl) (by simp) ?_
      refine AllReadyH.cons rfl (fun K hK => ?_) AllReadyH.nil
      refine Eq.mpr (if_pos (by kernel_rfl)) ?_
      refine op_append_g (E := RE) _ (.tmp 65) (.tmp 77) 69 rfl 72 Try.underlying69 (.agg #[.int .u16 0, .int .u8 0, .int .u8 0]) 4 info58 rfl (by omega) W0.heap.size no co so os rfl (hown2.below (by repeat (first | exact Below.refl _ _ | refine Below.alloc ?_ (by simp) _ | refine Below.drew ?_ | refine bel_drewN ?_ _))) (some ⟨w2.heap.size, 0, none⟩) 1 1 [(X, Y, d')] rfl (owng_lit RE _ 72 [(X, Y, d')] _ rfl 1 rfl (by omega) (Enc.Ok.one ⟨HXb.1, HXb.2, hd'⟩) _ w2.heap.size (by simp) (by omega)).row (by omega) (by simpa using Nat.le_succ_of_le hb2.size) W0 (by repeat (first | exact hb2 | refine Below.alloc ?_ (by simpa using hb2.size) _ | refine Below.drew ?_ | refine bel_drewN ?_ _)) ?_
      intro so' co' w3 hown3 hb3 _
      refine hK.out _ _ hb3 fun _ => ?_
      clear hK K
      refine wpAnyH_ready (rs := [14]) (by kernel_rfl) (by simp) ?_
      refine AllReadyH.cons rfl (fun K hK => ?_) AllReadyH.nil
      go_simp
      refine hK.out _ _ hb3 fun _ => ?_
      clear hK K
      refine wpAnyH_done (by kernel_rfl) ?_ _
      refine NoPanic.normal ?_
      go_wp2_with fail
      all_goals go_step3
      all_goals refine ⟨⟨_, _, so', na - 1, _, nb, _, no + 1, co', xs.drop 1, ys, os ++ [(X, Y, d')], rfl, hb3, ?_, hrb, by omega, by omega, hown3, by omega, hz.out, .inl rfl⟩, ?_⟩
      all_goals first | (simp [LMu, slen]; omega) | exact hra.tail 1 (by omega) | exact hra.tail0 1 (by omega) (by omega)
    · refine ⟨_, rfl, ?_⟩
      have hpa : 0 < nb := by have := (List.getElem?_eq_some_iff.1 hX).1; omega
      have HXb : (0 ≤ X ∧ X < 65536) ∧ 0 ≤ Y ∧ Y < 256 := hrb.ok.get hX
      obtain ⟨bb, offb, rfl, _⟩ := hrb.at (by omega)
      have CX : Hid (∀ W, Below W0.heap.size W0 W → W.cell? ⟨bb, offb, none⟩ = some (.int .u16 X) ∧ W.cell? ⟨bb, offb + 1, none⟩ = some (.int .u8 Y) ∧ W.cell? ⟨w.heap.size, 0, none⟩ = some (.int .u8 d)) := fun W h => by
        have h' := ext_trans hb0 h
        exact ⟨((hrb.below h').pair0 hX).1, ((hrb.below h').pair0 hX).2, (HK.out W h).1⟩
      have p1 : (0 : Int) < (nb : Int) := by omega
      have p3 : (1 : Int) ≤ (cb : Int) := by omega
      have p5 : (1 : Int) ≤ (nb : Int) := by omega
      have hz : Hid ((os ++ [(X, d, Y)]) ++ mg d d' xs (ys.drop 1) = mg d d' xs0 ys0) := by
        show _ = _
        rw [← HZS.out, hmg, List.append_assoc]; rfl
      clear hX hmg
      go_wp2_with fail
      refine wp_region_noPanic ?_
      refine wp_region_held_drew (S := fun W => Below W0.heap.size W0 W) (by kernel_rfl) (by repeat (first | exact hb2 | refine Below.alloc ?_ (by simpa using hb2.size) _ | refine Below.drew ?_ | refine bel_drewN ?_ _)) fun hS => ?_
      refine take_to (i := 0) (v := ?_) 81 rfl rfl (by kernel_rfl) (by kernel_rfl) (by kernel_rfl) (fun _ _ _ h => h) (Or.inl ⟨by rfl, ?_⟩) hS ?_
      rotate_left
      · intro W hW
        obtain ⟨s1, s2, s3⟩ := CX.out W hW
        go_simp
        try with_reducible rfl
      simp only [List.setIfInBounds_toArray, List.set_cons_zero, List.set_cons_succ]
      refine take_to (i := 1) (v := ?_) 82 rfl rfl (by kernel_rfl) (by kernel_rfl) (by kernel_rfl) (fun _ _ _ h => h) (Or.inl ⟨by rfl, ?_⟩) hS ?_
      rotate_left
      · intro W hW
        obtain ⟨s1, s2, s3⟩ := CX.out W hW
        go_simp
        try with_reducible rfl
      simp only [List.setIfInBounds_toArray, List.set_cons_zero, List.set_cons_succ]
      refine take_to (i := 2) (v := ?_) 83 rfl rfl (by kernel_rfl) (by kernel_rfl) (by kernel_rfl) (fun _ _ _ h => h) (Or.inl ⟨by rfl, ?_⟩) hS ?_
      rotate_left
      · intro W hW
        obtain ⟨s1, s2, s3⟩ := CX.out W hW
        go_simp
        try with_reducible rfl
      simp only [List.setIfInBounds_toArray, List.set_cons_zero, List.set_cons_succ]
      refine take_to (i := 3) (v := ?_) 84 rfl rfl (by kernel_rfl) (by kernel_rfl) (by kernel_rfl) (fun _ _ _ h => h) (Or.inl ⟨by rfl, ?_⟩) hS ?_
      rotate_left
      · intro W hW
        obtain ⟨s1, s2, s3⟩ := CX.out W hW
        go_simp
        try with_reducible rfl
      simp only [List.setIfInBounds_toArray, List.set_cons_zero, List.set_cons_succ]
      refine take_to (i := 4) (v := ?_) 85 rfl rfl (by kernel_rfl) (by kernel_rfl) (by kernel_rfl) (fun _ _ _ h => h) (Or.inl ⟨by rfl, ?_⟩) hS ?_
      rotate_left
      · intro W hW
        obtain ⟨s1, s2, s3⟩ := CX.out W hW
        go_simp
        try with_reducible rfl
      simp only [List.setIfInBounds_toArray, List.set_cons_zero, List.set_cons_succ]
      refine take_to (i := 5) (v := ?_) 86 rfl rfl (by kernel_rfl) (by kernel_rfl) (by kernel_rfl) (fun _ _ _ h => h) (Or.inl ⟨by rfl, ?_⟩) hS ?_
      rotate_left
      · intro W hW
        obtain ⟨s1, s2, s3⟩ := CX.out W hW
        go_simp
        try with_reducible rfl
      simp only [List.setIfInBounds_toArray, List.set_cons_zero, List.set_cons_succ]
      refine take_to (i := 6) (v := ?_) 87 rfl rfl (by kernel_rfl) (by kernel_rfl) (by kernel_rfl) (fun _ _ _ h => h) (Or.inl ⟨by rfl, ?_⟩) hS ?_
      rotate_left
      · intro W hW
        obtain ⟨s1, s2, s3⟩ := CX.out W hW
        go_simp
        try with_reducible rfl
      simp only [List.setIfInBounds_toArray, List.set_cons_zero, List.set_cons_succ]
      refine take_to (i := 7) (v := ?_) 88 rfl rfl (by kernel_rfl) (by kernel_rfl) (by kernel_rfl) (fun _ _ _ h => h) (Or.inl ⟨by rfl, ?_⟩) hS ?_
      rotate_left
      · intro W hW
        obtain ⟨s1, s2, s3⟩ := CX.out W hW
        go_simp
        try with_reducible rfl
      simp only [List.setIfInBounds_toArray, List.set_cons_zero, List.set_cons_succ]
      refine take_to (i := 8) (v := ?_) 89 rfl rfl (by kernel_rfl) (by kernel_rfl) (by kernel_rfl) (fun _ _ _ h => h) (Or.inl ⟨by rfl, ?_⟩) hS ?_
      rotate_left
      · intro W hW
        obtain ⟨s1, s2, s3⟩ := CX.out W hW
        go_simp
        try with_reducible rfl
      simp only [List.setIfInBounds_toArray, List.set_cons_zero, List.set_cons_succ]
      refine take_to (i := 9) (v := ?_) 90 rfl rfl (by kernel_rfl) (by kernel_rfl) (by kernel_rfl) (fun _ _ _ h => h) (Or.inl ⟨by rfl, ?_⟩) hS ?_
      rotate_left
      · intro W hW
        obtain ⟨s1, s2, s3⟩ := CX.out W hW
        go_simp
        try with_reducible rfl
      simp only [List.setIfInBounds_toArray, List.set_cons_zero, List.set_cons_succ]
      refine take_to (i := 10) (v := ?_) 91 rfl rfl (by kernel_rfl) (by kernel_rfl) (by kernel_rfl) (fun _ _ _ h => h) (Or.inl ⟨by rfl, ?_⟩) hS ?_
      rotate_left
      · intro W hW
        obtain ⟨s1, s2, s3⟩ := CX.out W hW
        go_simp
        try with_reducible rfl
      simp only [List.setIfInBounds_toArray, List.set_cons_zero, List.set_cons_succ]
      refine take_to (i := 11) (v := ?_) 92 rfl rfl (by kernel_rfl) (by kernel_rfl) (by kernel_rfl) (fun _ _ _ h => h) (Or.inl ⟨by rfl, ?_⟩) hS ?_
      rotate_left
      · intro W hW
        obtain ⟨s1, s2, s3⟩ := CX.out W hW
        go_simp
        try with_reducible rfl
      simp only [List.setIfInBounds_toArray, List.set_cons_zero, List.set_cons_succ]
      refine wpAnyH_ready (rs := [12]) (by kernel_rfl) (by simp) ?_
      refine AllReadyH.cons rfl (fun K hK => ?_) AllReadyH.nil
      go_simp
      refine hK.out _ _ (by repeat (first | exact hb2 | refine Below.alloc ?_ (by simpa using hb2.size) _ | refine Below.drew ?_ | refine bel_drewN ?_ _)) fun _ => ?_
      clear hK K
      refine wpAnyH_ready (rs := [13]) (by kernel_rfl) (by simp) ?_
      refine AllReadyH.cons rfl (fun K hK => ?_) AllReadyH.nil
      refine Eq.mpr (if_pos (by kernel_rfl)) ?_
      refine op_append_g (E := RE) _ (.tmp 81) (.tmp 93) 69 rfl 72 Try.underlying69 (.agg #[.int .u16 0, .int .u8 0, .int .u8 0]) 4 info58 rfl (by omega) W0.heap.size no co so os rfl (hown2.below (by repeat (first | exact Below.refl _ _ | refine Below.alloc ?_ (by simp) _ | refine Below.drew ?_ | refine bel_drewN ?_ _))) (some ⟨w2.heap.size, 0, none⟩) 1 1 [(X, d, Y)] rfl (owng_lit RE _ 72 [(X, d, Y)] _ rfl 1 rfl (by omega) (Enc.Ok.one ⟨HXb.1, hd, HXb.2⟩) _ w2.heap.size (by simp) (by omega)).row (by omega) (by simpa using Nat.le_succ_of_le hb2.size) W0 (by repeat (first | exact hb2 | refine Below.alloc ?_ (by simpa using hb2.size) _ | refine Below.drew ?_ | refine bel_drewN ?_ _)) ?_
      intro so' co' w3 hown3 hb3 _
      refine hK.out _ _ hb3 fun _ => ?_
      clear hK K
      refine wpAnyH_ready (rs := [14]) (by kernel_rfl) (by simp) ?_
      refine AllReadyH.cons rfl (fun K hK => ?_) AllReadyH.nil
      go_simp
      refine hK.out _ _ hb3 fun _ => ?_
      clear hK K
      refine wpAnyH_done (by kernel_rfl) ?_ _
      refine NoPanic.normal ?_
      go_wp2_with fail
      all_goals go_step3
      all_goals refine ⟨⟨_, _, so', na, _, nb - 1, _, no + 1, co', xs, ys.drop 1, os ++ [(X, d, Y)], rfl, hb3, hra, ?_, by omega, by omega, hown3, by omega, hz.out, .inl rfl⟩, ?_⟩
      all_goals first | (simp [LMu, slen]; omega) | exact hrb.tail 1 (by omega) | exact hrb.tail0 1 (by omega) (by omega)
  · intro hpass
    go_wp2_with fail
    go_quiet (fail)
    go_wp2_with fail
    try go_step3
    rename_i hK1 _ hK
    refine hK _ _ ?_
    exact hpass.out _ _ ⟨a1, a2, none, n1, c1, n2, c2, 0, 0, xs0, ys0, [], rfl, bel_drewN (Below.refl _ _) _, hr, hs, Nat.le_refl _, Nat.le_refl _, OwnG.of_nil _ _ _ _, by omega, by simp, .inl rfl⟩
end Go.Proofs.Ytdoemkncgfgkhaa
