/- What Make answers: a contract, given what the library's stable sort does; and that sort of fewer than twenty pairs. -/
import Derived.Test.YtdoemkncgfgkhaaIns
import Derived.Lib.SliceRun
import Derived.Lib.Walk
namespace Go.Proofs.Ytdoemkncgfgkhaa
open Go.RowKit
set_option maxRecDepth 100000

set_option maxHeartbeats 400000 in
theorem cloneP_any (a : Option Addr) (n cap : Nat) (xs : List (Int × Int)) (w : World) (hr : RowG PE w a n cap xs) (hbd : n ≤ 1000000) :
    Calls Try.prog 68 #[.slice a n cap] w fun e w' => ∃ so co, e = .returned (.slice so n co) ∧ OwnG PE 40 w' w.heap.size so n co xs ∧ Below w.heap.size w w' := by
  have hq := fun W => Lib.run_eql_slice_nil (P := Try.prog) W 22 40 a n cap 0 0 Try.underlying22
  cases a with
  | none =>
    obtain ⟨rfl, rfl⟩ := hr.2.2.2.2.1 rfl
    obtain rfl := hr.empty rfl
    go_enter Try.func68, Try.ntmps68
    go_wp2_with fail
    go_ret
    exact ⟨none, 0, rfl, OwnG.of_nil _ _ _ _, Below.refl _ _⟩
  | some ad =>
    have h1 := below_alloc w (.cells #[] 40)
    have o1 : OwnG PE 40 (w.alloc (.cells #[] 40)) w.heap.size (some ⟨w.heap.size, 0, none⟩) 0 0 [] := owng_lit PE w 40 [] #[] rfl 0 rfl (by omega) Enc.Ok.nil _ _ rfl (Nat.le_refl _)
    go_enter Try.func68, Try.ntmps68
    go_wp2_with (at_builtin; refine wp_append_g (E := PE) _ rfl (.tmp 5) (.tmp 6) 22 rfl 40 Try.underlying22 (.agg #[.int .u16 0, .int .u8 0]) 4 info29 rfl (by omega) w.heap.size 0 0 (some ⟨w.heap.size, 0, none⟩) [] rfl o1 (some ad) n cap xs rfl (hr.below h1) (by omega) (by simp) w h1 ?_; intro so' co' w3 hown3 hb3 _; rw [Nat.zero_add, List.nil_append] at hown3)
    go_ret
    exact ⟨so', co', by simp, hown3, hb3⟩

/-- What the stable sort of at most N pairs does. -/
def SortOK (N : Nat) : Prop := ∀ (B : Nat) (so : Option Addr) (n cap : Nat) (xs : List (Int × Int)) (w : World), OwnG PE 40 w B so n cap xs → n ≤ N →
  Calls Try.prog 69 #[.slice so n cap, .func (.func 70) #[] #[]] w fun e w' => e = .returned (.tuple #[]) ∧ ∃ ys, OwnG PE 40 w' B so n cap ys ∧ StEq ys xs ∧ Nd ys ∧ w.grownBy w' (Value.slice so n cap).ownBlock

set_option maxHeartbeats 400000 in
theorem ins0_any (w : World) : Calls Try.prog 88 #[.slice none 0 0, .int .i64 0, .int .i64 0, .func (.func 70) #[] #[]] w fun e w' => e = .returned (.tuple #[]) ∧ w' = w := by
  go_enter Try.func88, Try.ntmps88
  go_wp2_with fail
  go_loop [8] (fun i => i = .int .i64 1) (fun _ => 0)
  case atStart => rfl
  case round =>
    subst hrel
    go_wp2_with fail
    go_end0
    exact ⟨rfl, rfl⟩
set_option maxHeartbeats 400000 in
theorem stable_small (B : Nat) (so : Option Addr) (n cap : Nat) (xs : List (Int × Int)) (w : World) (hown : OwnG PE 40 w B so n cap xs) (hn : n ≤ 19) :
    Calls Try.prog 85 #[.slice so n cap, .int .i64 n, .func (.func 70) #[] #[]] w fun e w' => e = .returned (.tuple #[]) ∧ ∃ ys, OwnG PE 40 w' B so n cap ys ∧ StEq ys xs ∧ Nd ys ∧ w.grownBy w' (Value.slice so n cap).ownBlock := by
  have e1 : decide ((20 : Int) ≤ (n : Int)) = false := by simp; omega
  have e2 : decide ((20 : Int) < (n : Int)) = false := by simp; omega
  have hc : Calls Try.prog 88 #[.slice so n cap, .int .i64 0, .int .i64 n, .func (.func 70) #[] #[]] w fun e w' => e = .returned (.tuple #[]) ∧ ∃ ys, OwnG PE 40 w' B so n cap ys ∧ StEq ys xs ∧ Nd ys ∧ w.grownBy w' (Value.slice so n cap).ownBlock := by
    have hl := hown.1
    rcases hown.cases with ⟨rfl, rfl, rfl, rfl⟩ | ⟨g, cur, rfl, _⟩
    · refine (ins0_any w).mono ?_
      rintro e w1 ⟨rfl, rfl⟩
      exact ⟨rfl, [], OwnG.of_nil _ _ _ _, StEq.refl _, Nd.nil, rfl, rfl, rfl, Nat.le_refl _, fun _ _ _ => rfl⟩
    · refine (insP_any g n cap B 0 n [] xs [] w (by simpa using hown) rfl (show 0 + xs.length = n by omega) (by omega)).mono ?_
      rintro e w1 ⟨rfl, ys, ho, h1, h2, _, h3⟩
      exact ⟨rfl, ys, by simpa using ho, h1, h2, h3⟩
  go_enter Try.func85, Try.ntmps85
  go_wp2_with fail
  go_loop [7, 8] (fun i j => i = .int .i64 0 ∧ j = .int .i64 20) (fun _ _ => 0)
  case atStart => exact ⟨rfl, rfl⟩
  case round =>
    obtain ⟨rfl, rfl⟩ := hrel
    go_wp2_with fail
    refine hc.mono ?_
    rintro e w1 ⟨rfl, h⟩
    have H : Hid (_) := h
    clear h
    go_wp2_with fail
    go_loop [6] (fun i => i = .int .i64 20) (fun _ => 0)
    case atStart => rfl
    case round =>
      subst hrel
      go_wp2_with fail
      go_end0
      exact ⟨rfl, H.out⟩
theorem sort_small : SortOK 19 := by
  intro B so n cap xs w hown hn
  go_enter Try.func69, Try.ntmps69
  go_wp2_with fail
  refine (stable_small B so n cap xs w hown hn).mono ?_
  rintro e w1 ⟨rfl, h⟩
  have H : Hid (_) := h
  clear h
  go_wp2_with fail
  go_end0
  exact ⟨rfl, H.out⟩

set_option maxHeartbeats 2000000 in
theorem make_any (N : Nat) (hsort : SortOK N) (hN : N ≤ 1000) (d : Int) (a : Option Addr) (n cap : Nat) (xs : List (Int × Int)) (w : World) (hr : RowG PE w a n cap xs) (hn : n ≤ N) :
    Calls Try.prog 45 #[.int .u8 d, .slice a n cap] w fun e w' => ∃ so k co zs, e = .returned (.agg #[.int .u8 d, .slice so k co]) ∧ OwnG PE 40 w' w.heap.size so k co zs ∧ Below w.heap.size w w' ∧ CanL d zs ∧ (∀ c, atL d zs c = atL d xs.reverse c) ∧ k ≤ n ∧ ∀ p ∈ zs, p ∈ xs := by
  have HS : Hid (SortOK N) := hsort
  clear hsort
  go_enter Try.func45, Try.ntmps45
  go_wp2_with fail
  refine (cloneP_any a n cap xs _ (hr.below (below_alloc _ _)) (by omega)).mono ?_
  rintro e w1 ⟨yo, yc, rfl, hown1, hb1⟩
  have hR1 : w1.heap[w.heap.size]? = some (.cells #[.int .u8 0, .slice none 0 0] 24 (0, 0)) := by rw [hb1.block _ (by simp)]; exact heap_new_at _ _ _ rfl
  have hbw1 : Below w.heap.size w w1 := ext_trans (below_alloc _ _) hb1
  clear hb1
  go_wp2_with fail
  refine (HS.out _ yo n yc xs w1 hown1 hn).mono ?_
  rintro e w2 ⟨rfl, ys, hown2, hst, hnd, hg2⟩
  have hblk : ∀ x, (Value.slice yo n yc).ownBlock = some x → w.heap.size < x := fun x hx => by have := (own_block hown1 x hx).1; simp at this; omega
  have hR2 : w2.heap[w.heap.size]? = some (.cells #[.int .u8 0, .slice none 0 0] 24 (0, 0)) := (hg2.block _ (Array.getElem?_eq_some_iff.1 hR1).1 (fun e => by have := hblk _ e.symm; omega)).trans hR1
  have hbw2 : Below w.heap.size w w2 := hbw1.trans (below_of_grown hg2 hbw1.size (fun x hx => by have := hblk x hx; omega))
  have hyl : Hid (ys.length = n) := hown2.1
  have HP : Hid (StEq ys xs ∧ Nd ys) := ⟨hst, hnd⟩
  have hyb : ∀ x, yo = some x → x.block < w2.heap.size := fun x hx => by subst hx; exact (own_block hown2 x.block (by simp [Value.ownBlock])).2
  clear hst hnd hg2 hblk hR1 hbw1 hown1
  go_wp2_with fail
  obtain ⟨W0, hW0⟩ : ∃ x, x = w2.alloc (Obj.cells #[Value.int IntKind.u8 d, Value.slice none 0 0] 24) := ⟨_, rfl⟩
  rw [← hW0]
  have hG : W0.heap[w2.heap.size]? = some (.cells #[.int .u8 d, .slice none 0 0] 24 (0, 0)) := by rw [hW0]; exact heap_new_at _ _ _ rfl
  have hb3 : Below w2.heap.size w2 W0 := hW0 ▸ below_alloc _ _
  have hRlt : w.heap.size < w2.heap.size := (Array.getElem?_eq_some_iff.1 hR2).1
  have hR : W0.heap[w.heap.size]? = some (.cells #[.int .u8 0, .slice none 0 0] 24 (0, 0)) := (hb3.block _ hRlt).trans hR2
  have hbW : Below w.heap.size w W0 := ext_trans hbw2 hb3
  have hyrow := (hown2.below hb3).row
  have hycap := hyrow.cap_le
  clear hW0 hb3 hR2 hbw2 hown2
  have hGne : w.heap.size ≠ w2.heap.size := by omega
  go_loopw [17] (fun iv wr => ∃ (i : Nat) (so : Option Addr) (no co : Nat) (os : List (Int × Int)), i ≤ n ∧ iv = .int .i64 i ∧ OutAt W0 w2.heap.size d wr so no co os ∧ os ++ runs d (ys.drop i) = runs d ys ∧ no ≤ i) (fun i _ => n - (intOf i).toNat)
  case atStart => exact ⟨0, none, 0, 0, [], by omega, rfl, OutAt.init hG, rfl, by omega⟩
  case round =>
    obtain ⟨i, so, no, co, os, hi, rfl, hout, hrun, hno⟩ := hrel
    have HR : Hid (os ++ runs d (ys.drop i) = runs d ys) := hrun
    clear hrun
    by_cases hlt : i < n
    · have hp : (i : Int) < (n : Int) := by omega
      have hyr := hout.row hyrow (fun x hx => by have := hyb x hx; omega)
      obtain ⟨g, off, rfl, _⟩ := hyr.at (by omega)
      obtain ⟨X, Y, hX, HXb⟩ := hyr.get2 i hlt
      obtain ⟨t1, t2⟩ := hyr.pair hX
      have HRN : Hid (∀ (wx : World) (so' : Option Addr) (no' co' : Nat), OutAt W0 w2.heap.size d wx so' no' co' (os ++ unl X Y d) → rhd d (X, Y) (ys.drop (i + 1)) = unl X Y d → (os ++ unl X Y d) ++ runs d (ys.drop (i + 1)) = runs d ys) := fun _ _ _ _ _ h => by
        rw [← HR.out, runs_step d hX, h, List.append_assoc]
      have HR0 : Hid (rhd d (X, Y) (ys.drop (i + 1)) = [] → os ++ runs d (ys.drop (i + 1)) = runs d ys) := fun h => by
        rw [← HR.out, runs_step d hX, h, List.nil_append]
      have HNX : Hid (∀ X' Y', ys[i + 1]? = some (X', Y') → rhd d (X, Y) (ys.drop (i + 1)) = if X' = X then [] else unl X Y d) := fun X' Y' h => rhd_next d X Y h
      have HEN : Hid (n = i + 1 → rhd d (X, Y) (ys.drop (i + 1)) = unl X Y d) := fun h => rhd_end d X Y (by rw [hyl.out, h])
      have HX : Hid (ys[i]? = some (X, Y)) := hX
      clear hX
      go_wp2_with fail
      obtain ⟨W2, hW2⟩ : ∃ x, x = wr.alloc (.cells #[.int .u16 X, .int .u8 Y] 40) := ⟨_, rfl⟩
      rw [← hW2]
      have hout2 : OutAt W0 w2.heap.size d W2 so no co os := hW2 ▸ hout.below (below_alloc wr _)
      have hyr2 : RowG PE W2 (some ⟨g, off, none⟩) n yc ys := hW2 ▸ hyr.below (below_alloc wr _)
      have g2 : W2.cell? ⟨wr.heap.size, 0, none⟩ = some (.int .u16 X) := by rw [hW2]; simp
      have g3 : W2.cell? ⟨wr.heap.size, 1, none⟩ = some (.int .u8 Y) := by rw [hW2]; simp
      have hwsz : wr.heap.size < W2.heap.size := by rw [hW2]; simp
      clear hW2
      have hne : ∀ x, (Value.slice so no co).ownBlock = some x → x ≠ wr.heap.size := fun x hx => by have := own_block hout.own x hx; omega
      have hc1 := hout2.c1
      have hc0 := hout2.c0
      by_cases hend : i + 1 = n
      · have q1 : ((i : Int) + 1 == (n : Int)) = true := by simp; omega
        go_quiet (fail)
        go_wp2_with fail
        have hout3 := hout2.below (same_drew W2 nq)
        refine (appendUnlike_any so no co os X Y d HXb _ W0.heap.size hout3.gr.size hout3.own (by omega)).mono ?_
        rintro e w3 ⟨so', co', no', rfl, hown3, hno3, hg3⟩
        obtain ⟨_, _, m1, m2, m3⟩ := hout3.mid hg3
        have hout4 := hout3.store hg3 hown3
        go_wp2_with fail
        go_roundw
        case rel => exact ⟨i + 1, so', no', co', os ++ unl X Y d, by omega, by go_num, hout4, HRN.out _ _ _ _ hout4 (HEN.out (by omega)), by omega⟩
        case measure => simp [intOf]; omega
      · have q1 : ((i : Int) + 1 == (n : Int)) = false := by simp; omega
        obtain ⟨i1, hi1⟩ : ∃ k, k = i + 1 := ⟨_, rfl⟩
        have q1' : ((i1 : Int) == (n : Int)) = false := by simp; omega
        have q2 : (i1 : Int) < (n : Int) := by omega
        have q3 : i1 < n := by omega
        have q4 : (i : Int) + 1 = (i1 : Int) := by omega
        obtain ⟨X', Y', hX', _⟩ := hyr2.get2 i1 q3
        obtain ⟨t3, t4⟩ := hyr2.pair hX'
        have HX' : Hid (ys[i + 1]? = some (X', Y')) := hi1 ▸ hX'
        have HI1 : Hid (i1 = i + 1) := hi1
        clear hX' hi1 q1
        by_cases hXX : X' = X
        · have q5 : (X' == X) = true := by simpa using hXX
          go_quiet (fail)
          go_wp2_with fail
          go_roundw
          case rel => exact ⟨i + 1, so, no, co, os, by omega, by rw [HI1.out], hout2.below (same_drew W2 nq), HR0.out (by rw [HNX.out _ _ HX'.out, if_pos hXX]), by omega⟩
          case measure => have := HI1.out; simp [intOf]; omega
        · have q5 : (X' == X) = false := by simpa using hXX
          go_quiet (fail)
          go_wp2_with fail
          have hout3 := hout2.below (same_drew W2 nq)
          refine (appendUnlike_any so no co os X Y d HXb _ W0.heap.size hout3.gr.size hout3.own (by omega)).mono ?_
          rintro e w3 ⟨so', co', no', rfl, hown3, hno3, hg3⟩
          obtain ⟨_, _, m1, m2, m3⟩ := hout3.mid hg3
          have hout4 := hout3.store hg3 hown3
          go_wp2_with fail
          go_roundw
          case rel => exact ⟨i + 1, so', no', co', os ++ unl X Y d, by omega, by rw [HI1.out], hout4, HRN.out _ _ _ _ hout4 (by rw [HNX.out _ _ HX'.out, if_neg hXX]), by omega⟩
          case measure => have := HI1.out; simp [intOf]; omega
    · obtain rfl : n = i := by omega
      have hRr := hout.heap hR hGne
      have r0 := cell_of_heap hRr 0 _ rfl
      have r1 := cell_of_heap hRr 1 _ rfl
      have f0 : wr.frozen? ⟨w.heap.size, 0, none⟩ = false := frozen_of_row wr _ 0 _ 24 hRr
      have f1 : wr.frozen? ⟨w.heap.size, 1, none⟩ = false := frozen_of_row wr _ 1 _ 24 hRr
      have g0 := hout.c0
      have g1 := hout.c1
      go_wp2_with fail
      obtain ⟨e1, e2, e3⟩ := hout.ret hR hGne (Nat.le_refl _) (by omega) hbW
      try simp only [Exit.inBlock, Exit.then]
      refine bodyPost_ret (ret_lab rfl _ _ (w.heap.size) d so no co rfl e1) rfl ?_
      have h1 := HR.out
      rw [List.drop_of_length_le (by rw [hyl.out]; exact Nat.le_refl _), runs, List.append_nil] at h1
      rw [h1] at e2
      have h2 := runs_ok d HP.out.2
      exact ⟨so, no, co, runs d ys, rfl, e2, e3, ⟨h2.1, fun p hp => (runs_mem d ys p hp).2⟩, fun c => by rw [h2.2, HP.out.1.last], by omega, fun p hp => (HP.out.1.mem p).1 (runs_mem d ys p hp).1⟩
end Go.Proofs.Ytdoemkncgfgkhaa
