/- Stores into a row of numbers that the call itself made; the library's Clone and Compact of lists of categories: contracts. -/
import Derived.Test.YtpajojkhpnklfaaMerge
import Derived.Lib.SliceRun
import Derived.Lib.Walk
namespace Go.Proofs.Ytpajojkhpnklfaa
open Go.RowKit

theorem OwnW.block {e : TypeId} {w : World} {B g n cap : Nat} {xs : List Int} (h : OwnW e w B (some ⟨g, 0, none⟩) n cap xs) :
    ∃ cur : Array Value, B ≤ g ∧ w.heap[g]? = some (.cells cur e (0, 0)) ∧ n ≤ cap ∧ cap ≤ maxLen ∧ cur.size = cap ∧ cur.toList.take n = xs.map (Value.int .u16) := by
  rcases h.cases with ⟨h, _⟩ | ⟨g', cur, hv, r⟩
  · simp at h
  · simp only [Option.some.injEq, Addr.mk.injEq, and_true] at hv
    subst hv
    exact ⟨cur, r⟩
theorem OwnW.set {e : TypeId} {w : World} {B g n cap : Nat} {xs : List Int} (h : OwnW e w B (some ⟨g, 0, none⟩) n cap xs) (i : Nat) (v : Int) (hv : 0 ≤ v ∧ v < 65536) :
    OwnW e (w.setCell ⟨g, i, none⟩ (.int .u16 v)) B (some ⟨g, 0, none⟩) n cap (xs.set i v) := by
  obtain ⟨cur, hB, hg, hn, hm, hs, ht⟩ := h.block
  refine OwnW.of_cells hB (heap_setCell_same w g i cur e _ hg) hn hm (by simp [hs]) (by simp [h.1]) (h.2.1.set i v hv) ?_
  rw [Array.toList_setIfInBounds, List.map_set, ← ht, List.take_set]
theorem OwnW.set_past {e : TypeId} {w : World} {B g n cap : Nat} {xs : List Int} (h : OwnW e w B (some ⟨g, 0, none⟩) n cap xs) (i : Nat) (hi : n ≤ i) (v : Value) :
    OwnW e (w.setCell ⟨g, i, none⟩ v) B (some ⟨g, 0, none⟩) n cap xs := by
  obtain ⟨cur, hB, hg, hn, hm, hs, ht⟩ := h.block
  refine OwnW.of_cells hB (heap_setCell_same w g i cur e _ hg) hn hm (by simp [hs]) h.1 h.2.1 ?_
  rw [Array.toList_setIfInBounds, List.take_set_of_le hi]
  exact ht
theorem OwnW.sets_past {e : TypeId} {B g n cap : Nat} {xs : List Int} : ∀ (vs : List Value) (w : World) (i : Nat), OwnW e w B (some ⟨g, 0, none⟩) n cap xs → n ≤ i → OwnW e (w.setCells g i vs) B (some ⟨g, 0, none⟩) n cap xs
  | [], _, _, h, _ => h
  | v :: vs, w, i, h, hi => OwnW.sets_past vs _ (i + 1) (h.set_past i hi v) (by omega)
theorem Below.setCells {B : Nat} {a : World} {g : Nat} (hg : B ≤ g) : ∀ (vs : List Value) (w : World) (i : Nat), Below B a w → Below B a (w.setCells g i vs)
  | [], _, _, h => h
  | v :: vs, _, i, h => Below.setCells hg vs _ (i + 1) (h.setCell hg v)
theorem OwnW.cell {e : TypeId} {w : World} {B g n cap : Nat} {xs : List Int} (h : OwnW e w B (some ⟨g, 0, none⟩) n cap xs) (i : Nat) (hi : i < n) : w.cell? ⟨g, i, none⟩ = some (.int .u16 (xs.getD i 0)) := by
  have := h.row.cells i hi
  rwa [Nat.zero_add] at this
theorem OwnW.melt {e : TypeId} {w : World} {B g n cap : Nat} {xs : List Int} (h : OwnW e w B (some ⟨g, 0, none⟩) n cap xs) (i : Nat) : w.frozen? ⟨g, i, none⟩ = false := by
  obtain ⟨cur, hB, hg, hn, hm, hs, ht⟩ := h.block
  simp [World.frozen?, hg]
theorem OwnW.drewN {e : TypeId} {w : World} {B n cap : Nat} {a : Option Addr} {xs : List Int} (h : OwnW e w B a n cap xs) (k : Nat) : OwnW e (w.drewN k) B a n cap xs := h.below (bel_drewN (Below.refl _ _) _)

set_option maxHeartbeats 400000 in
theorem clone_any (a : Option Addr) (n cap : Nat) (xs : List Int) (w : World) (hr : RowW w a n cap xs) (hbd : n ≤ 1000000) :
    Calls Try.prog 31 #[.slice a n cap] w fun e w' => ∃ so co, e = .returned (.slice so n co) ∧ OwnW 27 w' w.heap.size so n co xs ∧ Below w.heap.size w w' := by
  have hq := fun W => Lib.run_eql_slice_nil (P := Try.prog) W 22 27 a n cap 0 0 Try.underlying22
  cases a with
  | none =>
    obtain ⟨rfl, rfl⟩ := hr.2.2.2.2.1 rfl
    obtain rfl := hr.empty rfl
    go_enter Try.func31, Try.ntmps31
    go_wp2_with fail
    go_ret
    exact ⟨none, 0, rfl, OwnW.of_nil _ _ _, Below.refl _ _⟩
  | some x =>
    go_enter Try.func31, Try.ntmps31
    go_wp2_with (at_builtin; refine wp_append_words _ rfl (.tmp 5) (.tmp 6) 22 rfl 27 Try.underlying22 info27 w.heap.size 0 0 _ [] rfl (ownw_lit w 27 [] 0 rfl (by omega) Wrd.nil) (some x) n cap xs rfl (hr.below (below_alloc _ _)) (by omega) (by simp) w (below_alloc _ _) ?_; intro s1 c1 w1 o1 b1; rw [Nat.zero_add, List.nil_append] at o1)
    go_ret
    exact ⟨s1, c1, by simp, o1, b1⟩

/-- Of equal neighbours one is left. -/
def dd : List Int → List Int
  | [] => []
  | [x] => [x]
  | x :: y :: l => if x = y then dd (y :: l) else x :: dd (y :: l)
theorem dd_snoc : ∀ (l : List Int) (p x : Int), dd (l ++ [p] ++ [x]) = if p = x then dd (l ++ [p]) else dd (l ++ [p]) ++ [x]
  | [], p, x => by by_cases h : p = x <;> simp [dd, h]
  | [a], p, x => by
    simp only [List.cons_append, List.nil_append, dd]
    by_cases h : p = x
    · subst h; by_cases h2 : a = p <;> simp [h2]
    · by_cases h2 : a = p <;> simp [h, h2]
  | a :: b :: l, p, x => by
    have := dd_snoc (b :: l) p x
    simp only [List.cons_append, dd] at this ⊢
    rw [this]
    split <;> split <;> simp
theorem dd_mem (x : Int) : ∀ (l : List Int), x ∈ dd l ↔ x ∈ l
  | [] => by simp [dd]
  | [a] => by simp [dd]
  | a :: b :: l => by
    have ih := dd_mem x (b :: l)
    rw [dd]
    split
    · next h => subst h; rw [ih]; simp
    · rw [List.mem_cons, ih, List.mem_cons (a := x) (b := a)]
theorem dd_srt : ∀ (l : List Int), l.Pairwise (· ≤ ·) → Srt (dd l)
  | [], _ => Srt.nil
  | [a], _ => by simp [dd, Srt]
  | a :: b :: l, h => by
    have h2 := List.pairwise_cons.1 h
    have ih := dd_srt (b :: l) h2.2
    rw [dd]
    split
    · exact ih
    · next hne =>
      refine srt_cons ih fun y hy => ?_
      have hy' := (dd_mem y (b :: l)).1 hy
      have h3 := h2.1 b (by simp)
      rcases List.mem_cons.1 hy' with e | e
      · subst e; omega
      · have h4 := (List.pairwise_cons.1 h2.2).1 y e; omega
theorem dd_len : ∀ (l : List Int), (dd l).length ≤ l.length
  | [] => by simp [dd]
  | [a] => by simp [dd]
  | a :: b :: l => by
    have ih := dd_len (b :: l)
    rw [dd]
    split
    · simp at ih ⊢; omega
    · simp at ih ⊢; omega
theorem dd_step {xs : List Int} {i : Nat} (h1 : 0 < i) (hi : i < xs.length) : dd (xs.take (i + 1)) = if xs.getD (i - 1) 0 = xs.getD i 0 then dd (xs.take i) else dd (xs.take i) ++ [xs.getD i 0] := by
  obtain ⟨j, rfl⟩ : ∃ j, i = j + 1 := ⟨i - 1, by omega⟩
  have hj : j < xs.length := by omega
  rw [List.take_succ_eq_append_getElem hi, List.take_succ_eq_append_getElem hj, dd_snoc, getD_eq hi, Nat.add_sub_cancel, getD_eq hj]
theorem dd_same {xs : List Int} (h : ∀ j, 1 ≤ j → j < xs.length → xs.getD j 0 ≠ xs.getD (j - 1) 0) : ∀ i, i ≤ xs.length → dd (xs.take i) = xs.take i := by
  intro i
  induction i with
  | zero => intro _; simp [dd]
  | succ i ih =>
    intro hi
    by_cases h0 : i = 0
    · subst h0
      cases xs with
      | nil => simp at hi
      | cons x xs => simp [dd]
    · rw [dd_step (by omega) (by omega), if_neg (fun e => h i (by omega) (by omega) e.symm), ih (by omega), List.take_succ_eq_append_getElem (by omega), getD_eq (by omega)]

theorem take_set_succ {zs : List Int} {k : Nat} {v : Int} (hk : k < zs.length) : (zs.set k v).take (k + 1) = zs.take k ++ [v] := by
  rw [List.take_succ_eq_append_getElem (by simpa using hk), List.take_set_of_le (Nat.le_refl _), List.getElem_set_self]
set_option maxHeartbeats 4000000 in
theorem compact_any (g n cap B : Nat) (xs : List Int) (w : World) (hown : OwnW 27 w B (some ⟨g, 0, none⟩) n cap xs) (w0 : World) (hb0 : Below B w0 w) :
    Calls Try.prog 33 #[.slice (some ⟨g, 0, none⟩) n cap] w fun e w' => ∃ k, e = .returned (.slice (some ⟨g, 0, none⟩) k cap) ∧ OwnW 27 w' B (some ⟨g, 0, none⟩) k cap (dd xs) ∧ Below B w0 w' := by
  have hl : Hid (xs.length = n) := hown.1
  have hcap := hown.row.cap_le
  have hBg := hown.lt.1
  by_cases hn2 : n < 2
  · have p : (n : Int) < 2 := by omega
    have hdd : dd xs = xs := by
      have := hl.out
      match xs, this with
      | [], _ => rfl
      | [x], _ => rfl
      | x :: y :: l, h => simp at h; omega
    rw [hdd]
    go_enter Try.func33, Try.ntmps33
    go_wp2_with fail
    go_ret
    exact ⟨n, rfl, hown, hb0⟩
  · have p : decide ((n : Int) < 2) = false := by simp; omega
    go_enter Try.func33, Try.ntmps33
    go_wp2_with fail
    go_loopw [3] (fun i wr => ∃ k : Nat, 1 ≤ k ∧ k ≤ n ∧ i = .int .i64 k ∧ OwnW 27 wr B (some ⟨g, 0, none⟩) n cap xs ∧ Below B w0 wr ∧ ∀ j, 1 ≤ j → j < k → xs.getD j 0 ≠ xs.getD (j - 1) 0) (fun i _ => n - (intOf i).toNat)
    case atStart => exact ⟨1, by omega, by omega, rfl, hown, hb0, fun j h1 h2 => by omega⟩
    case round =>
      clear hown hb0
      obtain ⟨k, hk1, hkn, rfl, hown, hb0, hup⟩ := hrel
      by_cases hlt : k < n
      · have q1 : (k : Int) < (n : Int) := by omega
        have c1 := hown.cell k hlt
        have c2 := hown.cell (k - 1) (by omega)
        have hq : ((k : Int) - 1) = ((k - 1 : Nat) : Int) := by omega
        generalize hX : xs.getD k 0 = X at c1
        generalize hY : xs.getD (k - 1) 0 = Y at c2
        have HX : Hid (xs.getD k 0 = X) := hX
        have HY : Hid (xs.getD (k - 1) 0 = Y) := hY
        clear hX hY
        by_cases hE : X = Y
        · subst hE
          have q2 : (k : Int) ≤ (n : Int) := by omega
          have q3 : ¬ cap = k := by omega
          have hdk : Hid (dd (xs.take (k + 1)) = xs.take k) := by
            show _ = _
            have hll := hl.out
            rw [dd_step (by omega) (by omega), if_pos (by rw [HX.out, HY.out])]
            have hs := dd_same (xs := xs.take k) (fun j h1 h2 => by
              simp at h2
              have := hup j h1 (by omega)
              simpa [List.getD, List.getElem?_take_of_lt (show j < k by omega), List.getElem?_take_of_lt (show j - 1 < k by omega)] using this) k (by simp; omega)
            rwa [List.take_take, Nat.min_self] at hs
          go_wp2_with fail
          go_quiet (fail)
          go_wp2_with fail
          obtain ⟨wo, rfl⟩ : ∃ x, x = wr := ⟨_, rfl⟩
          obtain ⟨k0, rfl⟩ : ∃ x, x = k := ⟨_, rfl⟩
          have hbw := bel_drewN hb0 nq
          have how := hown.drewN nq
          go_loopw [3, 5] (fun kv iv wi => ∃ (k k2 : Nat) (zs : List Int), 1 ≤ k2 ∧ k0 + k2 ≤ n ∧ k0 ≤ k ∧ k + 1 ≤ k0 + k2 ∧ kv = .int .i64 k ∧ iv = .int .i64 k2 ∧ OwnW 27 wi B (some ⟨g, 0, none⟩) n cap zs ∧ Below B w0 wi ∧ zs.take k = dd (xs.take (k0 + k2)) ∧ ∀ j, k0 + k2 - 1 ≤ j → j < n → zs.getD j 0 = xs.getD j 0) (fun _ iv _ => n - (intOf iv).toNat)
          case atStart => exact ⟨k0, 1, xs, by omega, by omega, by omega, by omega, rfl, rfl, how, hbw, hdk.out.symm, fun _ _ _ => rfl⟩
          case round =>
            clear how hbw hown hb0 c1 c2 hq
            obtain ⟨k, k2, zs, h1, h2, h3, h4, rfl, rfl, hown, hb0, htk, hsame⟩ := hrel
            have HTK : Hid (zs.take k = dd (xs.take (k0 + k2))) := htk
            clear htk
            have hlz : Hid (zs.length = n) := hown.1
            by_cases hlt2 : k0 + k2 < n
            · have q2 : (k2 : Int) < ((n - k0 : Nat) : Int) := by omega
              have c1 := hown.cell (k0 + k2) hlt2
              have c2 := hown.cell (k0 + (k2 - 1)) (by omega)
              have hq : ((k2 : Int) - 1) = ((k2 - 1 : Nat) : Int) := by omega
              rw [hsame (k0 + k2) (by omega) hlt2] at c1
              rw [show k0 + (k2 - 1) = k0 + k2 - 1 by omega, hsame (k0 + k2 - 1) (by omega) (by omega), show k0 + k2 - 1 = k0 + (k2 - 1) by omega] at c2
              have hst : Hid (dd (xs.take (k0 + k2 + 1)) = if xs.getD (k0 + (k2 - 1)) 0 = xs.getD (k0 + k2) 0 then dd (xs.take (k0 + k2)) else dd (xs.take (k0 + k2)) ++ [xs.getD (k0 + k2) 0]) := by
                show _ = _
                have := dd_step (xs := xs) (i := k0 + k2) (by omega) (by rw [hl.out]; exact hlt2)
                rwa [show k0 + k2 - 1 = k0 + (k2 - 1) by omega] at this
              have hXb := hown.2.1.get (k0 + k2)
              rw [hsame (k0 + k2) (by omega) hlt2] at hXb
              generalize hX2 : xs.getD (k0 + k2) 0 = X2 at c1 hst hXb
              generalize hY2 : xs.getD (k0 + (k2 - 1)) 0 = Y2 at c2 hst
              clear hX2 hY2
              have hmelt := hown.melt k
              have c3 := hown.cell k (by omega)
              generalize zs.getD k 0 = Z at c3
              have q5 : (k : Int) < (n : Int) := by omega
              by_cases hE : X2 = Y2
              · subst hE
                simp only [if_true] at hst
                go_wp2_with fail
                go_quiet (fail)
                go_wp2_with fail
                go_roundw
                case rel => exact ⟨k, k2 + 1, zs, by omega, by omega, by omega, by omega, rfl, by go_num, hown.drewN _, bel_drewN hb0 _, by rw [HTK.out, ← hst.out]; rfl, fun j hj1 hj2 => hsame j (by omega) hj2⟩
                case measure => simp [intOf]; omega
              · have hE' : (X2 == Y2) = false := by simpa using hE
                rw [if_neg (fun e => hE e.symm)] at hst
                go_wp2_with fail
                go_quiet (fail)
                go_wp2_with fail
                go_roundw
                case rel =>
                  refine ⟨k + 1, k2 + 1, zs.set k X2, by omega, by omega, by omega, by omega, by go_num, by go_num, (hown.drewN _).set k X2 hXb, (bel_drewN hb0 _).setCell hBg _, ?_, fun j hj1 hj2 => ?_⟩
                  · rw [take_set_succ (by rw [hlz.out]; omega), HTK.out, ← hst.out]; rfl
                  · rw [← hsame j (by omega) hj2, List.getD_eq_getElem?_getD, List.getElem?_set_ne (by omega), ← List.getD_eq_getElem?_getD]
                case measure => simp [intOf]; omega
            · have hend : Hid (k0 + k2 = n) := by show _ = _; omega
              have q2 : decide ((k2 : Int) < ((n - k0 : Nat) : Int)) = false := by simp; omega
              have q4 : (k : Int) ≤ (n : Int) := by omega
              have q5 : ¬ cap = k := by omega
              have q6 : (k : Int) ≤ (cap : Int) := by omega
              have hcl : ∀ ty, (Builtin.clear_ #[22] ty #[.slice (some ⟨g, k, none⟩) (n - k) (cap - k)]).run Try.prog wr = .ok (.tuple #[]) (wr.setCells g k (List.replicate (n - k) (Value.int .u16 0))) :=
                fun ty => Lib.run_clear_slice wr 22 27 ty (.int .u16 0) Try.underlying22 Try.zeroValue27 rfl rfl g k (n - k) (cap - k) (by omega) (fun j hj => by rw [hown.cell (k + j) (by omega)]; rfl) (fun j _ => hown.melt (k + j))
              go_wp2_with fail
              go_ret
              refine ⟨k, rfl, ?_, Below.setCells hBg _ _ _ hb0⟩
              have h5 := (hown.pre k (by omega)).sets_past (List.replicate (n - k) (Value.int .u16 0)) wr k (Nat.le_refl _)
              rw [HTK.out, hend.out, List.take_of_length_le (by rw [hl.out]; exact Nat.le_refl _)] at h5
              exact h5
        · have hE' : (X == Y) = false := by simpa using hE
          go_wp2
          go_quiet (fail)
          go_wp2
          go_roundw
          case rel =>
            refine ⟨k + 1, by omega, by omega, by go_num, hown.drewN _, bel_drewN hb0 _, fun j h1 h2 => ?_⟩
            by_cases hj : j < k
            · exact hup j h1 hj
            · obtain rfl : j = k := by omega
              rw [HX.out, HY.out]; exact hE
          case measure => simp [intOf]; omega
      · obtain rfl : k = n := by omega
        go_wp2
        go_ret
        have hs := dd_same (xs := xs) (fun j h1 h2 => hup j h1 (by rw [← hl.out]; exact h2)) k (by rw [hl.out]; exact Nat.le_refl _)
        rw [List.take_of_length_le (by rw [hl.out]; exact Nat.le_refl _)] at hs
        exact ⟨k, rfl, by rw [hs]; exact hown, hb0⟩
end Go.Proofs.Ytpajojkhpnklfaa
