/- slices.Insert of one ref: contracts: at the end, with room, without. -/
import Derived.Test.YtafnonmpanpfkaaArTake
import Derived.Test.YtafnonmpanpfkaaArCopy
namespace Go.Proofs.Ytafnonmpanpfkaa
open Go.RowKit
set_option maxRecDepth 100000
set_option linter.unusedVariables false

theorem size72 (w : World) : (Go.sizeOf 72).run Try.prog w = .ok 3 w := by
  obtain ⟨i, hi, _, h1, _⟩ := info_parts infoER
  simp [sizeOf, typeInfo, hi, h1]
theorem size72' : (Try.prog.info? 72).map (·.size) = some 3 := by
  obtain ⟨i, hi, _, h1, _⟩ := info_parts infoER
  rw [hi]; simp [h1]
theorem overlaps_no (w : World) {vb b : Nat} {cs cur : Array Value} (hv : w.heap[vb]? = some (.cells cs 72 (0, 0))) (hb : w.heap[b]? = some (.cells cur 72 (0, 0))) (h0 : cur.size ≠ 0) (hne : vb ≠ b) (o lb cb : Nat) :
    (callFunc 50 #[.slice (some ⟨vb, 0, none⟩) 1 1, .slice (some ⟨b, o, none⟩) lb cb]).run Try.prog w = .ok (.value (.bool false)) w := by
  rw [run_callFunc_extern Try.func50 (by kernel_rfl) (by kernel_rfl) (by kernel_rfl) (e := Extern.SlicesOverlaps.overlaps #[54, 54] #[4]) (by kernel_rfl),
    Lib.run_overlaps_apart w 54 4 72 Try.underlying54 3 size72 ⟨vb, 0, none⟩ ⟨b, o, none⟩ 1 1 lb cb hne 72 72 cs.size cur.size (by simp [World.shape?, hv]) (by simp [World.shape?, hb]) h0 (by simp [World.frozen?, hv]) (by simp [World.frozen?, hv])]
  rfl
theorem flat_drop3 (xs : List Rf) (i : Nat) (h : i ≤ xs.length) : (ER.flat xs).drop (i * 3) = ER.flat (xs.drop i) := by
  have e : (ER.flat (xs.take i)).length = i * 3 := by rw [ER.flat_len, List.length_take, Nat.min_eq_left h]; rfl
  rw [← List.take_append_drop i xs, ER.flat_append, List.drop_left' e, List.take_append_drop]
def rcells (r : Rf) : Array Value := #[.int .u64 r.id, .int .i64 r.pl, .int .u64 r.g]
theorem one_ref {w : World} {vb : Nat} {r : Rf} (hv : w.heap[vb]? = some (.cells (rcells r) 72 (0, 0))) (hok : U r.id) : RowG ER w (some ⟨vb, 0, none⟩) 1 1 [r] :=
  (OwnG.of_cells (E := ER) (e := 72) (B := 0) (n := 1) (cap := 1) (Nat.zero_le _) hv (Nat.le_refl _) (by unfold maxLen; omega) rfl rfl (Enc.Ok.one hok) rfl).row
theorem ins_own {w : World} {g cap n : Nat} {cur : Array Value} {A D : List Rf} {r : Rf} {Z : List Value} (hg : w.heap[g]? = some (.cells cur 72 (0, 0))) (hn : A.length + 1 + D.length = n) (hc : n ≤ cap) (hm : cap ≤ maxLen) (hs : cur.size = cap * 3)
    (hA : ER.Ok A) (hr : U r.id) (hD : ER.Ok D) (hl : cur.toList = ER.flat A ++ ER.cells r ++ ER.flat D ++ Z) : OwnG ER 72 w 0 (some ⟨g, 0, none⟩) n cap (A ++ [r] ++ D) := by
  refine OwnG.of_cells (Nat.zero_le _) hg hc hm hs (by simp; omega) ((hA.append (Enc.Ok.one hr)).append hD) ?_
  have e : ER.flat (A ++ [r] ++ D) = ER.flat A ++ ER.cells r ++ ER.flat D := by rw [ER.flat_append, ER.flat_append]; simp [Enc.flat]
  rw [e, hl]
  refine List.take_left' ?_
  rw [← e, ER.flat_len]
  have : (A ++ [r] ++ D).length = n := by simp; omega
  rw [this]
section
variable {w : World} {a : Option Addr} {n c i : Nat} {xs : List Rf} {vb : Nat} {r : Rf}
def InsPost (w : World) (a : Option Addr) (n c : Nat) (ys : List Rf) (e : Ending) (w' : World) : Prop := ∃ (a' : Option Addr) (c' : Nat), e = .returned (.slice a' (n + 1) c') ∧ OwnG ER 72 w' 0 a' (n + 1) c' ys ∧ w.grownBy w' (Value.slice a n c).ownBlock ∧ ∀ y, a' = some y → (Value.slice a n c).ownBlock = some y.block ∨ w.heap.size ≤ y.block
set_option maxHeartbeats 2000000 in
theorem ins_end (h : OwnG ER 72 w 0 a n c xs) (hv : w.heap[vb]? = some (.cells (rcells r) 72 (0, 0))) (hok : U r.id) (hbd : n ≤ 1099511627776) :
    Calls Try.prog 41 #[.slice a n c, .int .i64 n, .slice (some ⟨vb, 0, none⟩) 1 1] w fun e w' => InsPost w a n c (xs ++ [r]) e w' := by
  have hr := one_ref hv hok
  have hc := h.row.cap_le
  have e1 : ¬ (n < n) := by omega
  rcases h.cases with ⟨rfl, rfl, rfl, rfl⟩ | ⟨g, cur, rfl, _⟩
  · go_enter Try.func41, Try.ntmps41
    go_wp2_with (at_builtin; refine wp_append_h _ rfl (.tmp 23) (.tmp 24) 54 rfl 72 Try.underlying54 _ _ infoER rfl 0 0 0 none [] rfl h _ 1 1 [r] rfl hr (by omega) (by omega) ?_; intro a' c' w1 o1 g1 a1)
    go_ret
    exact ⟨a', c', rfl, o1, g1, fun y hy => (a1 y hy).imp id (fun e => by rw [e]; exact Nat.le_refl _)⟩
  · go_enter Try.func41, Try.ntmps41
    go_wp2_with (at_builtin; refine wp_append_h _ rfl (.tmp 23) (.tmp 24) 54 rfl 72 Try.underlying54 _ _ infoER rfl 0 n c (some ⟨g, 0, none⟩) xs rfl h _ 1 1 [r] rfl hr (by omega) (by omega) ?_; intro a' c' w1 o1 g1 a1)
    all_goals
      go_ret
      exact ⟨a', c', rfl, o1, g1, fun y hy => (a1 y hy).imp id (fun e => by rw [e]; exact Nat.le_refl _)⟩
set_option maxHeartbeats 4000000 in
theorem ins_shift {b : Nat} (h : OwnG ER 72 w 0 (some ⟨b, 0, none⟩) n c xs) (hv : w.heap[vb]? = some (.cells (rcells r) 72 (0, 0))) (hok : U r.id) (hbd : n ≤ 1099511627776) (hvb : vb ≠ b) (hi : i < n) (hroom : n + 1 ≤ c) :
    Calls Try.prog 41 #[.slice (some ⟨b, 0, none⟩) n c, .int .i64 i, .slice (some ⟨vb, 0, none⟩) 1 1] w fun e w' => InsPost w (some ⟨b, 0, none⟩) n c (xs.take i ++ [r] ++ xs.drop i) e w' := by
  have hr := one_ref hv hok
  have hc := h.row.cap_le
  have hxl := h.1
  have hxo := h.2.1
  rcases h.cases with ⟨hcn, _⟩ | ⟨g, cur, hgb, _, hg, hnc, hcm, hcs, htk⟩
  · cases hcn
  obtain rfl : b = g := by simpa using hgb
  replace hcs : cur.size = c * 3 := hcs
  replace htk : cur.toList.take (n * 3) = ER.flat xs := htk
  have hdl : (ER.flat (xs.drop i)).length = (n - i) * 3 := by rw [ER.flat_len, List.length_drop, hxl]; rfl
  have hov : ∀ o lb cb, (callFunc 50 #[.slice (some ⟨vb, 0, none⟩) 1 1, .slice (some ⟨b, o, none⟩) lb cb]).run Try.prog w = .ok (.value (.bool false)) w := fun o lb cb => overlaps_no w hv hg (by omega) hvb o lb cb
  have hcell : ∀ k, k < c * 3 → (w.cell? ⟨b, k, none⟩).isSome = true := fun k hk => by simp [World.cell?, hg]; omega
  have hfrz : ∀ k, w.frozen? ⟨b, k, none⟩ = false := fun k => by simp [World.frozen?, hg]
  have hcp1 : ∀ ty dc sc, (Builtin.copy_ #[54, 54] ty #[.slice (some ⟨b, (i + 1) * 3, none⟩) (n - i) dc, .slice (some ⟨b, i * 3, none⟩) (n + 1 - i) sc]).run Try.prog w.drew = .ok (goInt (n - i : Nat)) (w.drew.setCells b ((i + 1) * 3) (ER.flat (xs.drop i))) := fun ty dc sc =>
    run_copy_k 3 w.drew _ _ ty 72 b ((i + 1) * 3) (n - i) dc ⟨b, i * 3, none⟩ (n + 1 - i) sc (n - i) (ER.flat (xs.drop i)) Try.underlying54 size72' (by simp only [Nat.min_def]; split <;> omega) hdl
      (fun j v hj => by
        rw [add_pl]
        have hl := (List.getElem?_eq_some_iff.1 hj).1
        have e : (ER.flat xs)[i * 3 + j]? = some v := by
          rw [← List.getElem?_drop, flat_drop3 xs i (by omega)]
          exact hj
        rw [← htk, List.getElem?_take] at e
        split at e
        · have : w.heap[b]? = _ := hg
          show (w.drew).cell? _ = _
          simp only [World.cell?]
          rw [show w.drew.heap = w.heap from rfl, hg]
          simpa using e
        · cases e)
      (fun j hj => hcell _ (by omega)) (fun j hj => hfrz _) (ER.flat_one _)
  have f0 : (ER.flat (xs.take i)).length = i * 3 := by rw [ER.flat_len, List.length_take, Nat.min_eq_left (by omega)]; rfl
  have e0 : cur.toList.take (i * 3) = ER.flat (xs.take i) := by
    rw [← ER.flat_take, ← htk, List.take_take, Nat.min_eq_left]
    · rfl
    · show i * 3 ≤ n * 3
      omega
  obtain ⟨W1, hW1⟩ : ∃ W1, W1 = w.drew.setCells b ((i + 1) * 3) (ER.flat (xs.drop i)) := ⟨_, rfl⟩
  obtain ⟨cu1, hg1, hl1⟩ := setCells_block (g := b) (e := 72) (f := (0, 0)) (ER.flat (xs.drop i)) ((i + 1) * 3) w.drew cur hg (by omega)
  rw [← hW1] at hg1
  have hs1 : cu1.size = c * 3 := by rw [← Array.length_toList, hl1, over_len _ _ _ (by simp; omega)]; simpa using hcs
  have hcell1 : ∀ k, k < c * 3 → (W1.cell? ⟨b, k, none⟩).isSome = true := fun k hk => by simp [World.cell?, hg1]; omega
  have hfrz1 : ∀ k, W1.frozen? ⟨b, k, none⟩ = false := fun k => by simp [World.frozen?, hg1]
  have hgr1 : w.drew.grownBy W1 (some b) := by rw [hW1]; exact setCells_grown _ _ _
  have hv1 : W1.heap[vb]? = some (.cells (rcells r) 72 (0, 0)) := (hgr1.block vb (Array.getElem?_eq_some_iff.1 hv).1 (by simpa using hvb)).trans hv
  have hcp2 : ∀ ty dc, (Builtin.copy_ #[54, 54] ty #[.slice (some ⟨b, i * 3, none⟩) (n + 1 - i) dc, .slice (some ⟨vb, 0, none⟩) 1 1]).run Try.prog W1 = .ok (goInt (1 : Nat)) (W1.setCells b (i * 3) (rcells r).toList) := fun ty dc =>
    run_copy_k 3 W1 _ _ ty 72 b (i * 3) (n + 1 - i) dc ⟨vb, 0, none⟩ 1 1 1 (rcells r).toList Try.underlying54 size72' (by simp only [Nat.min_def]; split <;> omega) rfl
      (fun j v hj => by rw [add_pl]; simp only [World.cell?, hv1]; simpa using hj)
      (fun j hj => hcell1 _ (by simp [rcells] at hj; omega)) (fun j hj => hfrz1 _) (fun v hv => by simp [rcells] at hv; rcases hv with rfl | rfl | rfl <;> rfl)
  rw [← hW1] at hcp1
  obtain ⟨W2, hW2⟩ : ∃ W2, W2 = W1.setCells b (i * 3) (rcells r).toList := ⟨_, rfl⟩
  obtain ⟨cu2, hg2, hl2⟩ := setCells_block (g := b) (e := 72) (f := (0, 0)) (rcells r).toList (i * 3) W1 cu1 hg1 (by simp [rcells]; omega)
  rw [← hW2] at hg2 hcp2
  have hgr2 : w.grownBy W2 (some b) := World.grownBy.trans (b := W1) ⟨hgr1.os, hgr1.tape, hgr1.output, hgr1.size, hgr1.block⟩ (by rw [hW2]; exact setCells_grown _ _ _)
  have hs2 : cu2.size = c * 3 := by rw [← Array.length_toList, hl2, over_len _ _ _ (by simp [rcells]; omega)]; simpa using hs1
  have hown : OwnG ER 72 W2 0 (some ⟨b, 0, none⟩) (n + 1) c (xs.take i ++ [r] ++ xs.drop i) := by
    obtain ⟨Z, hZ⟩ := over_shift cur.toList (ER.flat (xs.take i)) (ER.flat (xs.drop i)) (rcells r).toList (i * 3) e0 (by simp [rcells]; omega)
    refine ins_own hg2 (by simp; omega) hroom hcm hs2 (hxo.take i) hok (hxo.drop i) (Z := Z) ?_
    rw [hl2, hl1]
    rw [show i * 3 + (rcells r).toList.length = (i + 1) * 3 by simp [rcells]; omega] at hZ
    exact hZ
  have hz2 : ¬ ((i : Int) = (n : Int)) := by omega
  have hb1 : (0 : Int) ≤ (i : Int) + 1 := by omega
  have hw1 : IntKind.i64.wrap ((i : Int) + 1) = (i : Int) + 1 := by rw [IntKind.wrap_i64]; omega
  have htn : ((i : Int) + 1).toNat = i + 1 := by omega
  have hb2 : ¬ (c = i + 1) := by omega
  have hb3 : (i : Int) ≤ (n : Int) + 1 := by omega
  have hb4 : ¬ (c = i) := by omega
  have hin : i ≤ n := by omega
  have hin1 : i ≤ n + 1 := by omega
  clear hW1 hW2 hl1 hl2 hcell hfrz hcell1 hfrz1 hg1 hs1 hgr1 hv1 e0 f0 hdl hs2 hg2 hcs htk
  go_enter Try.func41, Try.ntmps41
  go_wp2_with (simp only [hov])
  go_region_law (refine step_copy_k rfl _ _ 54 54 rfl _ _ (by simp [Act.eval, Act.put]) (by simp [Act.eval, Act.put]) (hcp1 _ _ _) ?_)
  go_wp2_with (at_builtin; refine wpList_copy_k _ rfl _ _ 54 54 rfl _ _ rfl rfl (hcp2 _ _) ?_)
  go_ret
  exact ⟨_, _, rfl, hown, hgr2, fun y hy => .inl (by obtain rfl := Option.some.inj hy; rfl)⟩
theorem zc3 (k : Nat) : (Builtin.zeroCells (Value.agg #[.int .u64 0, .int .i64 0, .int .u64 0]).cells k).size = k * 3 := by
  simp [Builtin.zeroCells, Value.cells]
set_option maxHeartbeats 4000000 in
theorem ins_grow {b : Nat} (h : OwnG ER 72 w 0 (some ⟨b, 0, none⟩) n c xs) (hv : w.heap[vb]? = some (.cells (rcells r) 72 (0, 0))) (hok : U r.id) (hbd : n ≤ 1099511627776) (hi : i < n) (hroom : c < n + 1) :
    Calls Try.prog 41 #[.slice (some ⟨b, 0, none⟩) n c, .int .i64 i, .slice (some ⟨vb, 0, none⟩) 1 1] w fun e w' => InsPost w (some ⟨b, 0, none⟩) n c (xs.take i ++ [r] ++ xs.drop i) e w' := by
  have hc := h.row.cap_le
  have hxl := h.1
  have hxo := h.2.1
  rcases h.cases with ⟨hcn, _⟩ | ⟨g, cur, hgb, _, hg, hnc, hcm, hcs, htk⟩
  · cases hcn
  obtain rfl : b = g := by simpa using hgb
  replace hcs : cur.size = c * 3 := hcs
  replace htk : cur.toList.take (n * 3) = ER.flat xs := htk
  obtain ⟨i0, hi0, hz0, hz1, hz2⟩ := info_parts infoER
  have hdl : (ER.flat (xs.drop i)).length = (n - i) * 3 := by rw [ER.flat_len, List.length_drop, hxl]; rfl
  have f0 : (ER.flat (xs.take i)).length = i * 3 := by rw [ER.flat_len, List.length_take, Nat.min_eq_left (by omega)]; rfl
  have e0 : cur.toList.take (i * 3) = ER.flat (xs.take i) := by
    rw [← ER.flat_take, ← htk, List.take_take, Nat.min_eq_left]
    · rfl
    · show i * 3 ≤ n * 3
      omega
  have hbw : b < w.heap.size := (Array.getElem?_eq_some_iff.1 hg).1
  have hvw : vb < w.heap.size := (Array.getElem?_eq_some_iff.1 hv).1
  have hold : (Builtin.firstCells i0.size i (.slice (some ⟨b, 0, none⟩) i c)).run Try.prog w.drew = .ok (ER.flat (xs.take i)).toArray w.drew := by
    rw [hz1]
    refine run_firstCells_some w.drew 3 i ⟨b, 0, none⟩ i c _ f0 (fun j v hj => ?_)
    rw [add_pl, ← e0, List.getElem?_take] at *
    split at hj
    · simp only [World.cell?]
      rw [show w.drew.heap = w.heap from rfl, hg]
      simpa using hj
    · cases hj
  have hik : i + (n + 1 - i) = n + 1 := by omega
  have hkk : (n : Int) + 1 - (i : Int) = ((n + 1 - i : Nat) : Int) := by omega
  obtain ⟨G, hG⟩ : ∃ G, G = grownCap w (n + 1) c 72 := ⟨_, rfl⟩
  have hrz : ∀ ty, (Builtin.append_ #[54, 3] ty #[.slice (some ⟨b, 0, none⟩) i c, .int .i64 ((n : Int) + 1 - (i : Int))]).run Try.prog w =
      .ok (.slice (some ⟨w.heap.size, 0, none⟩) (n + 1) G) (w.drew.alloc (.cells ((ER.flat (xs.take i)).toArray ++ Builtin.zeroCells (Value.agg #[.int .u64 0, .int .i64 0, .int .u64 0]).cells (n + 1 - i) ++ Builtin.zeroCells (Value.agg #[.int .u64 0, .int .i64 0, .int .u64 0]).cells (G - (n + 1))) 72)) := fun ty => by
    have h := Lib.run_append_grow_zeros (P := Try.prog) w 54 3 ty 72 i0 _ .i64 .i64 Try.underlying54 Try.underlying3 hi0 hz0 (some ⟨b, 0, none⟩) i c _ hold (n + 1 - i) (by omega) (by omega) (by omega) (by omega) (by rw [hz2]; omega) (by rw [hz2, hik]; exact growslice_fits hroom (by omega))
    rw [hik, ← hG] at h
    rw [hkk]
    exact h
  have hGn : n + 1 ≤ G := by rw [hG]; exact grownCap_ge w _ _ _
  have hG63 : G ≤ 9223372036854775807 := by
    have := grownCap_le_maxLen w (n + 1) c 72 (by unfold maxLen; omega)
    rw [← hG] at this
    unfold maxLen at this
    omega
  obtain ⟨ROW, hROW⟩ : ∃ ROW : Array Value, ROW = (ER.flat (xs.take i)).toArray ++ Builtin.zeroCells (Value.agg #[.int .u64 0, .int .i64 0, .int .u64 0]).cells (n + 1 - i) ++ Builtin.zeroCells (Value.agg #[.int .u64 0, .int .i64 0, .int .u64 0]).cells (G - (n + 1)) := ⟨_, rfl⟩
  rw [← hROW] at hrz
  have hRl : ROW.size = G * 3 := by
    rw [hROW, Array.size_append, Array.size_append, zc3, zc3, List.size_toArray, f0]
    omega
  have hRt : ROW.toList.take (i * 3) = ER.flat (xs.take i) := by
    rw [hROW, Array.toList_append, Array.toList_append, List.append_assoc]
    exact List.take_left' f0
  obtain ⟨W1, hW1⟩ : ∃ W1, W1 = w.drew.alloc (.cells ROW 72) := ⟨_, rfl⟩
  rw [← hW1] at hrz
  obtain ⟨N, hN⟩ : ∃ N, N = w.heap.size := ⟨_, rfl⟩
  rw [← hN] at hrz
  have hg1 : W1.heap[N]? = some (.cells ROW 72 (0, 0)) := by rw [hW1, hN]; exact heap_alloc_new w.drew _
  have hb1 : Below w.heap.size w W1 := by rw [hW1]; exact ((Below.refl _ _).drew).alloc (Nat.le_refl _) _
  have hv1 : W1.heap[vb]? = some (.cells (rcells r) 72 (0, 0)) := (hb1.block vb hvw).trans hv
  have hgg : W1.heap[b]? = some (.cells cur 72 (0, 0)) := (hb1.block b hbw).trans hg
  have hcp1 : ∀ ty dc, (Builtin.copy_ #[54, 54] ty #[.slice (some ⟨N, i * 3, none⟩) (n + 1 - i) dc, .slice (some ⟨vb, 0, none⟩) 1 1]).run Try.prog W1 = .ok (goInt (1 : Nat)) (W1.setCells N (i * 3) (rcells r).toList) := fun ty dc =>
    run_copy_k 3 W1 _ _ ty 72 N (i * 3) (n + 1 - i) dc ⟨vb, 0, none⟩ 1 1 1 (rcells r).toList Try.underlying54 size72' (by simp only [Nat.min_def]; split <;> omega) rfl
      (fun j v hj => by rw [add_pl]; simp only [World.cell?, hv1]; simpa using hj)
      (fun j hj => by simp [rcells] at hj; simp [World.cell?, hg1]; omega) (fun j hj => by simp [World.frozen?, hg1]) (fun v hv => by simp [rcells] at hv; rcases hv with rfl | rfl | rfl <;> rfl)
  obtain ⟨W2, hW2⟩ : ∃ W2, W2 = W1.setCells N (i * 3) (rcells r).toList := ⟨_, rfl⟩
  obtain ⟨cu2, hg2, hl2⟩ := setCells_block (g := N) (e := 72) (f := (0, 0)) (rcells r).toList (i * 3) W1 ROW hg1 (by simp [rcells]; omega)
  have hgr2 : W1.grownBy W2 (some N) := by rw [hW2]; exact setCells_grown _ _ _
  rw [← hW2] at hg2 hcp1
  have hs2 : cu2.size = G * 3 := by rw [← Array.length_toList, hl2, over_len _ _ _ (by simp [rcells]; omega)]; simpa using hRl
  have hbN : b ≠ N := by omega
  have hgg2 : W2.heap[b]? = some (.cells cur 72 (0, 0)) := (hgr2.block b (Nat.lt_of_lt_of_le hbw hb1.size) (by simpa using hbN)).trans hgg
  have hcp2 : ∀ ty dc sc, (Builtin.copy_ #[54, 54] ty #[.slice (some ⟨N, (i + 1) * 3, none⟩) (n - i) dc, .slice (some ⟨b, i * 3, none⟩) (n - i) sc]).run Try.prog W2.drew = .ok (goInt (n - i : Nat)) (W2.drew.setCells N ((i + 1) * 3) (ER.flat (xs.drop i))) := fun ty dc sc =>
    run_copy_k 3 W2.drew _ _ ty 72 N ((i + 1) * 3) (n - i) dc ⟨b, i * 3, none⟩ (n - i) sc (n - i) (ER.flat (xs.drop i)) Try.underlying54 size72' (Nat.min_self _) hdl
      (fun j v hj => by
        rw [add_pl]
        have e : (ER.flat xs)[i * 3 + j]? = some v := by
          rw [← List.getElem?_drop, flat_drop3 xs i (by omega)]
          exact hj
        rw [← htk, List.getElem?_take] at e
        split at e
        · simp only [World.cell?]
          rw [show W2.drew.heap = W2.heap from rfl, hgg2]
          simpa using e
        · cases e)
      (fun j hj => by simp only [World.cell?]; rw [show W2.drew.heap = W2.heap from rfl, hg2]; simp; omega) (fun j hj => by simp only [World.frozen?]; rw [show W2.drew.heap = W2.heap from rfl, hg2]; simp) (ER.flat_one _)
  obtain ⟨W3, hW3⟩ : ∃ W3, W3 = W2.drew.setCells N ((i + 1) * 3) (ER.flat (xs.drop i)) := ⟨_, rfl⟩
  obtain ⟨cu3, hg3, hl3⟩ := setCells_block (g := N) (e := 72) (f := (0, 0)) (ER.flat (xs.drop i)) ((i + 1) * 3) W2.drew cu2 hg2 (by omega)
  have hgr3 : W2.drew.grownBy W3 (some N) := by rw [hW3]; exact setCells_grown _ _ _
  rw [← hW3] at hg3 hcp2
  have hs3 : cu3.size = G * 3 := by rw [← Array.length_toList, hl3, over_len _ _ _ (by simp; omega)]; simpa using hs2
  have hown : OwnG ER 72 W3 0 (some ⟨N, 0, none⟩) (n + 1) G (xs.take i ++ [r] ++ xs.drop i) := by
    obtain ⟨Z, hZ⟩ := over_fill ROW.toList (ER.flat (xs.take i)) (ER.flat (xs.drop i)) (rcells r).toList (i * 3) hRt (by simp [rcells]; omega)
    refine ins_own hg3 (by simp; omega) hGn hG63 hs3 (hxo.take i) hok (hxo.drop i) (Z := Z) ?_
    rw [hl3, hl2]
    rw [show i * 3 + (rcells r).toList.length = (i + 1) * 3 by simp [rcells]; omega] at hZ
    exact hZ
  have hgr : w.grownBy W3 (Value.slice (some ⟨b, 0, none⟩) n c).ownBlock := by
    refine ⟨hgr3.os.trans (hgr2.os.trans hb1.os), hgr3.tape.trans (hgr2.tape.trans hb1.tape), hgr3.output.trans (hgr2.output.trans hb1.output), ?_, fun k hk _ => ?_⟩
    · have h1 := hb1.size
      have h2 := hgr2.size
      have h3 := hgr3.size
      exact Nat.le_trans h1 (Nat.le_trans h2 h3)
    · have h1 := hb1.size
      have h2 := hgr2.size
      have e1 : some k ≠ some N := by simp; omega
      exact (hgr3.block k (Nat.lt_of_lt_of_le hk (Nat.le_trans h1 h2)) e1).trans ((hgr2.block k (by omega) e1).trans (hb1.block k hk))
  have hz2 : ¬ ((i : Int) = (n : Int)) := by omega
  have hz3 : (c : Int) < (n : Int) + 1 := by omega
  have hb1' : (0 : Int) ≤ (i : Int) + 1 := by omega
  have hw1 : IntKind.i64.wrap ((i : Int) + 1) = (i : Int) + 1 := by rw [IntKind.wrap_i64]; omega
  have htn : ((i : Int) + 1).toNat = i + 1 := by omega
  have hGi : ¬ (G = i) := by omega
  have hGi1 : ¬ (G = i + 1) := by omega
  have hci : ¬ (c = i) := by omega
  have hin : i ≤ n := by omega
  have hin1 : i ≤ n + 1 := by omega
  have HN : Hid (N = w.heap.size) := hN
  have hfin : ∀ y : Addr, some (⟨N, 0, none⟩ : Addr) = some y → (Value.slice (some ⟨b, 0, none⟩) n c).ownBlock = some y.block ∨ w.heap.size ≤ y.block := fun y hy => .inr (by obtain rfl := Option.some.inj hy; show w.heap.size ≤ N; omega)
  clear hW1 hW2 hW3 hl2 hl3 hkk hik hold hROW hG hRl hRt hg1 hb1 hv1 hgg hg2 hgr2 hs2 hgg2 hg3 hgr3 hs3 e0 f0 hdl hcs htk hN hi0 hz0 hz1 hbN
  go_enter Try.func41, Try.ntmps41
  go_wp2_with (first
    | (at_builtin; refine Lib.wpList_append_run _ rfl _ _ _ _ rfl _ _ rfl rfl _ _ (hrz _) ?_)
    | (at_builtin; refine wpList_copy_k _ rfl _ _ 54 54 rfl _ _ rfl rfl (hcp1 _ _) ?_))
  go_region_law (refine step_copy_k rfl _ _ 54 54 rfl _ _ (by simp [Act.eval, Act.put]) (by simp [Act.eval, Act.put]) (hcp2 _ _ _) ?_)
  go_wp2
  go_ret
  exact ⟨_, _, rfl, hown, hgr, hfin⟩
theorem insert_any (h : OwnG ER 72 w 0 a n c xs) (hv : w.heap[vb]? = some (.cells (rcells r) 72 (0, 0))) (hok : U r.id) (hbd : n ≤ 1099511627776) (hne : ∀ y, a = some y → vb ≠ y.block) (hi : i ≤ n) :
    Calls Try.prog 41 #[.slice a n c, .int .i64 i, .slice (some ⟨vb, 0, none⟩) 1 1] w fun e w' => InsPost w a n c (xs.take i ++ [r] ++ xs.drop i) e w' := by
  by_cases he : i = n
  · subst he
    rw [List.take_of_length_le (by rw [h.1]; exact Nat.le_refl _), List.drop_of_length_le (by rw [h.1]; exact Nat.le_refl _), List.append_nil]
    exact ins_end h hv hok hbd
  · rcases h.cases with ⟨_, h0, _⟩ | ⟨g, cur, rfl, _⟩
    · omega
    · by_cases hroom : n + 1 ≤ c
      · exact ins_shift h hv hok hbd (hne _ rfl) (by omega) hroom
      · exact ins_grow h hv hok hbd (by omega) (by omega)
end
theorem set_ok {rf : List Rf} (hup : rf.Pairwise (fun r r' => r.id < r'.id)) {j : Nat} {r0 r : Rf} (hj : rf[j]? = some r0) (he : r0.id = r.id) :
    (rf.set j r).Pairwise (fun r r' => r.id < r'.id) ∧ (∀ r', r' ∈ rf.set j r ↔ r' = r ∨ (r' ∈ rf ∧ r'.id ≠ r.id)) ∧ (rf.set j r).length ≤ rf.length + 1 := by
  have hjl := (List.getElem?_eq_some_iff.1 hj).1
  have e1 : rf = rf.take j ++ r0 :: rf.drop (j + 1) := by
    rw [← (List.getElem?_eq_some_iff.1 hj).2, List.getElem_cons_drop, List.take_append_drop]
  have e2 : rf.set j r = rf.take j ++ r :: rf.drop (j + 1) := by rw [List.set_eq_take_append_cons_drop, if_pos hjl]
  obtain ⟨A, hA⟩ : ∃ A, A = rf.take j := ⟨_, rfl⟩
  obtain ⟨D, hD⟩ : ∃ D, D = rf.drop (j + 1) := ⟨_, rfl⟩
  rw [← hA, ← hD] at e1 e2
  rw [e2]
  have hl : rf.length = A.length + (D.length + 1) := by rw [e1]; simp
  rw [e1] at hup
  rw [List.pairwise_append, List.pairwise_cons] at hup
  obtain ⟨p1, ⟨p2, p3⟩, p4⟩ := hup
  refine ⟨?_, fun r' => ?_, by rw [hl]; simp⟩
  · rw [List.pairwise_append, List.pairwise_cons]
    refine ⟨p1, ⟨fun d hd => by have := p2 d hd; omega, p3⟩, fun x hx y hy => ?_⟩
    simp only [List.mem_cons] at hy
    rcases hy with rfl | hy
    · have := p4 x hx r0 (by simp); omega
    · exact p4 x hx y (by simp [hy])
  · rw [e1]
    simp only [List.mem_append, List.mem_cons]
    constructor
    · rintro (h | h | h)
      · exact .inr ⟨.inl h, by have := p4 r' h r0 (by simp); omega⟩
      · exact .inl h
      · exact .inr ⟨.inr (.inr h), by have := p2 r' h; omega⟩
    · rintro (h | ⟨h | h | h, hn⟩)
      · exact .inr (.inl h)
      · exact .inl h
      · exact absurd (by rw [h, he]) hn
      · exact .inr (.inr h)
theorem ins_ok {rf : List Rf} (hup : rf.Pairwise (fun r r' => r.id < r'.id)) {j : Nat} {r : Rf} (hlo : ∀ t r', rf[t]? = some r' → t < j → r'.id < r.id) (hhi : ∀ t r', rf[t]? = some r' → j ≤ t → r.id ≤ r'.id) (hno : ¬ ∃ r', rf[j]? = some r' ∧ r'.id = r.id) :
    (rf.take j ++ [r] ++ rf.drop j).Pairwise (fun r r' => r.id < r'.id) ∧ (∀ r', r' ∈ rf.take j ++ [r] ++ rf.drop j ↔ r' = r ∨ (r' ∈ rf ∧ r'.id ≠ r.id)) ∧ (rf.take j ++ [r] ++ rf.drop j).length ≤ rf.length + 1 := by
  have hA : ∀ x ∈ rf.take j, x.id < r.id := fun x hx => by
    obtain ⟨t, ht, rfl⟩ := List.getElem_of_mem hx
    have hl : t < j ∧ t < rf.length := by simp at ht; omega
    have := hlo t rf[t] (List.getElem?_eq_getElem hl.2) hl.1
    simpa using this
  have hD : ∀ x ∈ rf.drop j, r.id < x.id := fun x hx => by
    obtain ⟨t, ht, rfl⟩ := List.getElem_of_mem hx
    have hl : j + t < rf.length := by simp at ht; omega
    have h1 := hhi (j + t) rf[j + t] (List.getElem?_eq_getElem hl) (by omega)
    rw [List.getElem_drop]
    by_cases h0 : t = 0
    · subst h0
      by_cases hc : rf[j + 0].id = r.id
      · exact absurd ⟨rf[j + 0], List.getElem?_eq_getElem (by omega), hc⟩ hno
      · omega
    · have h2 := hhi j rf[j] (List.getElem?_eq_getElem (by omega)) (Nat.le_refl _)
      have h3 := up_lt hup (show j < j + t by omega) (List.getElem?_eq_getElem (by omega)) (List.getElem?_eq_getElem hl)
      omega
  have e1 : rf.take j ++ [r] ++ rf.drop j = rf.take j ++ r :: rf.drop j := by simp
  have e2 : rf = rf.take j ++ rf.drop j := (List.take_append_drop _ _).symm
  rw [e1]
  refine ⟨?_, fun r' => ?_, ?_⟩
  · have hp := hup
    rw [e2, List.pairwise_append] at hp
    rw [List.pairwise_append, List.pairwise_cons]
    refine ⟨hp.1, ⟨hD, hp.2.1⟩, fun x hx y hy => ?_⟩
    simp only [List.mem_cons] at hy
    rcases hy with rfl | hy
    · exact hA x hx
    · have := hA x hx; have := hD y hy; omega
  · have hm : r' ∈ rf ↔ r' ∈ rf.take j ∨ r' ∈ rf.drop j := by rw [← List.mem_append, List.take_append_drop]
    rw [hm]
    simp only [List.mem_append, List.mem_cons]
    constructor
    · rintro (h | h | h)
      · exact .inr ⟨.inl h, by have := hA r' h; omega⟩
      · exact .inl h
      · exact .inr ⟨.inr h, by have := hD r' h; omega⟩
    · rintro (h | ⟨h | h, _⟩)
      · exact .inr (.inl h)
      · exact .inl h
      · exact .inr (.inr h)
  · have : (rf.take j).length + (rf.drop j).length = rf.length := by rw [← List.length_append, List.take_append_drop]
    simp only [List.length_append, List.length_cons]
    omega
end Go.Proofs.Ytafnonmpanpfkaa
