/- QuotaBack walked: it answers true, and turns nothing that was there. -/
import Derived.Test.YtdonhmfjhnmnjaaQtBegun
import Derived.Test.YtdonhmfjhnmnjaaRegion
import Derived.Test.YtdonhmfjhnmnjaaInts
import Derived.Deep.CutRange
namespace Go.Proofs.Ytdonhmfjhnmnjaa
open Go.RowKit
set_option maxRecDepth 100000

theorem sum_drop : ∀ (xs : List Int) (j : Nat), j < xs.length → (xs.drop j).sum = xs.getD j 0 + (xs.drop (j + 1)).sum
  | [], j, h => absurd h (by simp)
  | x :: xs, 0, _ => by simp
  | x :: xs, j + 1, h => by
    have := sum_drop xs j (by simpa using h)
    simpa using this
theorem sum_nn : ∀ (xs : List Int), (∀ x ∈ xs, 0 ≤ x) → 0 ≤ xs.sum
  | [], _ => by simp
  | x :: xs, h => by
    have h1 := sum_nn xs fun y hy => h y (by simp [hy])
    have h2 := h x (by simp)
    simp
    omega
theorem infoI : (Try.prog.info? 3).map (fun i => (i.zero, i.size, i.bytes)) = some (some (.int .i64 0), 1, 8) := by kernel_rfl
theorem OwnI.other {e : TypeId} {w w' : World} {B n cap : Nat} {a : Option Addr} {xs : List Int} (h : OwnI e w B a n cap xs) (hb : ∀ k, B ≤ k → k < w.heap.size → w'.heap[k]? = w.heap[k]?) : OwnI e w' B a n cap xs := by
  rcases h.cases with ⟨rfl, rfl, rfl, rfl⟩ | ⟨g, cur, rfl, hB, hg, hn, hm, hs, ht⟩
  · exact OwnI.of_nil _ _ _
  · exact OwnI.of_cells hB ((hb g hB (Array.getElem?_eq_some_iff.1 hg).1).trans hg) hn hm hs h.1 h.2.1 ht
theorem hasOv {w W : World} {ab ao : Nat} {b : Int} (hc0 : w.cell? ⟨ab, ao, none⟩ = some (.int .u8 b)) (hb : Below w.heap.size w W) : W.cell? ⟨ab, ao, none⟩ = some (.int .u8 b) := (hb.cell (lt_of_cell hc0)).trans hc0
theorem OwnI.ne {e : TypeId} {w : World} {B n cap g : Nat} {a : Option Addr} {xs : List Int} (h : OwnI e w B a n cap xs) (hg : g < B ∨ w.heap.size ≤ g) : some g ≠ (Value.slice a n cap).ownBlock := by
  rcases h.cases with ⟨rfl, rfl, rfl, rfl⟩ | ⟨g', cur, rfl, hB, hg', _⟩
  · simp [Value.ownBlock]
  · have := (Array.getElem?_eq_some_iff.1 hg').1
    simp [Value.ownBlock]
    omega
theorem op_append_longs_to {P : Program} {o : Oper} {a : Act} {Q : Exit → Act → World → Prop} {K : Act → World → Prop} (w : World) (d : Tmp) (s x : Operand) (t : TypeId) (ho : o.op = .call { callee := .builtin .append, args := #[s, x], argTypes := #[t, t] }) (hd : o.dst = some d)
    (e : TypeId) (ht : P.underlying t = some (.slice e)) (hinfo : (P.info? e).map (fun i => (i.zero, i.size, i.bytes)) = some (some (.int .i64 0), 1, 8))
    (B n cap : Nat) (so : Option Addr) (ys : List Int) (hs : a.eval s = .slice so n cap) (hown : OwnI e w B so n cap ys)
    (ao : Option Addr) (m c : Nat) (xs : List Int) (hx : a.eval x = .slice ao m c) (hrow : RowI w ao m c xs) (hbd : n + m ≤ 8796093022208) (hB : B ≤ w.heap.size)
    (w0 : World) (hbel : Below B w0 w)
    (h : ∀ so' cap' w', OwnI e w' B so' (n + m) cap' (ys ++ xs) → Below B w0 w' → w.grownBy w' (Value.slice so n cap).ownBlock → K { a with tmps := a.tmps.setIfInBounds d (.slice so' (n + m) cap') } w') : Oper.wp P o a w K Q :=
  op_append_longs_g w s x t ho e ht hinfo B n cap so ys hs hown ao m c xs hx hrow hbd hB w0 hbel fun so' cap' w' h1 h2 h3 => by
    rw [hd]
    exact h so' cap' w' h1 h2 h3
theorem cell_same {w w' : World} {b o : Nat} (h : w'.heap[b]? = w.heap[b]?) : w'.cell? ⟨b, o, none⟩ = w.cell? ⟨b, o, none⟩ := by
  unfold World.cell?
  simp only
  rw [h]
theorem wp_store_obj {o : Oper} {a : Act} {w : World} {K : Act → World → Prop} {Q : Exit → Act → World → Prop} (x y : Operand) (ho : o.op = .store 32 x y) (hd : o.dst = none)
    (g : Nat) (cells : Array Value) (hx : a.eval x = .pointer (some ⟨g, 0, none⟩)) (hy : a.eval y = .agg cells) (old : Array Value) (hg : w.heap[g]? = some (.cells old 32 (0, 0)))
    (hi : (Try.prog.info? 32).map (·.size) = some cells.size) (hold : old.size = cells.size) (h1 : cells.all (·.oneCell') = true) (h : K a (w.setRow g cells)) : o.wp Try.prog a w K Q :=
  wp_store_row 32 x y ho g cells hx hy 32 old hg hi hold h1 (by rw [hd]; exact h)
/-- How the round stands: the box, what went in, and that nothing else was turned. -/
structure BkS (w wr : World) (g : Nat) (Q U : Int) (a : Option Addr) (n cap : Nat) (ins : List Int) : Prop where
  box : OvAt wr g 1 1 0 Q U 0
  ge : w.heap.size ≤ g
  own : OwnI 3 wr (g + 1) a n cap ins
  bel : Below w.heap.size w wr
theorem BkS.below {w wr w' : World} {g : Nat} {Q U : Int} {a : Option Addr} {n cap : Nat} {ins : List Int} (h : BkS w wr g Q U a n cap ins) (hb : Below wr.heap.size wr w') : BkS w w' g Q U a n cap ins :=
  ⟨h.box.below hb, h.ge, h.own.below hb, ext_trans h.bel hb⟩
theorem BkS.store {w wr : World} {g : Nat} {Q U V : Int} {a : Option Addr} {n cap : Nat} {ins : List Int} (h : BkS w wr g Q U a n cap ins) : BkS w (wr.setRow g #[.int .u64 1, .int .i64 1, .int .u8 0, .slice none 0 0, .slice none 0 0, .slice none 0 0, .slice none 0 0, .int .i64 Q, .int .i64 V, .int .i64 0, .slice none 0 0, .slice none 0 0, .slice none 0 0]) g Q V a n cap ins :=
  ⟨setRow_heap _ _ _ _ _ _ h.box, h.ge, h.own.other fun k hk _ => setRow_other _ _ _ _ (by omega), below_setRow h.bel h.ge _⟩
set_option maxHeartbeats 4000000 in
theorem quotaBack_walk (q0 : Int) (hq0 : 0 ≤ q0 ∧ q0 < 65536) (a : Option Addr) (len cap : Nat) (xs : List Int) (w : World) (hr : Row w a len cap xs) :
    Calls Try.prog 4 #[.int .u16 q0, .slice a len cap] w fun e w' => e = .returned (.bool true) ∧ Below w.heap.size w w' := by
  have hcl := hr.cap_le
  go_enter Try.func4, Try.ntmps4
  go_wp2_with fail
  refine (begun15_true _).mono ?_
  rintro e w1 ⟨rfl, b1⟩
  by_cases h20 : (20 : Int) < (len : Int)
  · go_wp2_with fail
    go_ret
    exact ⟨rfl, b1⟩
  go_wp2_with fail
  have hlen : len ≤ 20 := by omega
  clear h20
  obtain ⟨Q, hQ⟩ : ∃ Q, Q = q0 % 401 := ⟨_, rfl⟩
  rw [← hQ]
  have hQb : 0 ≤ Q ∧ Q ≤ 400 := by omega
  clear hQ
  have hb := OvAt.new w1 1 1 0 Q 0 0
  have hbl := below_alloc w1 (.cells #[.int .u64 1, .int .i64 1, .int .u8 0, .slice none 0 0, .slice none 0 0, .slice none 0 0, .slice none 0 0, .int .i64 Q, .int .i64 0, .int .i64 0, .slice none 0 0, .slice none 0 0, .slice none 0 0] 32)
  obtain ⟨W0, hW0⟩ : ∃ W0, W0 = w1.alloc (.cells #[.int .u64 1, .int .i64 1, .int .u8 0, .slice none 0 0, .slice none 0 0, .slice none 0 0, .slice none 0 0, .int .i64 Q, .int .i64 0, .int .i64 0, .slice none 0 0, .slice none 0 0, .slice none 0 0] 32) := ⟨_, rfl⟩
  rw [← hW0] at hb hbl ⊢
  clear hW0
  have hs0 : BkS w W0 w1.heap.size Q 0 none 0 0 [] := ⟨hb, b1.size, OwnI.of_nil _ _ _, ext_trans b1 hbl⟩
  clear hb hbl b1
  generalize w1.heap.size = G at hs0
  clear hq0
  go_loopw [6, 7, 8] (fun s6 s7 s8 wr => ∃ (j : Nat) (S : Int) (ia : Option Addr) (ic : Nat) (ins : List Int), j ≤ len ∧ s6 = .int .i64 S ∧ s7 = .slice ia ins.length ic ∧ s8 = .int .i64 j ∧ Hid (ins.length ≤ j ∧ ins.sum = S ∧ (∀ x ∈ ins, 0 ≤ x ∧ x < 256)) ∧ (0 ≤ S ∧ S ≤ Q) ∧ BkS w wr G Q S ia ins.length ic ins) (fun _ _ s8 _ => len - (intOf s8).toNat)
  case atStart => exact ⟨0, 0, none, 0, [], by omega, rfl, rfl, rfl, ⟨by simp, by simp, by simp⟩, by omega, hs0⟩
  case round =>
    clear hs0
    obtain ⟨j, S, ia, ic, ins, hj, rfl, rfl, rfl, hin, hS, hst⟩ := hrel
    by_cases hjl : j < len
    · have hjl' : (j : Int) < (len : Int) := by omega
      go_wp2_with fail
      obtain ⟨ab, ao, rfl, hcell⟩ := hr.at (by omega)
      have hc0 := hcell j hjl
      have hbb : 0 ≤ xs.getD j 0 ∧ xs.getD j 0 < 256 := by
        have hlx := hr.len
        rw [List.getD_eq_getElem?_getD, List.getElem?_eq_getElem (by omega)]
        exact hr.byt _ (List.getElem_mem _)
      generalize xs.getD j 0 = b at hc0 hbb
      clear hcell
      have habl := lt_of_cell hc0
      have hbI : I64 b := by unfold I64; omega
      have hwb : IntKind.i64.wrap b = b := by rw [IntKind.wrap_i64]; omega
      have hqs : 0 ≤ S ∧ S ≤ Q ∧ Q ≤ 400 := by omega
      obtain ⟨i', k', d', q', u', n', hB⟩ : ∃ i' k' d' q' u' n', addB 1 1 0 Q S 0 b = ov i' k' d' q' u' n' := by
        unfold addB
        split <;> exact ⟨_, _, _, _, _, _, rfl⟩
      obtain ⟨E, hE⟩ : ∃ E, Hid (E = addE Q S b) := ⟨_, rfl⟩
      have HC : Hid (∀ W, Below wr.heap.size wr W → (W.cell? ⟨G, 0, none⟩ = some (.int .u64 1) ∧ W.cell? ⟨G, 1, none⟩ = some (.int .i64 1) ∧ W.cell? ⟨G, 2, none⟩ = some (.int .u8 0) ∧ W.cell? ⟨G, 3, none⟩ = some (.slice none 0 0) ∧ W.cell? ⟨G, 4, none⟩ = some (.slice none 0 0) ∧ W.cell? ⟨G, 5, none⟩ = some (.slice none 0 0) ∧ W.cell? ⟨G, 6, none⟩ = some (.slice none 0 0) ∧ W.cell? ⟨G, 7, none⟩ = some (.int .i64 Q) ∧ W.cell? ⟨G, 8, none⟩ = some (.int .i64 S) ∧ W.cell? ⟨G, 9, none⟩ = some (.int .i64 0) ∧ W.cell? ⟨G, 10, none⟩ = some (.slice none 0 0) ∧ W.cell? ⟨G, 11, none⟩ = some (.slice none 0 0) ∧ W.cell? ⟨G, 12, none⟩ = some (.slice none 0 0)) ∧ W.cell? ⟨ab, ao + j, none⟩ = some (.int .u8 b) ∧ Below w.heap.size w W) := fun W h =>
        ⟨(hst.box.below h).cells, ((ext_trans hst.bel h).cell habl).trans hc0, ext_trans hst.bel h⟩
      go_cut [9, 10] from 27 to 36 (fun s9 s10 wc => ∃ gX : Nat, s9 = .pointer (some ⟨gX, 0, none⟩) ∧ s10 = .int .i64 E ∧ wr.heap.size ≤ gX ∧ OvAt wc gX i' k' d' q' u' n' ∧ Below wr.heap.size wr wc)
      case first =>
        have hB0 : Below wr.heap.size wr wr.drew := ext_drew _
        refine wp_region_noPanic ?_
        refine wp_region_held_drew (S := fun W => Below wr.heap.size wr W) (by kernel_rfl) hB0 fun hS => ?_
        refine take_to (i := 0) (v := ?_) 28 rfl rfl (by kernel_rfl) (by kernel_rfl) (by kernel_rfl) (fun _ _ _ h => h) (Or.inl ⟨by rfl, ?_⟩) hS ?_
        rotate_left
        · intro W hW
          obtain ⟨⟨o0, o1, o2, o3, o4, o5, o6, o7, o8, o9, o10, o11, o12⟩, hcb, _⟩ := HC.out W hW
          go_simp
          try with_reducible rfl
        simp only [List.setIfInBounds_toArray, List.set_cons_zero, List.set_cons_succ]
        refine take_to (i := 1) (v := ?_) 29 rfl rfl (by kernel_rfl) (by kernel_rfl) (by kernel_rfl) (fun _ _ _ h => h) (Or.inl ⟨by rfl, ?_⟩) hS ?_
        rotate_left
        · intro W hW
          obtain ⟨⟨o0, o1, o2, o3, o4, o5, o6, o7, o8, o9, o10, o11, o12⟩, hcb, _⟩ := HC.out W hW
          go_simp
          try with_reducible rfl
        simp only [List.setIfInBounds_toArray, List.set_cons_zero, List.set_cons_succ]
        refine take_to (i := 2) (v := ?_) 30 rfl rfl (by kernel_rfl) (by kernel_rfl) (by kernel_rfl) (fun _ _ _ h => h) (Or.inl ⟨by rfl, ?_⟩) hS ?_
        rotate_left
        · intro W hW
          obtain ⟨⟨o0, o1, o2, o3, o4, o5, o6, o7, o8, o9, o10, o11, o12⟩, hcb, _⟩ := HC.out W hW
          go_simp
          try with_reducible rfl
        simp only [List.setIfInBounds_toArray, List.set_cons_zero, List.set_cons_succ]
        refine take_to (i := 3) (v := ?_) 31 rfl rfl (by kernel_rfl) (by kernel_rfl) (by kernel_rfl) (fun _ _ _ h => h) (Or.inl ⟨by rfl, ?_⟩) hS ?_
        rotate_left
        · intro W hW
          obtain ⟨⟨o0, o1, o2, o3, o4, o5, o6, o7, o8, o9, o10, o11, o12⟩, hcb, _⟩ := HC.out W hW
          go_simp
          try with_reducible rfl
        simp only [List.setIfInBounds_toArray, List.set_cons_zero, List.set_cons_succ]
        refine take_to (i := 4) (v := ?_) 32 rfl rfl (by kernel_rfl) (by kernel_rfl) (by kernel_rfl) (fun _ _ _ h => h) (Or.inl ⟨by rfl, ?_⟩) hS ?_
        rotate_left
        · intro W hW
          obtain ⟨⟨o0, o1, o2, o3, o4, o5, o6, o7, o8, o9, o10, o11, o12⟩, hcb, _⟩ := HC.out W hW
          go_simp
          try with_reducible rfl
        simp only [List.setIfInBounds_toArray, List.set_cons_zero, List.set_cons_succ]
        refine take_to (i := 5) (v := ?_) 33 rfl rfl (by kernel_rfl) (by kernel_rfl) (by kernel_rfl) (fun _ _ _ h => h) (Or.inl ⟨by rfl, ?_⟩) hS ?_
        rotate_left
        · intro W hW
          obtain ⟨⟨o0, o1, o2, o3, o4, o5, o6, o7, o8, o9, o10, o11, o12⟩, hcb, _⟩ := HC.out W hW
          go_simp
          try with_reducible rfl
        simp only [List.setIfInBounds_toArray, List.set_cons_zero, List.set_cons_succ]
        refine wpAnyH_ready (rs := [6, 10]) (by kernel_rfl) (by simp) ?_
        refine AllReadyH.cons rfl (fun K hK => ?_) (AllReadyH.cons rfl (fun K hK => ?_) AllReadyH.nil)
        · skip
          go_simp
          refine (add_nil 1 1 0 Q S 0 b _ hqs hbI).mono ?_
          rintro e w2 ⟨rfl, b2⟩
          rw [hB, ← hE.out]
          replace b2 := ext_trans hB0 b2
          refine hK.out _ _ b2 fun hS => ?_
          clear hK K
          refine take_to (i := 7) (v := ?_) 27 rfl rfl (by kernel_rfl) (by kernel_rfl) (by kernel_rfl) (fun _ _ _ h => h) (Or.inl ⟨by rfl, ?_⟩) hS ?_
          rotate_left
          · intro W hW
            go_simp
            try with_reducible rfl
          simp only [List.setIfInBounds_toArray, List.set_cons_zero, List.set_cons_succ]
          refine take_to (i := 8) (v := ?_) 35 rfl rfl (by kernel_rfl) (by kernel_rfl) (by kernel_rfl) (fun _ _ _ h => h) (Or.inl ⟨by rfl, ?_⟩) hS ?_
          rotate_left
          · intro W hW
            go_simp
            try with_reducible rfl
          simp only [List.setIfInBounds_toArray, List.set_cons_zero, List.set_cons_succ]
          refine take_to (i := 9) (v := ?_) 36 rfl rfl (by kernel_rfl) (by kernel_rfl) (by kernel_rfl) (fun _ _ _ h => h) (Or.inl ⟨by rfl, ?_⟩) hS ?_
          rotate_left
          · intro W hW
            go_simp
            try with_reducible rfl
          simp only [List.setIfInBounds_toArray, List.set_cons_zero, List.set_cons_succ]
          refine wpAnyH_ready (rs := [10]) (by kernel_rfl) (by simp) ?_
          refine AllReadyH.cons rfl (fun K hK => ?_) AllReadyH.nil
          go_simp
          have hgl : wr.heap.size ≤ w2.heap.size := b2.size
          have hgz := heap_alloc_new w2 (.cells #[.int .u64 0, .int .i64 0, .int .u8 0, .slice none 0 0, .slice none 0 0, .slice none 0 0, .slice none 0 0, .int .i64 0, .int .i64 0, .int .i64 0, .slice none 0 0, .slice none 0 0, .slice none 0 0] 32)
          have b3 := ext_trans b2 (below_alloc w2 (.cells #[.int .u64 0, .int .i64 0, .int .u8 0, .slice none 0 0, .slice none 0 0, .slice none 0 0, .slice none 0 0, .int .i64 0, .int .i64 0, .int .i64 0, .slice none 0 0, .slice none 0 0, .slice none 0 0] 32))
          refine hK.out _ _ b3 fun hS => ?_
          clear hK K
          refine wpAnyH_ready (rs := [11]) (by kernel_rfl) (by simp) ?_
          refine AllReadyH.cons rfl (fun K hK => ?_) AllReadyH.nil
          refine wp_store_obj (.tmp 9) (.tmp 35) rfl rfl (w2.heap.size) _ rfl rfl _ (hgz) (by kernel_rfl) rfl (by kernel_rfl) ?_
          refine hK.out _ _ (below_setRow b3 (Nat.le_trans hgl (Nat.le_refl _)) _) fun hS => ?_
          clear hK K
          refine take_to (i := 12) (v := ?_) 10 rfl rfl (by kernel_rfl) (by kernel_rfl) (by kernel_rfl) (fun _ _ _ h => h) (Or.inl ⟨by rfl, ?_⟩) hS ?_
          rotate_left
          · intro W hW
            go_simp
            try with_reducible rfl
          simp only [List.setIfInBounds_toArray, List.set_cons_zero, List.set_cons_succ]
          refine wpAnyH_done (by kernel_rfl) ?_ _
          refine NoPanic.normal ?_
          go_wp2_with fail
          go_meet
          case rel => exact ⟨_, rfl, rfl, hgl, setRow_heap _ _ _ _ _ _ (hgz), below_setRow b3 hgl _⟩
        · go_simp
          have hgl : wr.heap.size ≤ wr.drew.heap.size := hB0.size
          have hgz := heap_alloc_new wr.drew (.cells #[.int .u64 0, .int .i64 0, .int .u8 0, .slice none 0 0, .slice none 0 0, .slice none 0 0, .slice none 0 0, .int .i64 0, .int .i64 0, .int .i64 0, .slice none 0 0, .slice none 0 0, .slice none 0 0] 32)
          have b1 := ext_trans hB0 (below_alloc wr.drew (.cells #[.int .u64 0, .int .i64 0, .int .u8 0, .slice none 0 0, .slice none 0 0, .slice none 0 0, .slice none 0 0, .int .i64 0, .int .i64 0, .int .i64 0, .slice none 0 0, .slice none 0 0, .slice none 0 0] 32))
          refine hK.out _ _ b1 fun hS => ?_
          clear hK K
          refine wpAnyH_ready (rs := [6]) (by kernel_rfl) (by simp) ?_
          refine AllReadyH.cons rfl (fun K hK => ?_) AllReadyH.nil
          go_simp
          refine (add_nil 1 1 0 Q S 0 b _ hqs hbI).mono ?_
          rintro e w2 ⟨rfl, b2⟩
          rw [hB, ← hE.out]
          replace hgz := (b2.block _ (by simp)).trans hgz
          replace b2 := ext_trans b1 b2
          refine hK.out _ _ b2 fun hS => ?_
          clear hK K
          refine take_to (i := 7) (v := ?_) 27 rfl rfl (by kernel_rfl) (by kernel_rfl) (by kernel_rfl) (fun _ _ _ h => h) (Or.inl ⟨by rfl, ?_⟩) hS ?_
          rotate_left
          · intro W hW
            go_simp
            try with_reducible rfl
          simp only [List.setIfInBounds_toArray, List.set_cons_zero, List.set_cons_succ]
          refine take_to (i := 8) (v := ?_) 35 rfl rfl (by kernel_rfl) (by kernel_rfl) (by kernel_rfl) (fun _ _ _ h => h) (Or.inl ⟨by rfl, ?_⟩) hS ?_
          rotate_left
          · intro W hW
            go_simp
            try with_reducible rfl
          simp only [List.setIfInBounds_toArray, List.set_cons_zero, List.set_cons_succ]
          refine take_to (i := 9) (v := ?_) 36 rfl rfl (by kernel_rfl) (by kernel_rfl) (by kernel_rfl) (fun _ _ _ h => h) (Or.inl ⟨by rfl, ?_⟩) hS ?_
          rotate_left
          · intro W hW
            go_simp
            try with_reducible rfl
          simp only [List.setIfInBounds_toArray, List.set_cons_zero, List.set_cons_succ]
          refine wpAnyH_ready (rs := [11]) (by kernel_rfl) (by simp) ?_
          refine AllReadyH.cons rfl (fun K hK => ?_) AllReadyH.nil
          refine wp_store_obj (.tmp 9) (.tmp 35) rfl rfl (wr.drew.heap.size) _ rfl rfl _ (hgz) (by kernel_rfl) rfl (by kernel_rfl) ?_
          refine hK.out _ _ (below_setRow b2 (Nat.le_trans hgl (Nat.le_refl _)) _) fun hS => ?_
          clear hK K
          refine take_to (i := 12) (v := ?_) 10 rfl rfl (by kernel_rfl) (by kernel_rfl) (by kernel_rfl) (fun _ _ _ h => h) (Or.inl ⟨by rfl, ?_⟩) hS ?_
          rotate_left
          · intro W hW
            go_simp
            try with_reducible rfl
          simp only [List.setIfInBounds_toArray, List.set_cons_zero, List.set_cons_succ]
          refine wpAnyH_done (by kernel_rfl) ?_ _
          refine NoPanic.normal ?_
          go_wp2_with fail
          go_meet
          case rel => exact ⟨_, rfl, rfl, hgl, setRow_heap _ _ _ _ _ _ (hgz), below_setRow b2 hgl _⟩
      case rest =>
        clear HC
        obtain ⟨gX, rfl, rfl, hgX, hX, hbX⟩ := hcut
        have hst2 := hst.below hbX
        have hwS : IntKind.i64.wrap (S + b) = S + b := by rw [IntKind.wrap_i64]; omega
        have HC : Hid (∀ W, Below wc.heap.size wc W → (W.cell? ⟨G, 0, none⟩ = some (.int .u64 1) ∧ W.cell? ⟨G, 1, none⟩ = some (.int .i64 1) ∧ W.cell? ⟨G, 2, none⟩ = some (.int .u8 0) ∧ W.cell? ⟨G, 3, none⟩ = some (.slice none 0 0) ∧ W.cell? ⟨G, 4, none⟩ = some (.slice none 0 0) ∧ W.cell? ⟨G, 5, none⟩ = some (.slice none 0 0) ∧ W.cell? ⟨G, 6, none⟩ = some (.slice none 0 0) ∧ W.cell? ⟨G, 7, none⟩ = some (.int .i64 Q) ∧ W.cell? ⟨G, 8, none⟩ = some (.int .i64 S) ∧ W.cell? ⟨G, 9, none⟩ = some (.int .i64 0) ∧ W.cell? ⟨G, 10, none⟩ = some (.slice none 0 0) ∧ W.cell? ⟨G, 11, none⟩ = some (.slice none 0 0) ∧ W.cell? ⟨G, 12, none⟩ = some (.slice none 0 0)) ∧ W.cell? ⟨ab, ao + j, none⟩ = some (.int .u8 b)) := fun W h =>
          ⟨(hst2.box.below h).cells, hasOv hc0 (ext_trans hst2.bel h)⟩
        have hB1 : Below wc.heap.size wc wc.drew := ext_drew _
        by_cases hok : S + b ≤ Q
        · have hn0 : ¬ b < 0 := by omega
          have hn1 : ¬ Q - S < b := by omega
          obtain rfl : E = 0 := hE.out.trans (addE_ok hn0 hn1)
          have hBo : addB 1 1 0 Q S 0 b = ov 1 1 0 Q (S + b) 0 := by unfold addB; rw [addE_ok hn0 hn1, if_pos rfl]
          rw [hBo] at hB
          simp only [Value.agg.injEq, Array.mk.injEq, List.cons.injEq, Value.int.injEq, true_and, and_true] at hB
          obtain ⟨rfl, rfl, rfl, rfl, rfl, rfl⟩ := hB
          clear hn0 hn1 hBo hE
          go_wp2_with fail
          refine wp_region_noPanic ?_
          refine wp_region_held_drew (S := fun W => Below wc.heap.size wc W) (by kernel_rfl) hB1 fun hS => ?_
          refine take_to (i := 0) (v := ?_) 37 rfl rfl (by kernel_rfl) (by kernel_rfl) (by kernel_rfl) (fun _ _ _ h => h) (Or.inl ⟨by rfl, ?_⟩) hS ?_
          rotate_left
          · intro W hW
            obtain ⟨⟨o0, o1, o2, o3, o4, o5, o6, o7, o8, o9, o10, o11, o12⟩, hcb⟩ := HC.out W hW
            go_simp
            try with_reducible rfl
          simp only [List.setIfInBounds_toArray, List.set_cons_zero, List.set_cons_succ]
          refine take_to (i := 1) (v := ?_) 38 rfl rfl (by kernel_rfl) (by kernel_rfl) (by kernel_rfl) (fun _ _ _ h => h) (Or.inl ⟨by rfl, ?_⟩) hS ?_
          rotate_left
          · intro W hW
            obtain ⟨⟨o0, o1, o2, o3, o4, o5, o6, o7, o8, o9, o10, o11, o12⟩, hcb⟩ := HC.out W hW
            go_simp
            try with_reducible rfl
          simp only [List.setIfInBounds_toArray, List.set_cons_zero, List.set_cons_succ]
          refine take_to (i := 2) (v := ?_) 39 rfl rfl (by kernel_rfl) (by kernel_rfl) (by kernel_rfl) (fun _ _ _ h => h) (Or.inl ⟨by rfl, ?_⟩) hS ?_
          rotate_left
          · intro W hW
            obtain ⟨⟨o0, o1, o2, o3, o4, o5, o6, o7, o8, o9, o10, o11, o12⟩, hcb⟩ := HC.out W hW
            go_simp
            try with_reducible rfl
          simp only [List.setIfInBounds_toArray, List.set_cons_zero, List.set_cons_succ]
          refine take_to (i := 3) (v := ?_) 40 rfl rfl (by kernel_rfl) (by kernel_rfl) (by kernel_rfl) (fun _ _ _ h => h) (Or.inl ⟨by rfl, ?_⟩) hS ?_
          rotate_left
          · intro W hW
            obtain ⟨⟨o0, o1, o2, o3, o4, o5, o6, o7, o8, o9, o10, o11, o12⟩, hcb⟩ := HC.out W hW
            go_simp
            try with_reducible rfl
          simp only [List.setIfInBounds_toArray, List.set_cons_zero, List.set_cons_succ]
          refine take_to (i := 4) (v := ?_) 41 rfl rfl (by kernel_rfl) (by kernel_rfl) (by kernel_rfl) (fun _ _ _ h => h) (Or.inl ⟨by rfl, ?_⟩) hS ?_
          rotate_left
          · intro W hW
            obtain ⟨⟨o0, o1, o2, o3, o4, o5, o6, o7, o8, o9, o10, o11, o12⟩, hcb⟩ := HC.out W hW
            go_simp
            try with_reducible rfl
          simp only [List.setIfInBounds_toArray, List.set_cons_zero, List.set_cons_succ]
          refine take_to (i := 5) (v := ?_) 42 rfl rfl (by kernel_rfl) (by kernel_rfl) (by kernel_rfl) (fun _ _ _ h => h) (Or.inl ⟨by rfl, ?_⟩) hS ?_
          rotate_left
          · intro W hW
            obtain ⟨⟨o0, o1, o2, o3, o4, o5, o6, o7, o8, o9, o10, o11, o12⟩, hcb⟩ := HC.out W hW
            go_simp
            try with_reducible rfl
          simp only [List.setIfInBounds_toArray, List.set_cons_zero, List.set_cons_succ]
          refine take_to (i := 6) (v := ?_) 43 rfl rfl (by kernel_rfl) (by kernel_rfl) (by kernel_rfl) (fun _ _ _ h => h) (Or.inl ⟨by rfl, ?_⟩) hS ?_
          rotate_left
          · intro W hW
            obtain ⟨⟨o0, o1, o2, o3, o4, o5, o6, o7, o8, o9, o10, o11, o12⟩, hcb⟩ := HC.out W hW
            go_simp
            try with_reducible rfl
          simp only [List.setIfInBounds_toArray, List.set_cons_zero, List.set_cons_succ]
          refine take_to (i := 7) (v := ?_) 44 rfl rfl (by kernel_rfl) (by kernel_rfl) (by kernel_rfl) (fun _ _ _ h => h) (Or.inl ⟨by rfl, ?_⟩) hS ?_
          rotate_left
          · intro W hW
            obtain ⟨⟨o0, o1, o2, o3, o4, o5, o6, o7, o8, o9, o10, o11, o12⟩, hcb⟩ := HC.out W hW
            go_simp
            try with_reducible rfl
          simp only [List.setIfInBounds_toArray, List.set_cons_zero, List.set_cons_succ]
          refine take_to (i := 8) (v := ?_) 45 rfl rfl (by kernel_rfl) (by kernel_rfl) (by kernel_rfl) (fun _ _ _ h => h) (Or.inl ⟨by rfl, ?_⟩) hS ?_
          rotate_left
          · intro W hW
            obtain ⟨⟨o0, o1, o2, o3, o4, o5, o6, o7, o8, o9, o10, o11, o12⟩, hcb⟩ := HC.out W hW
            go_simp
            try with_reducible rfl
          simp only [List.setIfInBounds_toArray, List.set_cons_zero, List.set_cons_succ]
          refine take_to (i := 9) (v := ?_) 46 rfl rfl (by kernel_rfl) (by kernel_rfl) (by kernel_rfl) (fun _ _ _ h => h) (Or.inl ⟨by rfl, ?_⟩) hS ?_
          rotate_left
          · intro W hW
            obtain ⟨⟨o0, o1, o2, o3, o4, o5, o6, o7, o8, o9, o10, o11, o12⟩, hcb⟩ := HC.out W hW
            go_simp
            try with_reducible rfl
          simp only [List.setIfInBounds_toArray, List.set_cons_zero, List.set_cons_succ]
          refine take_to (i := 10) (v := ?_) 47 rfl rfl (by kernel_rfl) (by kernel_rfl) (by kernel_rfl) (fun _ _ _ h => h) (Or.inl ⟨by rfl, ?_⟩) hS ?_
          rotate_left
          · intro W hW
            obtain ⟨⟨o0, o1, o2, o3, o4, o5, o6, o7, o8, o9, o10, o11, o12⟩, hcb⟩ := HC.out W hW
            go_simp
            try with_reducible rfl
          simp only [List.setIfInBounds_toArray, List.set_cons_zero, List.set_cons_succ]
          refine take_to (i := 11) (v := ?_) 48 rfl rfl (by kernel_rfl) (by kernel_rfl) (by kernel_rfl) (fun _ _ _ h => h) (Or.inl ⟨by rfl, ?_⟩) hS ?_
          rotate_left
          · intro W hW
            obtain ⟨⟨o0, o1, o2, o3, o4, o5, o6, o7, o8, o9, o10, o11, o12⟩, hcb⟩ := HC.out W hW
            go_simp
            try with_reducible rfl
          simp only [List.setIfInBounds_toArray, List.set_cons_zero, List.set_cons_succ]
          refine take_to (i := 12) (v := ?_) 49 rfl rfl (by kernel_rfl) (by kernel_rfl) (by kernel_rfl) (fun _ _ _ h => h) (Or.inl ⟨by rfl, ?_⟩) hS ?_
          rotate_left
          · intro W hW
            obtain ⟨⟨o0, o1, o2, o3, o4, o5, o6, o7, o8, o9, o10, o11, o12⟩, hcb⟩ := HC.out W hW
            go_simp
            try with_reducible rfl
          simp only [List.setIfInBounds_toArray, List.set_cons_zero, List.set_cons_succ]
          refine take_to (i := 13) (v := ?_) 50 rfl rfl (by kernel_rfl) (by kernel_rfl) (by kernel_rfl) (fun _ _ _ h => h) (Or.inl ⟨by rfl, ?_⟩) hS ?_
          rotate_left
          · intro W hW
            obtain ⟨⟨o0, o1, o2, o3, o4, o5, o6, o7, o8, o9, o10, o11, o12⟩, hcb⟩ := HC.out W hW
            go_simp
            try with_reducible rfl
          simp only [List.setIfInBounds_toArray, List.set_cons_zero, List.set_cons_succ]
          refine take_to (i := 14) (v := ?_) 51 rfl rfl (by kernel_rfl) (by kernel_rfl) (by kernel_rfl) (fun _ _ _ h => h) (Or.inl ⟨by rfl, ?_⟩) hS ?_
          rotate_left
          · intro W hW
            obtain ⟨⟨o0, o1, o2, o3, o4, o5, o6, o7, o8, o9, o10, o11, o12⟩, hcb⟩ := HC.out W hW
            go_simp
            try with_reducible rfl
          simp only [List.setIfInBounds_toArray, List.set_cons_zero, List.set_cons_succ]
          refine take_to (i := 15) (v := ?_) 52 rfl rfl (by kernel_rfl) (by kernel_rfl) (by kernel_rfl) (fun _ _ _ h => h) (Or.inl ⟨by rfl, ?_⟩) hS ?_
          rotate_left
          · intro W hW
            obtain ⟨⟨o0, o1, o2, o3, o4, o5, o6, o7, o8, o9, o10, o11, o12⟩, hcb⟩ := HC.out W hW
            go_simp
            try with_reducible rfl
          simp only [List.setIfInBounds_toArray, List.set_cons_zero, List.set_cons_succ]
          refine take_to (i := 16) (v := ?_) 53 rfl rfl (by kernel_rfl) (by kernel_rfl) (by kernel_rfl) (fun _ _ _ h => h) (Or.inl ⟨by rfl, ?_⟩) hS ?_
          rotate_left
          · intro W hW
            obtain ⟨⟨o0, o1, o2, o3, o4, o5, o6, o7, o8, o9, o10, o11, o12⟩, hcb⟩ := HC.out W hW
            go_simp
            try with_reducible rfl
          simp only [List.setIfInBounds_toArray, List.set_cons_zero, List.set_cons_succ]
          refine take_to (i := 17) (v := undef) 54 rfl rfl (by kernel_rfl) (by kernel_rfl) (by kernel_rfl) (fun _ _ _ h => h) (Or.inr ⟨by rfl, rfl⟩) hS ?_
          simp only [List.setIfInBounds_toArray, List.set_cons_zero, List.set_cons_succ]
          refine take_to (i := 18) (v := undef) 55 rfl rfl (by kernel_rfl) (by kernel_rfl) (by kernel_rfl) (fun _ _ _ h => h) (Or.inr ⟨by rfl, rfl⟩) hS ?_
          simp only [List.setIfInBounds_toArray, List.set_cons_zero, List.set_cons_succ]
          refine take_to (i := 19) (v := ?_) 56 rfl rfl (by kernel_rfl) (by kernel_rfl) (by kernel_rfl) (fun _ _ _ h => h) (Or.inl ⟨by rfl, ?_⟩) hS ?_
          rotate_left
          · intro W hW
            obtain ⟨⟨o0, o1, o2, o3, o4, o5, o6, o7, o8, o9, o10, o11, o12⟩, hcb⟩ := HC.out W hW
            go_simp
            try with_reducible rfl
          simp only [List.setIfInBounds_toArray, List.set_cons_zero, List.set_cons_succ]
          refine take_to (i := 20) (v := ?_) 57 rfl rfl (by kernel_rfl) (by kernel_rfl) (by kernel_rfl) (fun _ _ _ h => h) (Or.inl ⟨by rfl, ?_⟩) hS ?_
          rotate_left
          · intro W hW
            obtain ⟨⟨o0, o1, o2, o3, o4, o5, o6, o7, o8, o9, o10, o11, o12⟩, hcb⟩ := HC.out W hW
            go_simp
            try with_reducible rfl
          simp only [List.setIfInBounds_toArray, List.set_cons_zero, List.set_cons_succ]
          refine wpAnyH_done (by kernel_rfl) ?_ _
          refine NoPanic.normal ?_
          go_wp2_with fail
          clear HC
          have hst3 := hst2.below (ext_drew wc)
          have hX3 := hX.below (ext_drew wc)
          have hS0 : (fun W => Below w.heap.size w W ∧ OvAt W gX 1 1 0 Q (S + b) 0) wc.drew := ⟨hst3.bel, hX3⟩
          have hgl : gX < wc.drew.heap.size := hX3.lt
          have hGl : G < wr.heap.size := hst.box.lt
          have hgG : gX ≠ G := by omega
          clear hst2 hX
          refine wp_region_noPanic ?_
          refine wp_region_held_drew (S := fun W => Below w.heap.size w W ∧ OvAt W gX 1 1 0 Q (S + b) 0) (by kernel_rfl) ⟨ext_trans hst3.bel (ext_drew _), hX3.below (ext_drew _)⟩ fun hS => ?_
          refine take_to (i := 0) (v := ?_) 60 rfl rfl (by kernel_rfl) (by kernel_rfl) (by kernel_rfl) (fun _ _ _ h => h) (Or.inl ⟨by rfl, ?_⟩) hS ?_
          rotate_left
          · intro W hW
            obtain ⟨hbw, hox⟩ := hW; have hcb := hasOv hc0 hbw; obtain ⟨x0, x1, x2, x3, x4, x5, x6, x7, x8, x9, x10, x11, x12⟩ := hox.cells
            go_simp
            try with_reducible rfl
          simp only [List.setIfInBounds_toArray, List.set_cons_zero, List.set_cons_succ]
          refine take_to (i := 1) (v := ?_) 61 rfl rfl (by kernel_rfl) (by kernel_rfl) (by kernel_rfl) (fun _ _ _ h => h) (Or.inl ⟨by rfl, ?_⟩) hS ?_
          rotate_left
          · intro W hW
            obtain ⟨hbw, hox⟩ := hW; have hcb := hasOv hc0 hbw; obtain ⟨x0, x1, x2, x3, x4, x5, x6, x7, x8, x9, x10, x11, x12⟩ := hox.cells
            go_simp
            try with_reducible rfl
          simp only [List.setIfInBounds_toArray, List.set_cons_zero, List.set_cons_succ]
          refine take_to (i := 2) (v := ?_) 62 rfl rfl (by kernel_rfl) (by kernel_rfl) (by kernel_rfl) (fun _ _ _ h => h) (Or.inl ⟨by rfl, ?_⟩) hS ?_
          rotate_left
          · intro W hW
            obtain ⟨hbw, hox⟩ := hW; have hcb := hasOv hc0 hbw; obtain ⟨x0, x1, x2, x3, x4, x5, x6, x7, x8, x9, x10, x11, x12⟩ := hox.cells
            go_simp
            try with_reducible rfl
          simp only [List.setIfInBounds_toArray, List.set_cons_zero, List.set_cons_succ]
          refine take_to (i := 3) (v := ?_) 63 rfl rfl (by kernel_rfl) (by kernel_rfl) (by kernel_rfl) (fun _ _ _ h => h) (Or.inl ⟨by rfl, ?_⟩) hS ?_
          rotate_left
          · intro W hW
            obtain ⟨hbw, hox⟩ := hW; have hcb := hasOv hc0 hbw; obtain ⟨x0, x1, x2, x3, x4, x5, x6, x7, x8, x9, x10, x11, x12⟩ := hox.cells
            go_simp
            try with_reducible rfl
          simp only [List.setIfInBounds_toArray, List.set_cons_zero, List.set_cons_succ]
          refine take_to (i := 4) (v := ?_) 64 rfl rfl (by kernel_rfl) (by kernel_rfl) (by kernel_rfl) (fun _ _ _ h => h) (Or.inl ⟨by rfl, ?_⟩) hS ?_
          rotate_left
          · intro W hW
            obtain ⟨hbw, hox⟩ := hW; have hcb := hasOv hc0 hbw; obtain ⟨x0, x1, x2, x3, x4, x5, x6, x7, x8, x9, x10, x11, x12⟩ := hox.cells
            go_simp
            try with_reducible rfl
          simp only [List.setIfInBounds_toArray, List.set_cons_zero, List.set_cons_succ]
          refine take_to (i := 5) (v := ?_) 65 rfl rfl (by kernel_rfl) (by kernel_rfl) (by kernel_rfl) (fun _ _ _ h => h) (Or.inl ⟨by rfl, ?_⟩) hS ?_
          rotate_left
          · intro W hW
            obtain ⟨hbw, hox⟩ := hW; have hcb := hasOv hc0 hbw; obtain ⟨x0, x1, x2, x3, x4, x5, x6, x7, x8, x9, x10, x11, x12⟩ := hox.cells
            go_simp
            try with_reducible rfl
          simp only [List.setIfInBounds_toArray, List.set_cons_zero, List.set_cons_succ]
          refine take_to (i := 6) (v := ?_) 66 rfl rfl (by kernel_rfl) (by kernel_rfl) (by kernel_rfl) (fun _ _ _ h => h) (Or.inl ⟨by rfl, ?_⟩) hS ?_
          rotate_left
          · intro W hW
            obtain ⟨hbw, hox⟩ := hW; have hcb := hasOv hc0 hbw; obtain ⟨x0, x1, x2, x3, x4, x5, x6, x7, x8, x9, x10, x11, x12⟩ := hox.cells
            go_simp
            try with_reducible rfl
          simp only [List.setIfInBounds_toArray, List.set_cons_zero, List.set_cons_succ]
          refine take_to (i := 7) (v := ?_) 67 rfl rfl (by kernel_rfl) (by kernel_rfl) (by kernel_rfl) (fun _ _ _ h => h) (Or.inl ⟨by rfl, ?_⟩) hS ?_
          rotate_left
          · intro W hW
            obtain ⟨hbw, hox⟩ := hW; have hcb := hasOv hc0 hbw; obtain ⟨x0, x1, x2, x3, x4, x5, x6, x7, x8, x9, x10, x11, x12⟩ := hox.cells
            go_simp
            try with_reducible rfl
          simp only [List.setIfInBounds_toArray, List.set_cons_zero, List.set_cons_succ]
          refine take_to (i := 8) (v := ?_) 68 rfl rfl (by kernel_rfl) (by kernel_rfl) (by kernel_rfl) (fun _ _ _ h => h) (Or.inl ⟨by rfl, ?_⟩) hS ?_
          rotate_left
          · intro W hW
            obtain ⟨hbw, hox⟩ := hW; have hcb := hasOv hc0 hbw; obtain ⟨x0, x1, x2, x3, x4, x5, x6, x7, x8, x9, x10, x11, x12⟩ := hox.cells
            go_simp
            try with_reducible rfl
          simp only [List.setIfInBounds_toArray, List.set_cons_zero, List.set_cons_succ]
          refine take_to (i := 9) (v := ?_) 69 rfl rfl (by kernel_rfl) (by kernel_rfl) (by kernel_rfl) (fun _ _ _ h => h) (Or.inl ⟨by rfl, ?_⟩) hS ?_
          rotate_left
          · intro W hW
            obtain ⟨hbw, hox⟩ := hW; have hcb := hasOv hc0 hbw; obtain ⟨x0, x1, x2, x3, x4, x5, x6, x7, x8, x9, x10, x11, x12⟩ := hox.cells
            go_simp
            try with_reducible rfl
          simp only [List.setIfInBounds_toArray, List.set_cons_zero, List.set_cons_succ]
          refine take_to (i := 10) (v := ?_) 70 rfl rfl (by kernel_rfl) (by kernel_rfl) (by kernel_rfl) (fun _ _ _ h => h) (Or.inl ⟨by rfl, ?_⟩) hS ?_
          rotate_left
          · intro W hW
            obtain ⟨hbw, hox⟩ := hW; have hcb := hasOv hc0 hbw; obtain ⟨x0, x1, x2, x3, x4, x5, x6, x7, x8, x9, x10, x11, x12⟩ := hox.cells
            go_simp
            try with_reducible rfl
          simp only [List.setIfInBounds_toArray, List.set_cons_zero, List.set_cons_succ]
          refine take_to (i := 11) (v := ?_) 71 rfl rfl (by kernel_rfl) (by kernel_rfl) (by kernel_rfl) (fun _ _ _ h => h) (Or.inl ⟨by rfl, ?_⟩) hS ?_
          rotate_left
          · intro W hW
            obtain ⟨hbw, hox⟩ := hW; have hcb := hasOv hc0 hbw; obtain ⟨x0, x1, x2, x3, x4, x5, x6, x7, x8, x9, x10, x11, x12⟩ := hox.cells
            go_simp
            try with_reducible rfl
          simp only [List.setIfInBounds_toArray, List.set_cons_zero, List.set_cons_succ]
          refine take_to (i := 12) (v := ?_) 72 rfl rfl (by kernel_rfl) (by kernel_rfl) (by kernel_rfl) (fun _ _ _ h => h) (Or.inl ⟨by rfl, ?_⟩) hS ?_
          rotate_left
          · intro W hW
            obtain ⟨hbw, hox⟩ := hW; have hcb := hasOv hc0 hbw; obtain ⟨x0, x1, x2, x3, x4, x5, x6, x7, x8, x9, x10, x11, x12⟩ := hox.cells
            go_simp
            try with_reducible rfl
          simp only [List.setIfInBounds_toArray, List.set_cons_zero, List.set_cons_succ]
          refine take_to (i := 13) (v := ?_) 73 rfl rfl (by kernel_rfl) (by kernel_rfl) (by kernel_rfl) (fun _ _ _ h => h) (Or.inl ⟨by rfl, ?_⟩) hS ?_
          rotate_left
          · intro W hW
            obtain ⟨hbw, hox⟩ := hW; have hcb := hasOv hc0 hbw; obtain ⟨x0, x1, x2, x3, x4, x5, x6, x7, x8, x9, x10, x11, x12⟩ := hox.cells
            go_simp
            try with_reducible rfl
          simp only [List.setIfInBounds_toArray, List.set_cons_zero, List.set_cons_succ]
          refine wpAnyH_ready (rs := [14]) (by kernel_rfl) (by simp) ?_
          refine AllReadyH.cons rfl (fun K hK => ?_) AllReadyH.nil
          go_simp
          have b4' := ((below_alloc wc (.cells ([b].map (Value.int .i64)).toArray 3)).drew).drew
          have r4 := ((rowi_lit wc 3 [b] 1 rfl (by omega) (Iwd.one (by omega))).below (ext_drew _)).below (ext_drew _)
          obtain ⟨W4, hW4⟩ : ∃ W4, W4 = ((wc.alloc (.cells ([b].map (Value.int .i64)).toArray 3)).drew).drew := ⟨_, rfl⟩
          rw [← hW4] at b4' r4
          have hst4 := (hst.below hbX).below b4'
          have hX4 : OvAt W4 gX 1 1 0 Q (S + b) 0 := (b4'.block _ hgl).trans hX3
          have hw4 := b4'.size
          show K _ (((wc.alloc (.cells ([b].map (Value.int .i64)).toArray 3)).drew).drew)
          rw [← hW4]
          clear hW4
          refine hK.out _ _ ⟨hst4.bel, hX4⟩ fun hS => ?_
          clear hK K hst3 hX3
          refine wpAnyH_ready (rs := [15]) (by kernel_rfl) (by simp) ?_
          refine AllReadyH.cons rfl (fun K hK => ?_) AllReadyH.nil
          have hinl : ins.length + 1 ≤ 8796093022208 := by have := hin.out.1; omega
          refine op_append_longs_to W4 75 (.tmp 68) (.tmp 74) 42 rfl rfl 3 Try.underlying42 infoI (G + 1) ins.length ic ia ins rfl hst4.own (some ⟨wc.heap.size, 0, none⟩) 1 1 [b] rfl r4 hinl (by have := hst4.box.lt; omega) W4 (Below.refl _ _) ?_
          intro s5 c5 W5 o5 b5 g5
          simp only [List.setIfInBounds_toArray, List.set_cons_zero, List.set_cons_succ]
          have hX5 : OvAt W5 gX 1 1 0 Q (S + b) 0 := (g5.block gX hX4.lt (hst.own.ne (Or.inr hgX))).trans hX4
          have hbel5 : Below w.heap.size w W5 := hst4.bel.trans (b5.mono (by have := hst.ge; omega))
          have hst5 : BkS w W5 G Q S s5 (ins.length + 1) c5 (ins ++ [b]) := ⟨(b5.block G (by omega)).trans hst4.box, hst.ge, o5, hbel5⟩
          refine hK.out _ _ ⟨hbel5, hX5⟩ fun hS => ?_
          clear hK K
          refine wpAnyH_ready (rs := [16]) (by kernel_rfl) (by simp) ?_
          refine AllReadyH.cons rfl (fun K hK => ?_) AllReadyH.nil
          refine wp_store_obj (.tmp 5) (.tmp 60) rfl rfl G _ rfl rfl _ hst5.box (by kernel_rfl) rfl (by kernel_rfl) ?_
          have hst6 := hst5.store (V := S + b)
          refine hK.out _ _ ⟨hst6.bel, (setRow_other _ _ _ _ hgG).trans hX5⟩ fun hS => ?_
          clear hK K
          refine take_to (i := 17) (v := ?_) 6 rfl rfl (by kernel_rfl) (by kernel_rfl) (by kernel_rfl) (fun _ _ _ h => h) (Or.inl ⟨by rfl, ?_⟩) hS ?_
          rotate_left
          · intro W hW
            go_simp
            try with_reducible rfl
          simp only [List.setIfInBounds_toArray, List.set_cons_zero, List.set_cons_succ]
          refine take_to (i := 18) (v := ?_) 7 rfl rfl (by kernel_rfl) (by kernel_rfl) (by kernel_rfl) (fun _ _ _ h => h) (Or.inl ⟨by rfl, ?_⟩) hS ?_
          rotate_left
          · intro W hW
            go_simp
            try with_reducible rfl
          simp only [List.setIfInBounds_toArray, List.set_cons_zero, List.set_cons_succ]
          refine wpAnyH_done (by kernel_rfl) ?_ _
          refine NoPanic.normal ?_
          obtain ⟨o0, o1, o2, o3, o4, o5, o6, o7, o8, o9, o10, o11, o12⟩ := hst6.box.cells
          go_wp2_with fail
          go_round
          case rel =>
            obtain ⟨h1, h2, h3⟩ := hin.out
            refine ⟨j + 1, S + b, s5, c5, ins ++ [b], by omega, rfl, by simp, by go_num, ⟨by simp; omega, by simp; omega, ?_⟩, by omega, ?_⟩
            · intro x hx
              rcases List.mem_append.1 hx with hx | hx
              · exact h3 x hx
              · obtain rfl := List.mem_singleton.1 hx
                exact hbb
            · rw [List.length_append]
              exact hst6
          case measure => simp [intOf]; omega
        · have hn0 : ¬ b < 0 := by omega
          have hn1 : Q - S < b := by omega
          obtain rfl : E = 10 := hE.out.trans (addE_full hn0 hn1)
          clear hn0 hn1 hE
          go_wp2_with fail
          have hdk : decide (S + b ≤ Q) = false := by rw [decide_eq_false_iff_not]; omega
          refine wp_region_noPanic ?_
          refine wp_region_held_drew (S := fun W => Below wc.heap.size wc W) (by kernel_rfl) hB1 fun hS => ?_
          refine take_to (i := 0) (v := ?_) 37 rfl rfl (by kernel_rfl) (by kernel_rfl) (by kernel_rfl) (fun _ _ _ h => h) (Or.inl ⟨by rfl, ?_⟩) hS ?_
          rotate_left
          · intro W hW
            obtain ⟨⟨o0, o1, o2, o3, o4, o5, o6, o7, o8, o9, o10, o11, o12⟩, hcb⟩ := HC.out W hW
            go_simp
            try with_reducible rfl
          simp only [List.setIfInBounds_toArray, List.set_cons_zero, List.set_cons_succ]
          refine take_to (i := 1) (v := ?_) 38 rfl rfl (by kernel_rfl) (by kernel_rfl) (by kernel_rfl) (fun _ _ _ h => h) (Or.inl ⟨by rfl, ?_⟩) hS ?_
          rotate_left
          · intro W hW
            obtain ⟨⟨o0, o1, o2, o3, o4, o5, o6, o7, o8, o9, o10, o11, o12⟩, hcb⟩ := HC.out W hW
            go_simp
            try with_reducible rfl
          simp only [List.setIfInBounds_toArray, List.set_cons_zero, List.set_cons_succ]
          refine take_to (i := 2) (v := ?_) 39 rfl rfl (by kernel_rfl) (by kernel_rfl) (by kernel_rfl) (fun _ _ _ h => h) (Or.inl ⟨by rfl, ?_⟩) hS ?_
          rotate_left
          · intro W hW
            obtain ⟨⟨o0, o1, o2, o3, o4, o5, o6, o7, o8, o9, o10, o11, o12⟩, hcb⟩ := HC.out W hW
            go_simp
            try with_reducible rfl
          simp only [List.setIfInBounds_toArray, List.set_cons_zero, List.set_cons_succ]
          refine take_to (i := 3) (v := ?_) 40 rfl rfl (by kernel_rfl) (by kernel_rfl) (by kernel_rfl) (fun _ _ _ h => h) (Or.inl ⟨by rfl, ?_⟩) hS ?_
          rotate_left
          · intro W hW
            obtain ⟨⟨o0, o1, o2, o3, o4, o5, o6, o7, o8, o9, o10, o11, o12⟩, hcb⟩ := HC.out W hW
            go_simp
            try with_reducible rfl
          simp only [List.setIfInBounds_toArray, List.set_cons_zero, List.set_cons_succ]
          refine take_to (i := 4) (v := ?_) 41 rfl rfl (by kernel_rfl) (by kernel_rfl) (by kernel_rfl) (fun _ _ _ h => h) (Or.inl ⟨by rfl, ?_⟩) hS ?_
          rotate_left
          · intro W hW
            obtain ⟨⟨o0, o1, o2, o3, o4, o5, o6, o7, o8, o9, o10, o11, o12⟩, hcb⟩ := HC.out W hW
            go_simp
            try with_reducible rfl
          simp only [List.setIfInBounds_toArray, List.set_cons_zero, List.set_cons_succ]
          refine take_to (i := 5) (v := ?_) 42 rfl rfl (by kernel_rfl) (by kernel_rfl) (by kernel_rfl) (fun _ _ _ h => h) (Or.inl ⟨by rfl, ?_⟩) hS ?_
          rotate_left
          · intro W hW
            obtain ⟨⟨o0, o1, o2, o3, o4, o5, o6, o7, o8, o9, o10, o11, o12⟩, hcb⟩ := HC.out W hW
            go_simp
            try with_reducible rfl
          simp only [List.setIfInBounds_toArray, List.set_cons_zero, List.set_cons_succ]
          refine take_to (i := 6) (v := ?_) 43 rfl rfl (by kernel_rfl) (by kernel_rfl) (by kernel_rfl) (fun _ _ _ h => h) (Or.inl ⟨by rfl, ?_⟩) hS ?_
          rotate_left
          · intro W hW
            obtain ⟨⟨o0, o1, o2, o3, o4, o5, o6, o7, o8, o9, o10, o11, o12⟩, hcb⟩ := HC.out W hW
            go_simp
            try with_reducible rfl
          simp only [List.setIfInBounds_toArray, List.set_cons_zero, List.set_cons_succ]
          refine take_to (i := 7) (v := ?_) 44 rfl rfl (by kernel_rfl) (by kernel_rfl) (by kernel_rfl) (fun _ _ _ h => h) (Or.inl ⟨by rfl, ?_⟩) hS ?_
          rotate_left
          · intro W hW
            obtain ⟨⟨o0, o1, o2, o3, o4, o5, o6, o7, o8, o9, o10, o11, o12⟩, hcb⟩ := HC.out W hW
            go_simp
            try with_reducible rfl
          simp only [List.setIfInBounds_toArray, List.set_cons_zero, List.set_cons_succ]
          refine take_to (i := 8) (v := ?_) 45 rfl rfl (by kernel_rfl) (by kernel_rfl) (by kernel_rfl) (fun _ _ _ h => h) (Or.inl ⟨by rfl, ?_⟩) hS ?_
          rotate_left
          · intro W hW
            obtain ⟨⟨o0, o1, o2, o3, o4, o5, o6, o7, o8, o9, o10, o11, o12⟩, hcb⟩ := HC.out W hW
            go_simp
            try with_reducible rfl
          simp only [List.setIfInBounds_toArray, List.set_cons_zero, List.set_cons_succ]
          refine take_to (i := 9) (v := ?_) 46 rfl rfl (by kernel_rfl) (by kernel_rfl) (by kernel_rfl) (fun _ _ _ h => h) (Or.inl ⟨by rfl, ?_⟩) hS ?_
          rotate_left
          · intro W hW
            obtain ⟨⟨o0, o1, o2, o3, o4, o5, o6, o7, o8, o9, o10, o11, o12⟩, hcb⟩ := HC.out W hW
            go_simp
            try with_reducible rfl
          simp only [List.setIfInBounds_toArray, List.set_cons_zero, List.set_cons_succ]
          refine take_to (i := 10) (v := ?_) 47 rfl rfl (by kernel_rfl) (by kernel_rfl) (by kernel_rfl) (fun _ _ _ h => h) (Or.inl ⟨by rfl, ?_⟩) hS ?_
          rotate_left
          · intro W hW
            obtain ⟨⟨o0, o1, o2, o3, o4, o5, o6, o7, o8, o9, o10, o11, o12⟩, hcb⟩ := HC.out W hW
            go_simp
            try with_reducible rfl
          simp only [List.setIfInBounds_toArray, List.set_cons_zero, List.set_cons_succ]
          refine take_to (i := 11) (v := ?_) 48 rfl rfl (by kernel_rfl) (by kernel_rfl) (by kernel_rfl) (fun _ _ _ h => h) (Or.inl ⟨by rfl, ?_⟩) hS ?_
          rotate_left
          · intro W hW
            obtain ⟨⟨o0, o1, o2, o3, o4, o5, o6, o7, o8, o9, o10, o11, o12⟩, hcb⟩ := HC.out W hW
            go_simp
            try with_reducible rfl
          simp only [List.setIfInBounds_toArray, List.set_cons_zero, List.set_cons_succ]
          refine take_to (i := 12) (v := ?_) 49 rfl rfl (by kernel_rfl) (by kernel_rfl) (by kernel_rfl) (fun _ _ _ h => h) (Or.inl ⟨by rfl, ?_⟩) hS ?_
          rotate_left
          · intro W hW
            obtain ⟨⟨o0, o1, o2, o3, o4, o5, o6, o7, o8, o9, o10, o11, o12⟩, hcb⟩ := HC.out W hW
            go_simp
            try with_reducible rfl
          simp only [List.setIfInBounds_toArray, List.set_cons_zero, List.set_cons_succ]
          refine take_to (i := 13) (v := ?_) 50 rfl rfl (by kernel_rfl) (by kernel_rfl) (by kernel_rfl) (fun _ _ _ h => h) (Or.inl ⟨by rfl, ?_⟩) hS ?_
          rotate_left
          · intro W hW
            obtain ⟨⟨o0, o1, o2, o3, o4, o5, o6, o7, o8, o9, o10, o11, o12⟩, hcb⟩ := HC.out W hW
            go_simp
            try with_reducible rfl
          simp only [List.setIfInBounds_toArray, List.set_cons_zero, List.set_cons_succ]
          refine take_to (i := 14) (v := ?_) 51 rfl rfl (by kernel_rfl) (by kernel_rfl) (by kernel_rfl) (fun _ _ _ h => h) (Or.inl ⟨by rfl, ?_⟩) hS ?_
          rotate_left
          · intro W hW
            obtain ⟨⟨o0, o1, o2, o3, o4, o5, o6, o7, o8, o9, o10, o11, o12⟩, hcb⟩ := HC.out W hW
            go_simp
            try with_reducible rfl
          simp only [List.setIfInBounds_toArray, List.set_cons_zero, List.set_cons_succ]
          refine take_to (i := 15) (v := ?_) 52 rfl rfl (by kernel_rfl) (by kernel_rfl) (by kernel_rfl) (fun _ _ _ h => h) (Or.inl ⟨by rfl, ?_⟩) hS ?_
          rotate_left
          · intro W hW
            obtain ⟨⟨o0, o1, o2, o3, o4, o5, o6, o7, o8, o9, o10, o11, o12⟩, hcb⟩ := HC.out W hW
            go_simp
            try with_reducible rfl
          simp only [List.setIfInBounds_toArray, List.set_cons_zero, List.set_cons_succ]
          refine take_to (i := 16) (v := ?_) 53 rfl rfl (by kernel_rfl) (by kernel_rfl) (by kernel_rfl) (fun _ _ _ h => h) (Or.inl ⟨by rfl, ?_⟩) hS ?_
          rotate_left
          · intro W hW
            obtain ⟨⟨o0, o1, o2, o3, o4, o5, o6, o7, o8, o9, o10, o11, o12⟩, hcb⟩ := HC.out W hW
            go_simp
            try with_reducible rfl
          simp only [List.setIfInBounds_toArray, List.set_cons_zero, List.set_cons_succ]
          refine take_to (i := 17) (v := ?_) 54 rfl rfl (by kernel_rfl) (by kernel_rfl) (by kernel_rfl) (fun _ _ _ h => h) (Or.inl ⟨by rfl, ?_⟩) hS ?_
          rotate_left
          · intro W hW
            obtain ⟨⟨o0, o1, o2, o3, o4, o5, o6, o7, o8, o9, o10, o11, o12⟩, hcb⟩ := HC.out W hW
            go_simp
            try with_reducible rfl
          simp only [List.setIfInBounds_toArray, List.set_cons_zero, List.set_cons_succ]
          refine take_to (i := 18) (v := ?_) 55 rfl rfl (by kernel_rfl) (by kernel_rfl) (by kernel_rfl) (fun _ _ _ h => h) (Or.inl ⟨by rfl, ?_⟩) hS ?_
          rotate_left
          · intro W hW
            obtain ⟨⟨o0, o1, o2, o3, o4, o5, o6, o7, o8, o9, o10, o11, o12⟩, hcb⟩ := HC.out W hW
            go_simp
            try with_reducible rfl
          simp only [List.setIfInBounds_toArray, List.set_cons_zero, List.set_cons_succ]
          refine take_to (i := 19) (v := ?_) 56 rfl rfl (by kernel_rfl) (by kernel_rfl) (by kernel_rfl) (fun _ _ _ h => h) (Or.inl ⟨by rfl, ?_⟩) hS ?_
          rotate_left
          · intro W hW
            obtain ⟨⟨o0, o1, o2, o3, o4, o5, o6, o7, o8, o9, o10, o11, o12⟩, hcb⟩ := HC.out W hW
            go_simp
            try with_reducible rfl
          simp only [List.setIfInBounds_toArray, List.set_cons_zero, List.set_cons_succ]
          refine take_to (i := 20) (v := ?_) 57 rfl rfl (by kernel_rfl) (by kernel_rfl) (by kernel_rfl) (fun _ _ _ h => h) (Or.inl ⟨by rfl, ?_⟩) hS ?_
          rotate_left
          · intro W hW
            obtain ⟨⟨o0, o1, o2, o3, o4, o5, o6, o7, o8, o9, o10, o11, o12⟩, hcb⟩ := HC.out W hW
            go_simp
            try with_reducible rfl
          simp only [List.setIfInBounds_toArray, List.set_cons_zero, List.set_cons_succ]
          refine wpAnyH_done (by kernel_rfl) ?_ _
          refine NoPanic.normal ?_
          have hst3 := hst2.below (ext_drew wc)
          obtain ⟨o0, o1, o2, o3, o4, o5, o6, o7, o8, o9, o10, o11, o12⟩ := hst3.box.cells
          go_wp2_with fail
          go_round
          case rel => exact ⟨j + 1, S, ia, ic, ins, by omega, rfl, rfl, by go_num, ⟨by have := hin.out.1; omega, hin.out.2⟩, ⟨hqs.1, hqs.2.1⟩, hst3⟩
          case measure => simp [intOf]; omega
    · have hjl' : ¬ (j : Int) < (len : Int) := by omega
      go_wp2_with fail
      go_loopw [11] (fun s11 wr => ∃ (k : Nat) (U : Int), k ≤ ins.length ∧ s11 = .int .i64 k ∧ (0 ≤ U ∧ U ≤ Q) ∧ Hid (U = (ins.drop k).sum) ∧ BkS w wr G Q U ia ins.length ic ins) (fun s11 _ => ins.length - (intOf s11).toNat)
      case atStart => exact ⟨0, S, by omega, rfl, hS, (by show S = _; rw [List.drop_zero, hin.out.2.1]), hst⟩
      case round =>
        clear hst
        obtain ⟨k, U, hk, rfl, hU, hUs, hs2⟩ := hrel
        by_cases hkl : k < ins.length
        · have hkl' : (k : Int) < (ins.length : Int) := by omega
          have hkb : (k : Int) < 20 := by have := hin.out.1; omega
          obtain ⟨ab, ao, rfl, hcell⟩ := hs2.own.row.at (by omega)
          have hc0 := hcell k hkl
          have hgab : G + 1 ≤ ab := hs2.own.lt.1
          have habl := hs2.own.lt.2
          obtain ⟨c, hc⟩ : ∃ c, Hid (c = ins.getD k 0) := ⟨_, rfl⟩
          rw [← hc.out] at hc0
          clear hcell
          obtain ⟨V, hV⟩ : ∃ V, Hid (V = (ins.drop (k + 1)).sum) := ⟨_, rfl⟩
          have hcV : 0 ≤ c ∧ c < 256 ∧ 0 ≤ V ∧ U = c + V := by
            obtain ⟨_, _, h3⟩ := hin.out
            have h4 := sum_drop ins k hkl
            have h5 : c ∈ ins := by
              rw [hc.out, List.getD_eq_getElem?_getD, List.getElem?_eq_getElem hkl]
              exact List.getElem_mem _
            have h6 := h3 c h5
            have h7 := sum_nn (ins.drop (k + 1)) fun y hy => (h3 y (List.mem_of_mem_drop hy)).1
            rw [← hc.out, ← hV.out, ← hUs.out] at h4
            rw [← hV.out] at h7
            exact ⟨h6.1, h6.2, h7, h4⟩
          have hcI : I64 c := by unfold I64; omega
          have hqu : 0 ≤ U ∧ U ≤ Q ∧ Q ≤ 400 := by omega
          have hsub : Hid (subU U c = V) := by
            show subU U c = V
            unfold subU
            rw [if_neg (by omega), if_neg (by omega)]
            omega
          obtain ⟨h0V, hVQ⟩ : 0 ≤ V ∧ V ≤ Q := by omega
          clear hcV
          go_wp2_with fail
          have hbd := hs2.below (ext_drew wr)
          refine wp_region_noPanic ?_
          refine wp_region_held_drew (S := fun W => Below w.heap.size w W ∧ W.heap[ab]? = wr.heap[ab]?) (by kernel_rfl) ⟨hbd.bel, rfl⟩ fun hS => ?_
          refine take_to (i := 1) (v := ?_) 87 rfl rfl (by kernel_rfl) (by kernel_rfl) (by kernel_rfl) (fun _ _ _ h => h) (Or.inl ⟨by rfl, ?_⟩) hS ?_
          rotate_left
          · intro W hW
            obtain ⟨_, hsame⟩ := hW; have hcc := (cell_same (o := ao + k) hsame).trans hc0
            go_simp
            try with_reducible rfl
          simp only [List.setIfInBounds_toArray, List.set_cons_zero, List.set_cons_succ]
          refine take_to (i := 2) (v := ?_) 88 rfl rfl (by kernel_rfl) (by kernel_rfl) (by kernel_rfl) (fun _ _ _ h => h) (Or.inl ⟨by rfl, ?_⟩) hS ?_
          rotate_left
          · intro W hW
            obtain ⟨_, hsame⟩ := hW; have hcc := (cell_same (o := ao + k) hsame).trans hc0
            go_simp
            try with_reducible rfl
          simp only [List.setIfInBounds_toArray, List.set_cons_zero, List.set_cons_succ]
          refine take_to (i := 3) (v := ?_) 89 rfl rfl (by kernel_rfl) (by kernel_rfl) (by kernel_rfl) (fun _ _ _ h => h) (Or.inl ⟨by rfl, ?_⟩) hS ?_
          rotate_left
          · intro W hW
            obtain ⟨_, hsame⟩ := hW; have hcc := (cell_same (o := ao + k) hsame).trans hc0
            go_simp
            try with_reducible rfl
          simp only [List.setIfInBounds_toArray, List.set_cons_zero, List.set_cons_succ]
          refine take_to (i := 4) (v := ?_) 90 rfl rfl (by kernel_rfl) (by kernel_rfl) (by kernel_rfl) (fun _ _ _ h => h) (Or.inl ⟨by rfl, ?_⟩) hS ?_
          rotate_left
          · intro W hW
            obtain ⟨_, hsame⟩ := hW; have hcc := (cell_same (o := ao + k) hsame).trans hc0
            go_simp
            try with_reducible rfl
          simp only [List.setIfInBounds_toArray, List.set_cons_zero, List.set_cons_succ]
          refine wpAnyH_ready (rs := [0]) (by kernel_rfl) (by simp) ?_
          refine AllReadyH.cons rfl (fun K hK => ?_) AllReadyH.nil
          obtain ⟨o0, o1, o2, o3, o4, o5, o6, o7, o8, o9, o10, o11, o12⟩ := hs2.box.cells
          go_simp
          clear o0 o1 o2 o3 o4 o5 o6 o7 o8 o9 o10 o11 o12
          refine hK.out _ _ hS fun hS => ?_
          clear hK K
          refine wpAnyH_ready (rs := [5]) (by kernel_rfl) (by simp) ?_
          refine AllReadyH.cons rfl (fun K hK => ?_) AllReadyH.nil
          go_simp
          refine (sub_nil 1 1 0 Q U 0 c _ hqu hcI).mono ?_
          rintro e w3 ⟨rfl, b3⟩
          rw [hsub.out]
          have hs3 := hbd.below b3
          have hsm := b3.block ab habl
          refine hK.out _ _ ⟨hs3.bel, hsm⟩ fun hS => ?_
          clear hK K
          refine wpAnyH_ready (rs := [6]) (by kernel_rfl) (by simp) ?_
          refine AllReadyH.cons rfl (fun K hK => ?_) AllReadyH.nil
          refine wp_store_obj (.tmp 5) (.tmp 91) rfl rfl G _ rfl rfl _ hs3.box (by kernel_rfl) rfl (by kernel_rfl) ?_
          have hs4 := hs3.store (V := V)
          refine hK.out _ _ ⟨hs4.bel, (setRow_other _ _ _ _ (by omega)).trans hsm⟩ fun hS => ?_
          clear hK K
          refine wpAnyH_done (by kernel_rfl) ?_ _
          refine NoPanic.normal ?_
          go_wp2_with fail
          go_round
          case rel => exact ⟨k + 1, V, by omega, by go_num, ⟨h0V, hVQ⟩, hV, hs4⟩
          case measure => simp [intOf]; omega
        · have hkl' : ¬ (k : Int) < (ins.length : Int) := by omega
          obtain rfl : U = 0 := by
            rw [hUs.out, List.drop_eq_nil_of_le (by omega)]
            rfl
          obtain ⟨o0, o1, o2, o3, o4, o5, o6, o7, o8, o9, o10, o11, o12⟩ := hs2.box.cells
          go_wp2_with fail
          refine (sub_nil 1 1 0 Q 0 0 5 _ (by omega) (by unfold I64; omega)).mono ?_
          rintro e w3 ⟨rfl, b3⟩
          rw [show subU 0 5 = 0 from rfl]
          go_wp2_with fail
          go_ret
          exact ⟨rfl, ext_trans hs2.bel b3⟩
end Go.Proofs.Ytdonhmfjhnmnjaa
