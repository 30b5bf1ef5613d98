/- Does the arena say what the document's says: contract of the statement's own same. (Written by tools/drafts/arena/mkarsame.py.) -/
import Derived.Test.YtafnonmpanpfkaaArWays
import Derived.Test.YtafnonmpanpfkaaArRefSay
import Derived.Test.YtafnonmpanpfkaaArSpoil
import Derived.Test.YtafnonmpanpfkaaNmRef
namespace Go.Proofs.Ytafnonmpanpfkaa
open Go.RowKit
set_option maxRecDepth 100000
set_option linter.unusedVariables false

section
variable {w0 w w' : World} {pa pr N : Nat} {v : Int} {T : Tx} {ls : List (Int × List Int)}
set_option maxHeartbeats 4000000 in
set_option maxRecDepth 100000 in
theorem same19_true (h : St w0 w pa pr v T ls N) (hN : N ≤ 34359738) (hlen : ls.length ≤ 34359738) (i : Int) :
    Calls Try.prog 16 #[.pointer (some ⟨pa, 0, none⟩), .pointer (some ⟨pr, 0, none⟩), .int .u64 i] w fun e w' => e = .returned (.bool true) ∧ Below w.heap.size w w' := by
  have hgood := h.recs
  obtain ⟨Sa, Sr, hA, hL, hR, _, _, _, _⟩ := h
  have hrec : ∀ q ∈ ls, q.2.length ≤ 65535 := fun q hq => (hgood q hq).2
  obtain ⟨ia, ic, sa, sc, q1, q2, q3, q4, hbyt, hlook⟩ := hR.look
  have HQ : Hid (∀ W, Below w.heap.size w W → RowQ W ia ls.length ic (ls.map Prod.fst)) := fun W hW => by
    obtain ⟨ia', ic', sa', sc', k1, k2, _⟩ := id (hR.below hW)
    have e1 := (hlook W hW).1
    have e2 : W.cell? ⟨pr, 1, none⟩ = some (.slice ia' (ls.map Prod.fst).length ic') := by simp [World.cell?, k1]
    rw [e1, List.length_map] at e2
    simp only [Option.some.injEq, Value.slice.injEq] at e2
    obtain ⟨rfl, _, rfl⟩ := e2
    have := k2.row.q
    rw [List.length_map] at this
    exact this
  have HB : Hid (∀ W, Below w.heap.size w W → W.cell? ⟨pr, 1, none⟩ = some (.slice ia ls.length ic)) := fun W hW => (hlook W hW).1
  have HL : Hid _ := hlook
  have HG : Hid (∀ q ∈ ls, Rec v q.2 ∧ Byt q.2) := fun q hq => ⟨hgood q hq, hbyt q hq⟩
  clear hlook hgood hbyt
  go_enter Try.func16, Try.ntmps16
  go_wp2_with fail
  refine wp_region_noPanic ?_
  refine wp_region_T (S := fun W => Below w.heap.size w W) (by kernel_rfl) (ext_drew w) fun hS => ?_
  refine takeT_to (i := 0) (v := ?_) 13 rfl rfl (by kernel_rfl) (by kernel_rfl) (by kernel_rfl) (by kernel_rfl) (fun _ _ _ h => h) (Or.inl ⟨by rfl, ?_⟩) hS ?_
  rotate_left
  · intro W hW
    have s0 := HB.out W hW
    go_simp
    try with_reducible rfl
  simp only [List.setIfInBounds_toArray, List.set_cons_zero, List.set_cons_succ]
  refine takeT_to (i := 2) (v := ?_) 15 rfl rfl (by kernel_rfl) (by kernel_rfl) (by kernel_rfl) (by kernel_rfl) (fun _ _ _ h => h) (Or.inl ⟨by rfl, ?_⟩) hS ?_
  rotate_left
  · intro W hW
    have s0 := HB.out W hW
    go_simp
    try with_reducible rfl
  simp only [List.setIfInBounds_toArray, List.set_cons_zero, List.set_cons_succ]
  refine takeT_to (i := 3) (v := ?_) 16 rfl rfl (by kernel_rfl) (by kernel_rfl) (by kernel_rfl) (by kernel_rfl) (fun _ _ _ h => h) (Or.inl ⟨by rfl, ?_⟩) hS ?_
  rotate_left
  · intro W hW
    have s0 := HB.out W hW
    go_simp
    try with_reducible rfl
  simp only [List.setIfInBounds_toArray, List.set_cons_zero, List.set_cons_succ]
  refine takeT_to (i := 4) (v := ?_) 17 rfl rfl (by kernel_rfl) (by kernel_rfl) (by kernel_rfl) (by kernel_rfl) (fun _ _ _ h => h) (Or.inl ⟨by rfl, ?_⟩) hS ?_
  rotate_left
  · intro W hW
    have s0 := HB.out W hW
    go_simp
    try with_reducible rfl
  simp only [List.setIfInBounds_toArray, List.set_cons_zero, List.set_cons_succ]
  refine takeT_to (i := 5) (v := ?_) 18 rfl rfl (by kernel_rfl) (by kernel_rfl) (by kernel_rfl) (by kernel_rfl) (fun _ _ _ h => h) (Or.inl ⟨by rfl, ?_⟩) hS ?_
  rotate_left
  · intro W hW
    have s0 := HB.out W hW
    go_simp
    try with_reducible rfl
  simp only [List.setIfInBounds_toArray, List.set_cons_zero, List.set_cons_succ]
  refine wpAnyT_ready (rs := [1]) (by kernel_rfl) (by simp) ?_
  refine AllReadyT.cons rfl (fun K hK => ?_) AllReadyT.nil
  go_simp
  refine (ids_any (hA.below hS) (by omega) hL).mono ?_
  rintro e w1 ⟨ja, jc, rfl, rq, b1⟩
  have k1 := ext_trans (ext_drew w) b1
  refine hK.out _ _ (fun _ => k1) ?_
  refine wpAnyT_more (S' := fun W => Below w1.heap.size w1 W) (fun W hW => k1.trans (hW.mono k1.size)) _ _ _ _ ?_
  have hS : Below w1.heap.size w1 w1 := Below.refl _ _
  clear hK K
  refine wpAnyT_ready (rs := [6]) (by kernel_rfl) (by simp) ?_
  refine AllReadyT.cons rfl (fun K hK => ?_) AllReadyT.nil
  go_simp
  refine (sameIDs_true ja ia ls.length jc ic (ls.map Prod.fst) _ rq (HQ.out _ k1)).mono ?_
  rintro e w2 ⟨rfl, b2⟩
  have k2 := k1.trans (b2.mono k1.size)
  refine hK.out _ _ (fun _ => b2) ?_
  refine wpAnyT_more (S' := fun W => Below w2.heap.size w2 W) (fun W hW => b2.trans (hW.mono b2.size)) _ _ _ _ ?_
  have hS : Below w2.heap.size w2 w2 := Below.refl _ _
  clear hK K
  refine takeT_to (i := 7) (v := ?_) 20 rfl rfl (by kernel_rfl) (by kernel_rfl) (by kernel_rfl) (by kernel_rfl) (fun _ _ _ h => h) (Or.inl ⟨by rfl, ?_⟩) hS ?_
  rotate_left
  · intro W hW
    go_simp
    try with_reducible rfl
  simp only [List.setIfInBounds_toArray, List.set_cons_zero, List.set_cons_succ]
  refine takeT_to (i := 8) (v := ?_) 21 rfl rfl (by kernel_rfl) (by kernel_rfl) (by kernel_rfl) (by kernel_rfl) (fun _ _ _ h => h) (Or.inl ⟨by rfl, ?_⟩) hS ?_
  rotate_left
  · intro W hW
    go_simp
    try with_reducible rfl
  simp only [List.setIfInBounds_toArray, List.set_cons_zero, List.set_cons_succ]
  refine takeT_to (i := 9) (v := ?_) 22 rfl rfl (by kernel_rfl) (by kernel_rfl) (by kernel_rfl) (by kernel_rfl) (fun _ _ _ h => h) (Or.inl ⟨by rfl, ?_⟩) hS ?_
  rotate_left
  · intro W hW
    go_simp
    try with_reducible rfl
  simp only [List.setIfInBounds_toArray, List.set_cons_zero, List.set_cons_succ]
  refine takeT_to (i := 11) (v := ?_) 24 rfl rfl (by kernel_rfl) (by kernel_rfl) (by kernel_rfl) (by kernel_rfl) (fun _ _ _ h => h) (Or.inl ⟨by rfl, ?_⟩) hS ?_
  rotate_left
  · intro W hW
    go_simp
    try with_reducible rfl
  simp only [List.setIfInBounds_toArray, List.set_cons_zero, List.set_cons_succ]
  refine wpAnyT_ready (rs := [10]) (by kernel_rfl) (by simp) ?_
  refine AllReadyT.cons rfl (fun K hK => ?_) AllReadyT.nil
  go_simp
  refine (size_any (hA.below k2) (by omega) hL).mono ?_
  rintro e w3 ⟨rfl, b3⟩
  have k3 := k2.trans (b3.mono k2.size)
  refine hK.out _ _ (fun _ => b3) ?_
  refine wpAnyT_more (S' := fun W => Below w3.heap.size w3 W) (fun W hW => b3.trans (hW.mono b3.size)) _ _ _ _ ?_
  have hS : Below w3.heap.size w3 w3 := Below.refl _ _
  clear hK K
  refine wpAnyT_ready (rs := [12]) (by kernel_rfl) (by simp) ?_
  refine AllReadyT.cons rfl (fun K hK => ?_) AllReadyT.nil
  go_simp
  refine (refSize_any (hR.below k3) (by omega) hrec).mono ?_
  rintro e w4 ⟨rfl, rfl⟩
  refine hK.out _ _ (fun _ => hS) ?_
  clear hK K
  refine takeT_to (i := 13) (v := ?_) 26 rfl rfl (by kernel_rfl) (by kernel_rfl) (by kernel_rfl) (by kernel_rfl) (fun _ _ _ h => h) (Or.inl ⟨by rfl, ?_⟩) hS ?_
  rotate_left
  · intro W hW
    go_simp
    try with_reducible rfl
  simp only [List.setIfInBounds_toArray, List.set_cons_zero, List.set_cons_succ]
  refine takeT_to (i := 14) (v := ?_) 27 rfl rfl (by kernel_rfl) (by kernel_rfl) (by kernel_rfl) (by kernel_rfl) (fun _ _ _ h => h) (Or.inl ⟨by rfl, ?_⟩) hS ?_
  rotate_left
  · intro W hW
    go_simp
    try with_reducible rfl
  simp only [List.setIfInBounds_toArray, List.set_cons_zero, List.set_cons_succ]
  refine takeT_to (i := 15) (v := ?_) 28 rfl rfl (by kernel_rfl) (by kernel_rfl) (by kernel_rfl) (by kernel_rfl) (fun _ _ _ h => h) (Or.inl ⟨by rfl, ?_⟩) hS ?_
  rotate_left
  · intro W hW
    go_simp
    try with_reducible rfl
  simp only [List.setIfInBounds_toArray, List.set_cons_zero, List.set_cons_succ]
  refine takeT_to (i := 16) (v := ?_) 29 rfl rfl (by kernel_rfl) (by kernel_rfl) (by kernel_rfl) (by kernel_rfl) (fun _ _ _ h => h) (Or.inl ⟨by rfl, ?_⟩) hS ?_
  rotate_left
  · intro W hW
    go_simp
    try with_reducible rfl
  simp only [List.setIfInBounds_toArray, List.set_cons_zero, List.set_cons_succ]
  refine takeT_to (i := 19) (v := ?_) 32 rfl rfl (by kernel_rfl) (by kernel_rfl) (by kernel_rfl) (by kernel_rfl) (fun _ _ _ h => h) (Or.inl ⟨by rfl, ?_⟩) hS ?_
  rotate_left
  · intro W hW
    go_simp
    try with_reducible rfl
  simp only [List.setIfInBounds_toArray, List.set_cons_zero, List.set_cons_succ]
  refine wpAnyT_ready (rs := [17]) (by kernel_rfl) (by simp) ?_
  refine AllReadyT.cons rfl (fun K hK => ?_) AllReadyT.nil
  go_simp
  refine (arbytes_any (hA.below k3) (by omega) hL).mono ?_
  rintro e w5 ⟨a1, m1, d1, rfl, r1, b5⟩
  have k5 := k3.trans (b5.mono k3.size)
  have HR1 : Hid (∀ W, Below w5.heap.size w5 W → Row W a1 m1 d1 (encA ls)) := fun W hW => r1.below hW
  refine hK.out _ _ (fun _ => b5) ?_
  refine wpAnyT_more (S' := fun W => Below w5.heap.size w5 W) (fun W hW => b5.trans (hW.mono b5.size)) _ _ _ _ ?_
  have hS : Below w5.heap.size w5 w5 := Below.refl _ _
  clear hK K
  refine takeT_to (i := 18) (v := ?_) 31 rfl rfl (by kernel_rfl) (by kernel_rfl) (by kernel_rfl) (by kernel_rfl) (fun _ _ _ h => h) (Or.inl ⟨by rfl, ?_⟩) hS ?_
  rotate_left
  · intro W hW
    have sC := strR.out W a1 m1 d1 _ (HR1.out W hW)
    go_simp
    try with_reducible rfl
  simp only [List.setIfInBounds_toArray, List.set_cons_zero, List.set_cons_succ]
  refine wpAnyT_ready (rs := [20]) (by kernel_rfl) (by simp) ?_
  refine AllReadyT.cons rfl (fun K hK => ?_) AllReadyT.nil
  go_simp
  refine (refBytes_any (hR.below k5) (by omega) hrec).mono ?_
  rintro e w6 ⟨a2, m2, d2, rfl, r2, b6⟩
  have k6 := k5.trans (b6.mono k5.size)
  have HR2 : Hid (∀ W, Below w6.heap.size w6 W → Row W a2 m2 d2 (encA ls)) := fun W hW => r2.below hW
  refine hK.out _ _ (fun _ => b6) ?_
  refine wpAnyT_more (S' := fun W => Below w6.heap.size w6 W) (fun W hW => b6.trans (hW.mono b6.size)) _ _ _ _ ?_
  have hS : Below w6.heap.size w6 w6 := Below.refl _ _
  clear hK K
  refine takeT_to (i := 21) (v := ?_) 34 rfl rfl (by kernel_rfl) (by kernel_rfl) (by kernel_rfl) (by kernel_rfl) (fun _ _ _ h => h) (Or.inl ⟨by rfl, ?_⟩) hS ?_
  rotate_left
  · intro W hW
    have sC := strR.out W a2 m2 d2 _ (HR2.out W hW)
    go_simp
    try with_reducible rfl
  simp only [List.setIfInBounds_toArray, List.set_cons_zero, List.set_cons_succ]
  refine takeT_to (i := 22) (v := ?_) 35 rfl rfl (by kernel_rfl) (by kernel_rfl) (by kernel_rfl) (by kernel_rfl) (fun _ _ _ h => h) (Or.inl ⟨by rfl, ?_⟩) hS ?_
  rotate_left
  · intro W hW
    have sB : ((strOfNums (encA ls)).toList == (strOfNums (encA ls)).toList) = true := by simp
    go_simp
    try with_reducible rfl
  simp only [List.setIfInBounds_toArray, List.set_cons_zero, List.set_cons_succ]
  refine wpAnyT_ready (rs := [23]) (by kernel_rfl) (by simp) ?_
  refine AllReadyT.cons rfl (fun K hK => ?_) AllReadyT.nil
  go_simp
  refine hK.out _ _ (fun h => by cases h) ?_
  clear hK K
  refine wpAnyT_done (by kernel_rfl) ?_ _
  refine NoPanic.normal ?_
  obtain ⟨n, hn⟩ : ∃ n, n = ls.length := ⟨_, rfl⟩
  rw [← hn] at q1 q3 hlen
  have HN : Hid (n = ls.length) := hn
  have hA6 := hA.below k6
  have HL6 : Hid (∀ W, Below w6.heap.size w6 W → W.cell? ⟨pr, 1, none⟩ = some (.slice ia n ic) ∧ W.cell? ⟨pr, 2, none⟩ = some (.slice sa n sc) ∧ (∀ (k : Nat) q, ls[k]? = some q → ∃ b, ia = some ⟨b, 0, none⟩ ∧ W.cell? ⟨b, k, none⟩ = some (.int .u64 q.1)) ∧ (∀ (k : Nat) q, ls[k]? = some q → ∃ b, sa = some ⟨b, 0, none⟩ ∧ W.cell? ⟨b, k, none⟩ = some (.string (strOfNums q.2)))) := fun W hW => by
    rw [hn]
    exact HL.out W (k6.trans (hW.mono k6.size))
  clear hn hA rq r1 r2 b1 b2 b3 b5 b6 k1 k2 k3 k5 hS hrec hR
  go_wp2_with fail
  go_loopw [7, 8, 9, 10] (fun s7 s8 s9 s10 wr => ∃ (k : Nat) (q : Bool), k ≤ n ∧ s7 = .bool q ∧ s8 = .int .i64 k ∧ (∃ z : Value, s9 = z) ∧ (∃ z : Value, s10 = z) ∧ (q = true ↔ ∃ t xs, t < k ∧ ls[t]? = some (i, xs)) ∧ Below w6.heap.size w6 wr) (fun _ s8 _ _ _ => n - (intOf s8).toNat)
  case atStart => exact ⟨0, false, by omega, rfl, rfl, ⟨_, rfl⟩, ⟨_, rfl⟩, ⟨(fun h => by cases h), (fun ⟨t, xs, ht, _⟩ => by omega)⟩, Below.refl _ _⟩
  case round =>
    obtain ⟨k, q, hk, rfl, rfl, ⟨z9, rfl⟩, ⟨z10, rfl⟩, hq, hb⟩ := hrel
    have HQ2 : Hid (q = true ↔ ∃ t xs, t < k ∧ ls[t]? = some (i, xs)) := hq
    clear hq
    obtain ⟨c1, c2, c3, c4⟩ := HL6.out wr hb
    by_cases hlt : k < n
    · have h1 : (k : Int) < (n : Int) := by omega
      obtain ⟨q0, hq0⟩ : ∃ q, ls[k]? = some q := ⟨ls[k]'(by have := HN.out; omega), List.getElem?_eq_getElem _⟩
      obtain ⟨hrx, hxb⟩ := HG.out q0 (List.mem_of_getElem? hq0)
      obtain ⟨j, xs⟩ := q0
      obtain ⟨bi, hbi, d1⟩ := c3 k _ hq0
      replace d1 : wr.cell? ⟨bi, k, none⟩ = some (.int .u64 j) := d1
      replace hrx : Rec v xs := hrx
      obtain ⟨rr, hxr, _⟩ := hrx.cons
      have hTj : T j = some xs := (hL.mem j xs).1 (List.mem_of_getElem? hq0)
      have HK0 : Hid (ls[k]? = some (j, xs)) := hq0
      have hAr := hA6.below hb
      have HSA : Hid (ia = some ⟨bi, 0, none⟩) := hbi
      rw [hbi] at c1
      clear c3 c4 hq0 hbi
      go_wp2_with fail
      refine (get_ok hAr (by omega) hTj).mono ?_
      rintro e w2 ⟨a, m, c, rfl, hle, b2⟩
      have hb2 : Below w6.heap.size w6 w2 := hb.trans (b2.mono hb.size)
      have hxm : xs.length = m := hle.row.len
      obtain ⟨e1, e2, e3, e4⟩ := HL6.out w2 hb2
      obtain ⟨bs, hbs, d4⟩ := e4 k _ HK0.out
      replace d4 : w2.cell? ⟨bs, k, none⟩ = some (.string (strOfNums xs)) := d4
      obtain ⟨bj, hbj, d5⟩ := e3 k _ HK0.out
      obtain rfl : bi = bj := by rw [HSA.out] at hbj; simpa using hbj
      replace d5 : w2.cell? ⟨bi, k, none⟩ = some (.int .u64 j) := d5
      rw [hbs] at e2
      rw [HSA.out] at e1
      have hro := hle.row
      have HC : Hid (∀ W, Below w2.heap.size w2 W → W.cell? ⟨pr, 2, none⟩ = some (.slice (some ⟨bs, 0, none⟩) n sc) ∧ W.cell? ⟨bs, k, none⟩ = some (.string (strOfNums xs)) ∧ Row W a m c xs) := fun W hW =>
        ⟨(hW.cell (lt_of_cell e2)).trans e2, (hW.cell (lt_of_cell d4)).trans d4, hro.below hW⟩
      have hm0 : 0 < m := by rw [← hxm, hxr]; simp
      have HM : Hid (xs.length = m) := hxm
      clear e3 e4 hxm hxr hbs hbj hro c1 c2 d1 hrx
      go_wp2_with fail
      refine wp_region_noPanic ?_
      refine wp_region_T (S := fun W => Below w2.heap.size w2 W) (by kernel_rfl) (ext_drew w2) fun hS => ?_
      refine takeT_to (i := 0) (v := ?_) 58 rfl rfl (by kernel_rfl) (by kernel_rfl) (by kernel_rfl) (by kernel_rfl) (fun _ _ _ h => h) (Or.inl ⟨by rfl, ?_⟩) hS ?_
      rotate_left
      · intro W hW
        obtain ⟨s0, s1, s2⟩ := HC.out W hW; have sC := strR.out W a m c _ s2; have sB : ((strOfNums xs).toList == (strOfNums xs).toList) = true := by simp
        go_simp
        try with_reducible rfl
      simp only [List.setIfInBounds_toArray, List.set_cons_zero, List.set_cons_succ]
      refine takeT_to (i := 1) (v := ?_) 59 rfl rfl (by kernel_rfl) (by kernel_rfl) (by kernel_rfl) (by kernel_rfl) (fun _ _ _ h => h) (Or.inl ⟨by rfl, ?_⟩) hS ?_
      rotate_left
      · intro W hW
        obtain ⟨s0, s1, s2⟩ := HC.out W hW; have sC := strR.out W a m c _ s2; have sB : ((strOfNums xs).toList == (strOfNums xs).toList) = true := by simp
        go_simp
        try with_reducible rfl
      simp only [List.setIfInBounds_toArray, List.set_cons_zero, List.set_cons_succ]
      refine takeT_to (i := 2) (v := ?_) 60 rfl rfl (by kernel_rfl) (by kernel_rfl) (by kernel_rfl) (by kernel_rfl) (fun _ _ _ h => h) (Or.inl ⟨by rfl, ?_⟩) hS ?_
      rotate_left
      · intro W hW
        obtain ⟨s0, s1, s2⟩ := HC.out W hW; have sC := strR.out W a m c _ s2; have sB : ((strOfNums xs).toList == (strOfNums xs).toList) = true := by simp
        go_simp
        try with_reducible rfl
      simp only [List.setIfInBounds_toArray, List.set_cons_zero, List.set_cons_succ]
      refine takeT_to (i := 3) (v := ?_) 61 rfl rfl (by kernel_rfl) (by kernel_rfl) (by kernel_rfl) (by kernel_rfl) (fun _ _ _ h => h) (Or.inl ⟨by rfl, ?_⟩) hS ?_
      rotate_left
      · intro W hW
        obtain ⟨s0, s1, s2⟩ := HC.out W hW; have sC := strR.out W a m c _ s2; have sB : ((strOfNums xs).toList == (strOfNums xs).toList) = true := by simp
        go_simp
        try with_reducible rfl
      simp only [List.setIfInBounds_toArray, List.set_cons_zero, List.set_cons_succ]
      refine takeT_to (i := 4) (v := ?_) 62 rfl rfl (by kernel_rfl) (by kernel_rfl) (by kernel_rfl) (by kernel_rfl) (fun _ _ _ h => h) (Or.inl ⟨by rfl, ?_⟩) hS ?_
      rotate_left
      · intro W hW
        obtain ⟨s0, s1, s2⟩ := HC.out W hW; have sC := strR.out W a m c _ s2; have sB : ((strOfNums xs).toList == (strOfNums xs).toList) = true := by simp
        go_simp
        try with_reducible rfl
      simp only [List.setIfInBounds_toArray, List.set_cons_zero, List.set_cons_succ]
      refine takeT_to (i := 5) (v := ?_) 63 rfl rfl (by kernel_rfl) (by kernel_rfl) (by kernel_rfl) (by kernel_rfl) (fun _ _ _ h => h) (Or.inl ⟨by rfl, ?_⟩) hS ?_
      rotate_left
      · intro W hW
        obtain ⟨s0, s1, s2⟩ := HC.out W hW; have sC := strR.out W a m c _ s2; have sB : ((strOfNums xs).toList == (strOfNums xs).toList) = true := by simp
        go_simp
        try with_reducible rfl
      simp only [List.setIfInBounds_toArray, List.set_cons_zero, List.set_cons_succ]
      refine takeT_to (i := 6) (v := ?_) 64 rfl rfl (by kernel_rfl) (by kernel_rfl) (by kernel_rfl) (by kernel_rfl) (fun _ _ _ h => h) (Or.inl ⟨by rfl, ?_⟩) hS ?_
      rotate_left
      · intro W hW
        obtain ⟨s0, s1, s2⟩ := HC.out W hW; have sC := strR.out W a m c _ s2; have sB : ((strOfNums xs).toList == (strOfNums xs).toList) = true := by simp
        go_simp
        try with_reducible rfl
      simp only [List.setIfInBounds_toArray, List.set_cons_zero, List.set_cons_succ]
      refine takeT_to (i := 7) (v := ?_) 65 rfl rfl (by kernel_rfl) (by kernel_rfl) (by kernel_rfl) (by kernel_rfl) (fun _ _ _ h => h) (Or.inl ⟨by rfl, ?_⟩) hS ?_
      rotate_left
      · intro W hW
        obtain ⟨s0, s1, s2⟩ := HC.out W hW; have sC := strR.out W a m c _ s2; have sB : ((strOfNums xs).toList == (strOfNums xs).toList) = true := by simp
        go_simp
        try with_reducible rfl
      simp only [List.setIfInBounds_toArray, List.set_cons_zero, List.set_cons_succ]
      refine takeT_to (i := 8) (v := ?_) 66 rfl rfl (by kernel_rfl) (by kernel_rfl) (by kernel_rfl) (by kernel_rfl) (fun _ _ _ h => h) (Or.inl ⟨by rfl, ?_⟩) hS ?_
      rotate_left
      · intro W hW
        obtain ⟨s0, s1, s2⟩ := HC.out W hW; have sC := strR.out W a m c _ s2; have sB : ((strOfNums xs).toList == (strOfNums xs).toList) = true := by simp
        go_simp
        try with_reducible rfl
      simp only [List.setIfInBounds_toArray, List.set_cons_zero, List.set_cons_succ]
      refine takeT_to (i := 9) (v := ?_) 67 rfl rfl (by kernel_rfl) (by kernel_rfl) (by kernel_rfl) (by kernel_rfl) (fun _ _ _ h => h) (Or.inl ⟨by rfl, ?_⟩) hS ?_
      rotate_left
      · intro W hW
        obtain ⟨s0, s1, s2⟩ := HC.out W hW; have sC := strR.out W a m c _ s2; have sB : ((strOfNums xs).toList == (strOfNums xs).toList) = true := by simp
        go_simp
        try with_reducible rfl
      simp only [List.setIfInBounds_toArray, List.set_cons_zero, List.set_cons_succ]
      refine takeT_to (i := 10) (v := ?_) 68 rfl rfl (by kernel_rfl) (by kernel_rfl) (by kernel_rfl) (by kernel_rfl) (fun _ _ _ h => h) (Or.inl ⟨by rfl, ?_⟩) hS ?_
      rotate_left
      · intro W hW
        obtain ⟨s0, s1, s2⟩ := HC.out W hW; have sC := strR.out W a m c _ s2; have sB : ((strOfNums xs).toList == (strOfNums xs).toList) = true := by simp
        go_simp
        try with_reducible rfl
      simp only [List.setIfInBounds_toArray, List.set_cons_zero, List.set_cons_succ]
      refine takeT_to (i := 11) (v := ?_) 69 rfl rfl (by kernel_rfl) (by kernel_rfl) (by kernel_rfl) (by kernel_rfl) (fun _ _ _ h => h) (Or.inl ⟨by rfl, ?_⟩) hS ?_
      rotate_left
      · intro W hW
        obtain ⟨s0, s1, s2⟩ := HC.out W hW; have sC := strR.out W a m c _ s2; have sB : ((strOfNums xs).toList == (strOfNums xs).toList) = true := by simp
        go_simp
        try with_reducible rfl
      simp only [List.setIfInBounds_toArray, List.set_cons_zero, List.set_cons_succ]
      refine takeT_to (i := 12) (v := ?_) 70 rfl rfl (by kernel_rfl) (by kernel_rfl) (by kernel_rfl) (by kernel_rfl) (fun _ _ _ h => h) (Or.inl ⟨by rfl, ?_⟩) hS ?_
      rotate_left
      · intro W hW
        obtain ⟨s0, s1, s2⟩ := HC.out W hW; have sC := strR.out W a m c _ s2; have sB : ((strOfNums xs).toList == (strOfNums xs).toList) = true := by simp
        go_simp
        try with_reducible rfl
      simp only [List.setIfInBounds_toArray, List.set_cons_zero, List.set_cons_succ]
      refine wpAnyT_ready (rs := [13]) (by kernel_rfl) (by simp) ?_
      refine AllReadyT.cons rfl (fun K hK => ?_) AllReadyT.nil
      go_simp
      refine hK.out _ _ (fun h => by cases h) ?_
      clear hK K
      refine wpAnyT_done (by kernel_rfl) ?_ _
      refine NoPanic.normal ?_
      have hwr := hb.size
      go_wp2_with fail
      refine (spoil_le (w := w2.drew) (B := wr.heap.size) (xs := xs) (show LeO w2.drew wr.heap.size ⟨a, m, c, xs⟩ from hle.below (ext_drew w2)) b2.size hm0).mono ?_
      rintro e w3 ⟨rfl, b3⟩
      have b23 : Below wr.heap.size wr w3 := b2.trans (⟨b3.os, b3.tape, b3.output, b3.size, b3.block⟩)
      have hb3 : Below w6.heap.size w6 w3 := hb.trans (b23.mono hwr)
      obtain ⟨f1, _, f3, _⟩ := HL6.out w3 hb3
      obtain ⟨bj, hbj, d6⟩ := f3 k _ HK0.out
      obtain rfl : bi = bj := by rw [HSA.out] at hbj; simpa using hbj
      replace d6 : w3.cell? ⟨bi, k, none⟩ = some (.int .u64 j) := d6
      rw [HSA.out] at f1
      clear f3 hbj e1 e2 d4 d5 hle b2
      have hnext : Hid ((∃ t xs, t < k + 1 ∧ ls[t]? = some (i, xs)) ↔ (q = true ∨ j = i)) := by
        constructor
        · rintro ⟨t, ys, ht, hy⟩
          by_cases e : t = k
          · subst e
            rw [HK0.out] at hy
            exact .inr (Prod.mk.inj (Option.some.inj hy)).1
          · exact .inl (HQ2.out.2 ⟨t, ys, by omega, hy⟩)
        · rintro (hq | rfl)
          · obtain ⟨t, ys, ht, hy⟩ := HQ2.out.1 hq
            exact ⟨t, ys, by omega, hy⟩
          · exact ⟨k, xs, by omega, HK0.out⟩
      cases q with
      | true =>
        go_wp2_with fail
        go_roundw
        case rel => exact ⟨k + 1, true, by omega, rfl, by go_num, ⟨_, rfl⟩, ⟨_, rfl⟩, ⟨fun _ => hnext.out.2 (.inl (by first | rfl | trivial)), fun _ => rfl⟩, hb3⟩
        case measure => simp [intOf]; omega
      | false =>
        by_cases hji : j = i
        · have hb' : (j == i) = true := by simp [hji]
          have HJI : Hid (j = i) := hji
          clear hji
          go_wp2_with fail
          go_roundw
          case rel => exact ⟨k + 1, true, by omega, rfl, by go_num, ⟨_, rfl⟩, ⟨_, rfl⟩, ⟨fun _ => hnext.out.2 (.inr HJI.out), fun _ => rfl⟩, hb3⟩
          case measure => simp [intOf]; omega
        · have hb' : (j == i) = false := by simpa using hji
          go_wp2_with fail
          go_roundw
          case rel => exact ⟨k + 1, false, by omega, rfl, by go_num, ⟨_, rfl⟩, ⟨_, rfl⟩, ⟨(fun h => by cases h), (fun h => (hnext.out.1 h).elim id (fun h => absurd h hji))⟩, hb3⟩
          case measure => simp [intOf]; omega
    · obtain rfl : k = n := by omega
      have h1 : decide ((k : Int) < (k : Int)) = false := by simp
      have hAr := hA6.below hb
      have hbw : Below w.heap.size w wr := k6.trans (hb.mono k6.size)
      have hiff : Hid (q = true ↔ T i ≠ none) := by
        refine HQ2.out.trans ⟨?_, fun hT => ?_⟩
        · rintro ⟨t, ys, _, hy⟩ hT
          have := (hL.mem i ys).1 (List.mem_of_getElem? hy)
          rw [hT] at this
          cases this
        · obtain ⟨ys, hys⟩ := Option.ne_none_iff_exists'.1 hT
          obtain ⟨t, ht⟩ := List.mem_iff_getElem?.1 ((hL.mem i ys).2 hys)
          have := (List.getElem?_eq_some_iff.1 ht).1
          exact ⟨t, ys, by have := HN.out; omega, ht⟩
      clear c3 c4
      cases hT : T i with
      | none =>
        obtain rfl : q = false := by
          cases q with
          | false => rfl
          | true => exact absurd hT (hiff.out.1 rfl)
        go_wp2_with fail
        refine (get_none hAr (by omega) hT).mono ?_
        rintro e w2 ⟨rfl, b2⟩
        go_wp2_with fail
        go_ret
        exact ⟨rfl, hbw.trans (b2.mono hbw.size)⟩
      | some ys =>
        obtain rfl : q = true := hiff.out.2 (by rw [hT]; simp)
        go_wp2_with fail
        refine (get_ok hAr (by omega) hT).mono ?_
        rintro e w2 ⟨a, m, c, rfl, hle, b2⟩
        go_wp2_with fail
        go_ret
        exact ⟨rfl, hbw.trans (b2.mono hbw.size)⟩
end
end Go.Proofs.Ytafnonmpanpfkaa
