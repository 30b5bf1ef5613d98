/- The document's Size and Bytes of its arena: contracts. (Written by tools/drafts/arena/mkarsay.py.) -/
import Derived.Test.YtafnonmpanpfkaaArRef
import Derived.Test.YtafnonmpanpfkaaArConv
import Derived.Test.YtafnonmpanpfkaaRegionT
import Derived.Test.YtafnonmpanpfkaaRef
namespace Go.Proofs.Ytafnonmpanpfkaa
open Go.RowKit
set_option maxRecDepth 100000
set_option linter.unusedVariables false

section
variable {w w' : World} {S : Nat → Prop} {p : Nat} {v : Int} {ns : List Int} {ss : List (List Int)}
theorem Row.cast {a : Option Addr} {n m c : Nat} {xs ys : List Int} (h : Row w a n c xs) (e : xs = ys) (e2 : n = m) : Row w a m c ys := by subst e e2; exact h
/-- Its cells and lists, in every world that keeps them. -/
theorem RM.look {ls : List (Int × List Int)} (h : RM w S p v (ls.map Prod.fst) (ls.map Prod.snd)) : ∃ ia ic sa sc, ls.length ≤ ic ∧ ic ≤ 9223372036854775807 ∧ ls.length ≤ sc ∧ sc ≤ 9223372036854775807 ∧ (∀ q ∈ ls, Byt q.2) ∧ ∀ W, Below w.heap.size w W → W.cell? ⟨p, 1, none⟩ = some (.slice ia ls.length ic) ∧ W.cell? ⟨p, 2, none⟩ = some (.slice sa ls.length sc) ∧
    (∀ (k : Nat) q, ls[k]? = some q → ∃ b, ia = some ⟨b, 0, none⟩ ∧ W.cell? ⟨b, k, none⟩ = some (.int .u64 q.1)) ∧ (∀ (k : Nat) q, ls[k]? = some q → ∃ b, sa = some ⟨b, 0, none⟩ ∧ W.cell? ⟨b, k, none⟩ = some (.string (strOfNums q.2))) := by
  obtain ⟨ia, ic, sa, sc, h1, h2, h3, h4, h5, h6, h7⟩ := h
  rw [List.length_map] at h1 h2 h3
  rw [List.length_map] at h1
  refine ⟨ia, ic, sa, sc, h2.row.cap_le.1, h2.row.cap_le.2, h3.row.cap_le.1, h3.row.cap_le.2, fun q hq => h3.2.1 q.2 (List.mem_map_of_mem hq), fun W hW => ?_⟩
  have hbx := (hW.block p (h7 p h4)).trans h1
  refine ⟨by simp [World.cell?, hbx], by simp [World.cell?, hbx], fun k q hq => ?_, fun k q hq => ?_⟩
  · have hro := (h2.row).below hW
    rcases h2.cases with ⟨_, h0, _⟩ | ⟨b, cur, rfl, _⟩
    · have := (List.getElem?_eq_some_iff.1 hq).1; omega
    · have := hro.num (i := k) (x := q.1) (by rw [List.getElem?_map, hq]; rfl)
      exact ⟨b, rfl, by simpa using this⟩
  · have hro := (h3.row).below hW
    rcases h3.cases with ⟨_, h0, _⟩ | ⟨b, cur, rfl, _⟩
    · have := (List.getElem?_eq_some_iff.1 hq).1; omega
    · have := hro.str (i := k) (xs := q.2) (by rw [List.getElem?_map, hq]; rfl)
      exact ⟨b, rfl, by simpa using this⟩
theorem take_snocA {ls : List (Int × List Int)} {k : Nat} {q : Int × List Int} (h : ls[k]? = some q) : ls.take (k + 1) = ls.take k ++ [(q.1, q.2)] := by
  rw [List.take_add_one, h]; rfl
theorem len_str (xs : List Int) : ((strOfNums xs).size : Int) = (xs.length : Int) := by rw [strOfNums_size]
set_option maxHeartbeats 2000000 in
theorem refSize_any {ls : List (Int × List Int)} (h : RM w S p v (ls.map Prod.fst) (ls.map Prod.snd)) (hbd : ls.length ≤ 34359738) (hrec : ∀ q ∈ ls, q.2.length ≤ 65535) :
    Calls Try.prog 31 #[.pointer (some ⟨p, 0, none⟩)] w fun e w' => e = .returned (.int .i64 (tot ls)) ∧ w' = w := by
  obtain ⟨ia, ic, sa, sc, q1, q2, q3, q4, hb, hL⟩ := h.look
  obtain ⟨c1, c2, c3, c4⟩ := hL w (Below.refl _ _)
  obtain ⟨n, hn⟩ : ∃ n, n = ls.length := ⟨_, rfl⟩
  rw [← hn] at q1 q3 c1 c2 hbd
  have HN : Hid (n = ls.length) := hn
  have H4 : Hid (∀ (k : Nat) q, ls[k]? = some q → ∃ b, sa = some ⟨b, 0, none⟩ ∧ w.cell? ⟨b, k, none⟩ = some (.string (strOfNums q.2))) := c4
  have HR : Hid (∀ q ∈ ls, q.2.length ≤ 65535) := hrec
  clear hL hb h c3 c4 hn hrec
  go_enter Try.func31, Try.ntmps31
  go_wp2_with fail
  go_loopw [3, 4] (fun s3 s4 wr => ∃ (k t : Nat), k ≤ n ∧ s4 = .int .i64 k ∧ s3 = .int .i64 t ∧ t = tot (ls.take k) ∧ wr = w) (fun _ s4 _ => n - (intOf s4).toNat)
  case atStart => exact ⟨0, 0, by omega, rfl, rfl, by simp [tot], rfl⟩
  case round =>
    obtain ⟨k, t, hk, rfl, rfl, ht, rfl⟩ := hrel
    have hle : t ≤ 65535 * k := by
      have h1 := tot_le (l := ls.take k) (fun q hq => HR.out q (List.mem_of_mem_take hq))
      rw [← ht, List.length_take] at h1
      have h2 : 65535 * min k ls.length ≤ 65535 * k := Nat.mul_le_mul_left _ (Nat.min_le_left _ _)
      omega
    have HT : Hid (t = tot (ls.take k)) := ht
    clear ht
    by_cases hlt : k < n
    · have h1 : (k : Int) < (n : Int) := by omega
      obtain ⟨q, hq⟩ : ∃ q, ls[k]? = some q := ⟨ls[k]'(by have := HN.out; omega), List.getElem?_eq_getElem _⟩
      obtain ⟨b, rfl, c5⟩ := H4.out k q hq
      have hx := HR.out q (List.mem_of_getElem? hq)
      obtain ⟨i, xs⟩ := q
      have hsz := len_str xs
      obtain ⟨m, hm⟩ : ∃ m, m = xs.length := ⟨_, rfl⟩
      replace hx : xs.length ≤ 65535 := hx
      rw [← hm] at hsz hx
      have HM : Hid (m = xs.length) := hm
      have htk : Hid (ls.take (k + 1) = ls.take k ++ [(i, xs)]) := take_snocA hq
      clear hm hq
      go_wp2_with fail
      go_roundw
      case rel =>
        refine ⟨k + 1, t + m, by omega, by go_num, by go_num, ?_, by first | rfl | trivial⟩
        rw [htk.out, tot_snoc, ← HT.out, HM.out]
      case measure => simp [intOf]; omega
    · obtain rfl : k = n := by omega
      have h1 : decide ((k : Int) < (k : Int)) = false := by simp
      go_wp2_with fail
      go_ret
      have := HT.out
      rw [List.take_of_length_le (by have := HN.out; omega)] at this
      rw [this]
      exact ⟨rfl, rfl⟩
set_option maxHeartbeats 4000000 in
set_option maxRecDepth 100000 in
theorem refBytes_any {ls : List (Int × List Int)} (h : RM w S p v (ls.map Prod.fst) (ls.map Prod.snd)) (hbd : ls.length ≤ 34359738) (hrec : ∀ q ∈ ls, q.2.length ≤ 65535) :
    Calls Try.prog 32 #[.pointer (some ⟨p, 0, none⟩)] w fun e w' => ∃ a m c, e = .returned (.slice a m c) ∧ Row w' a m c (encA ls) ∧ Below w.heap.size w w' := by
  obtain ⟨ia, ic, sa, sc, q1, q2, q3, q4, hb, hL⟩ := h.look
  obtain ⟨n, hn⟩ : ∃ n, n = ls.length := ⟨_, rfl⟩
  rw [← hn] at q1 q3 hbd hL
  have HN : Hid (n = ls.length) := hn
  have HL : Hid _ := hL
  have HR : Hid (∀ q ∈ ls, q.2.length ≤ 65535 ∧ Byt q.2) := fun q hq => ⟨hrec q hq, hb q hq⟩
  clear hL hb h hn hrec
  go_enter Try.func32, Try.ntmps32
  go_wp2_with fail
  go_loopw [3, 4] (fun s3 s4 wr => ∃ (k : Nat) (a : Option Addr) (m c : Nat), k ≤ n ∧ s4 = .int .i64 k ∧ s3 = .slice a m c ∧ Row wr a m c (encA (ls.take k)) ∧ Below w.heap.size w wr) (fun _ s4 _ => n - (intOf s4).toNat)
  case atStart => exact ⟨0, none, 0, 0, by omega, rfl, rfl, by simpa [encA] using Row.nil w, Below.refl _ _⟩
  case round =>
    obtain ⟨k, a, m, c, hk, rfl, rfl, hra, hbel⟩ := hrel
    obtain ⟨c1, c2, c3, c4⟩ := HL.out wr hbel
    by_cases hlt : k < n
    · have h1 : (k : Int) < (n : Int) := by omega
      obtain ⟨q, hq⟩ : ∃ q, ls[k]? = some q := ⟨ls[k]'(by have := HN.out; omega), List.getElem?_eq_getElem _⟩
      obtain ⟨hx, hxb⟩ := HR.out q (List.mem_of_getElem? hq)
      have hml : m ≤ 65545 * 34359738 := by
        have h1 := encA_len (l := ls.take k) (fun q hq => (HR.out q (List.mem_of_mem_take hq)).1)
        rw [hra.len, List.length_take] at h1
        have h2 : 65545 * min k ls.length ≤ 65545 * 34359738 := Nat.mul_le_mul_left _ (by have := Nat.min_le_left k ls.length; omega)
        omega
      obtain ⟨i, xs⟩ := q
      obtain ⟨bi, rfl, d1⟩ := c3 k _ hq
      obtain ⟨bs, rfl, d2⟩ := c4 k _ hq
      replace d1 : wr.cell? ⟨bi, k, none⟩ = some (.int .u64 i) := d1
      replace d2 : wr.cell? ⟨bs, k, none⟩ = some (.string (strOfNums xs)) := d2
      replace hx : xs.length ≤ 65535 := hx
      replace hxb : Byt xs := hxb
      have hxm : xs.length ≤ maxLen := by unfold maxLen; omega
      have htk : Hid (ls.take (k + 1) = ls.take k ++ [(i, xs)]) := take_snocA hq
      have HB : Hid (∀ W, Below wr.heap.size wr W → W.cell? ⟨p, 1, none⟩ = some (.slice (some ⟨bi, 0, none⟩) n ic) ∧ W.cell? ⟨p, 2, none⟩ = some (.slice (some ⟨bs, 0, none⟩) n sc) ∧ W.cell? ⟨bi, k, none⟩ = some (.int .u64 i) ∧ W.cell? ⟨bs, k, none⟩ = some (.string (strOfNums xs))) := fun W hW =>
        ⟨(hW.cell (lt_of_cell c1)).trans c1, (hW.cell (lt_of_cell c2)).trans c2, (hW.cell (lt_of_cell d1)).trans d1, (hW.cell (lt_of_cell d2)).trans d2⟩
      clear c3 c4 hq
      go_wp2_with fail
      refine wp_region_noPanic ?_
      refine wp_region_T (S := fun W => Below wr.heap.size wr W) (by kernel_rfl) (ext_drew wr) fun hS => ?_
      refine takeT_to (i := 0) (v := ?_) 14 rfl rfl (by kernel_rfl) (by kernel_rfl) (by kernel_rfl) (by kernel_rfl) (fun _ _ _ h => h) (Or.inl ⟨by rfl, ?_⟩) hS ?_
      rotate_left
      · intro W hW
        obtain ⟨s0, s1, s2, s3⟩ := HB.out W hW
        go_simp
        try with_reducible rfl
      simp only [List.setIfInBounds_toArray, List.set_cons_zero, List.set_cons_succ]
      refine takeT_to (i := 1) (v := ?_) 15 rfl rfl (by kernel_rfl) (by kernel_rfl) (by kernel_rfl) (by kernel_rfl) (fun _ _ _ h => h) (Or.inl ⟨by rfl, ?_⟩) hS ?_
      rotate_left
      · intro W hW
        obtain ⟨s0, s1, s2, s3⟩ := HB.out W hW
        go_simp
        try with_reducible rfl
      simp only [List.setIfInBounds_toArray, List.set_cons_zero, List.set_cons_succ]
      refine takeT_to (i := 2) (v := ?_) 16 rfl rfl (by kernel_rfl) (by kernel_rfl) (by kernel_rfl) (by kernel_rfl) (fun _ _ _ h => h) (Or.inl ⟨by rfl, ?_⟩) hS ?_
      rotate_left
      · intro W hW
        obtain ⟨s0, s1, s2, s3⟩ := HB.out W hW
        go_simp
        try with_reducible rfl
      simp only [List.setIfInBounds_toArray, List.set_cons_zero, List.set_cons_succ]
      refine takeT_to (i := 3) (v := ?_) 17 rfl rfl (by kernel_rfl) (by kernel_rfl) (by kernel_rfl) (by kernel_rfl) (fun _ _ _ h => h) (Or.inl ⟨by rfl, ?_⟩) hS ?_
      rotate_left
      · intro W hW
        obtain ⟨s0, s1, s2, s3⟩ := HB.out W hW
        go_simp
        try with_reducible rfl
      simp only [List.setIfInBounds_toArray, List.set_cons_zero, List.set_cons_succ]
      refine takeT_to (i := 4) (v := ?_) 18 rfl rfl (by kernel_rfl) (by kernel_rfl) (by kernel_rfl) (by kernel_rfl) (fun _ _ _ h => h) (Or.inl ⟨by rfl, ?_⟩) hS ?_
      rotate_left
      · intro W hW
        obtain ⟨s0, s1, s2, s3⟩ := HB.out W hW
        go_simp
        try with_reducible rfl
      simp only [List.setIfInBounds_toArray, List.set_cons_zero, List.set_cons_succ]
      refine takeT_to (i := 5) (v := ?_) 19 rfl rfl (by kernel_rfl) (by kernel_rfl) (by kernel_rfl) (by kernel_rfl) (fun _ _ _ h => h) (Or.inl ⟨by rfl, ?_⟩) hS ?_
      rotate_left
      · intro W hW
        obtain ⟨s0, s1, s2, s3⟩ := HB.out W hW
        go_simp
        try with_reducible rfl
      simp only [List.setIfInBounds_toArray, List.set_cons_zero, List.set_cons_succ]
      refine takeT_to (i := 6) (v := ?_) 20 rfl rfl (by kernel_rfl) (by kernel_rfl) (by kernel_rfl) (by kernel_rfl) (fun _ _ _ h => h) (Or.inl ⟨by rfl, ?_⟩) hS ?_
      rotate_left
      · intro W hW
        obtain ⟨s0, s1, s2, s3⟩ := HB.out W hW
        go_simp
        try with_reducible rfl
      simp only [List.setIfInBounds_toArray, List.set_cons_zero, List.set_cons_succ]
      refine takeT_to (i := 7) (v := ?_) 21 rfl rfl (by kernel_rfl) (by kernel_rfl) (by kernel_rfl) (by kernel_rfl) (fun _ _ _ h => h) (Or.inl ⟨by rfl, ?_⟩) hS ?_
      rotate_left
      · intro W hW
        obtain ⟨s0, s1, s2, s3⟩ := HB.out W hW
        go_simp
        try with_reducible rfl
      simp only [List.setIfInBounds_toArray, List.set_cons_zero, List.set_cons_succ]
      refine takeT_to (i := 9) (v := ?_) 23 rfl rfl (by kernel_rfl) (by kernel_rfl) (by kernel_rfl) (by kernel_rfl) (fun _ _ _ h => h) (Or.inl ⟨by rfl, ?_⟩) hS ?_
      rotate_left
      · intro W hW
        obtain ⟨s0, s1, s2, s3⟩ := HB.out W hW
        go_simp
        try with_reducible rfl
      simp only [List.setIfInBounds_toArray, List.set_cons_zero, List.set_cons_succ]
      refine takeT_to (i := 10) (v := ?_) 24 rfl rfl (by kernel_rfl) (by kernel_rfl) (by kernel_rfl) (by kernel_rfl) (fun _ _ _ h => h) (Or.inl ⟨by rfl, ?_⟩) hS ?_
      rotate_left
      · intro W hW
        obtain ⟨s0, s1, s2, s3⟩ := HB.out W hW
        go_simp
        try with_reducible rfl
      simp only [List.setIfInBounds_toArray, List.set_cons_zero, List.set_cons_succ]
      refine takeT_to (i := 11) (v := ?_) 25 rfl rfl (by kernel_rfl) (by kernel_rfl) (by kernel_rfl) (by kernel_rfl) (fun _ _ _ h => h) (Or.inl ⟨by rfl, ?_⟩) hS ?_
      rotate_left
      · intro W hW
        obtain ⟨s0, s1, s2, s3⟩ := HB.out W hW
        go_simp
        try with_reducible rfl
      simp only [List.setIfInBounds_toArray, List.set_cons_zero, List.set_cons_succ]
      refine takeT_to (i := 12) (v := ?_) 26 rfl rfl (by kernel_rfl) (by kernel_rfl) (by kernel_rfl) (by kernel_rfl) (fun _ _ _ h => h) (Or.inl ⟨by rfl, ?_⟩) hS ?_
      rotate_left
      · intro W hW
        obtain ⟨s0, s1, s2, s3⟩ := HB.out W hW
        go_simp
        try with_reducible rfl
      simp only [List.setIfInBounds_toArray, List.set_cons_zero, List.set_cons_succ]
      refine takeT_to (i := 13) (v := ?_) 27 rfl rfl (by kernel_rfl) (by kernel_rfl) (by kernel_rfl) (by kernel_rfl) (fun _ _ _ h => h) (Or.inl ⟨by rfl, ?_⟩) hS ?_
      rotate_left
      · intro W hW
        obtain ⟨s0, s1, s2, s3⟩ := HB.out W hW
        go_simp
        try with_reducible rfl
      simp only [List.setIfInBounds_toArray, List.set_cons_zero, List.set_cons_succ]
      refine takeT_to (i := 14) (v := ?_) 28 rfl rfl (by kernel_rfl) (by kernel_rfl) (by kernel_rfl) (by kernel_rfl) (fun _ _ _ h => h) (Or.inl ⟨by rfl, ?_⟩) hS ?_
      rotate_left
      · intro W hW
        obtain ⟨s0, s1, s2, s3⟩ := HB.out W hW
        go_simp
        try with_reducible rfl
      simp only [List.setIfInBounds_toArray, List.set_cons_zero, List.set_cons_succ]
      refine takeT_to (i := 15) (v := ?_) 29 rfl rfl (by kernel_rfl) (by kernel_rfl) (by kernel_rfl) (by kernel_rfl) (fun _ _ _ h => h) (Or.inl ⟨by rfl, ?_⟩) hS ?_
      rotate_left
      · intro W hW
        obtain ⟨s0, s1, s2, s3⟩ := HB.out W hW
        go_simp
        try with_reducible rfl
      simp only [List.setIfInBounds_toArray, List.set_cons_zero, List.set_cons_succ]
      refine wpAnyT_ready (rs := [8, 16]) (by kernel_rfl) (by simp) ?_
      refine AllReadyT.cons rfl (fun K hK => ?_) ?_
      · go_simp
        refine (refPut_any a m c i 8 (encA (ls.take k)) _ (hra.below hS) (by omega)).mono ?_
        rintro e w2 ⟨g2, d2, rfl, p2, b2⟩
        have hb8 : Below wr.heap.size wr w2 := hS.trans (b2.mono hS.size)
        refine hK.out _ _ (fun _ => hb8) ?_
        clear hK K
        refine wpAnyT_ready (rs := [16]) (by kernel_rfl) (by simp) ?_
        refine AllReadyT.cons rfl (fun K hK => ?_) AllReadyT.nil
        refine Eq.mpr (if_pos (by kernel_rfl)) ?_
        obtain ⟨cc, wc, hcv, rc, bc⟩ := conv_row hxb hxm (w2)
        refine wp_convert 9 32 (.tmp 29) rfl (.string (strOfNums xs)) _ (by simp [Act.eval]) hcv ?_
        have hb16 : Below wr.heap.size wr wc := hb8.trans (bc.mono hb8.size)
        have p3 := (p2.row).below bc
        refine hK.out _ _ (fun _ => hb16) ?_
        clear hK K
        refine wpAnyT_ready (rs := [17]) (by kernel_rfl) (by simp) ?_
        refine AllReadyT.cons rfl (fun K hK => ?_) AllReadyT.nil
        go_simp
        refine (refPutBytes_any _ _ _ _ _ _ _ xs _ p3 rc (by unfold wid; simp; omega) (by omega)).mono ?_
        rintro e w4 ⟨g4, d4, rfl, p4, b4⟩
        have hb17 : Below wr.heap.size wr w4 := hb16.trans (b4.mono hb16.size)
        refine hK.out _ _ (fun _ => hb17) ?_
        clear hK K
        refine wpAnyT_ready (rs := [18]) (by kernel_rfl) (by simp) ?_
        refine AllReadyT.cons rfl (fun K hK => ?_) AllReadyT.nil
        go_simp
        refine hK.out _ _ (fun h => by cases h) ?_
        clear hK K
        refine wpAnyT_done (by kernel_rfl) ?_ _
        refine NoPanic.normal ?_
        go_wp2
        go_roundw
        case rel =>
          refine ⟨k + 1, _, _, _, by omega, rfl, by go_num, p4.row.cast ?_ ?_, ext_trans hbel hb17⟩
          · rw [htk.out, encA_snoc]
            simp [List.append_assoc, wid]
          · rfl
        case measure => simp [intOf]; omega
      refine AllReadyT.cons rfl (fun K hK => ?_) ?_
      · skip
        refine Eq.mpr (if_pos (by kernel_rfl)) ?_
        obtain ⟨cc, wc, hcv, rc, bc⟩ := conv_row hxb hxm (wr.drew)
        refine wp_convert 9 32 (.tmp 29) rfl (.string (strOfNums xs)) _ (by simp [Act.eval]) hcv ?_
        have hb16 : Below wr.heap.size wr wc := hS.trans (bc.mono hS.size)
        refine hK.out _ _ (fun _ => hb16) ?_
        clear hK K
        refine wpAnyT_ready (rs := [8]) (by kernel_rfl) (by simp) ?_
        refine AllReadyT.cons rfl (fun K hK => ?_) AllReadyT.nil
        go_simp
        refine (refPut_any a m c i 8 (encA (ls.take k)) _ (hra.below hb16) (by omega)).mono ?_
        rintro e w2 ⟨g2, d2, rfl, p2, b2⟩
        have hb8 : Below wr.heap.size wr w2 := hb16.trans (b2.mono hb16.size)
        have rc2 := rc.below b2
        refine hK.out _ _ (fun _ => hb8) ?_
        clear hK K
        refine wpAnyT_ready (rs := [17]) (by kernel_rfl) (by simp) ?_
        refine AllReadyT.cons rfl (fun K hK => ?_) AllReadyT.nil
        go_simp
        refine (refPutBytes_any _ _ _ _ _ _ _ xs _ p2.row rc2 (by unfold wid; simp; omega) (by omega)).mono ?_
        rintro e w4 ⟨g4, d4, rfl, p4, b4⟩
        have hb17 : Below wr.heap.size wr w4 := hb8.trans (b4.mono hb8.size)
        refine hK.out _ _ (fun _ => hb17) ?_
        clear hK K
        refine wpAnyT_ready (rs := [18]) (by kernel_rfl) (by simp) ?_
        refine AllReadyT.cons rfl (fun K hK => ?_) AllReadyT.nil
        go_simp
        refine hK.out _ _ (fun h => by cases h) ?_
        clear hK K
        refine wpAnyT_done (by kernel_rfl) ?_ _
        refine NoPanic.normal ?_
        go_wp2
        go_roundw
        case rel =>
          refine ⟨k + 1, _, _, _, by omega, rfl, by go_num, p4.row.cast ?_ ?_, ext_trans hbel hb17⟩
          · rw [htk.out, encA_snoc]
            simp [List.append_assoc, wid]
          · rfl
        case measure => simp [intOf]; omega
      exact AllReadyT.nil
    · obtain rfl : k = n := by omega
      have h1 : decide ((k : Int) < (k : Int)) = false := by simp
      go_wp2_with fail
      go_ret
      rw [List.take_of_length_le (by have := HN.out; omega)] at hra
      exact ⟨a, m, c, rfl, hra, hbel⟩
end
end Go.Proofs.Ytafnonmpanpfkaa
