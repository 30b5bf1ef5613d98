/- What the document's own cats and MakeLabel answer: contracts. -/
import Derived.Test.YtdoemkncgfgkhaaLabFlows
import Derived.Test.YtdoemkncgfgkhaaLabOut
namespace Go.Proofs.Ytdoemkncgfgkhaa
open Go.RowKit
set_option maxRecDepth 100000

set_option maxHeartbeats 2000000 in
theorem cats_any (d d' : Int) (a1 a2 : Option Addr) (n1 c1 n2 c2 : Nat) (xs ys : List (Int × Int)) (w : World) (hr : RowG PE w a1 n1 c1 xs) (hs : RowG PE w a2 n2 c2 ys) (hbd : n1 + n2 ≤ 35184372088832) :
    Calls Try.prog 72 #[.agg #[.int .u8 d, .slice a1 n1 c1], .agg #[.int .u8 d', .slice a2 n2 c2]] w fun e w' => ∃ so k co zs, e = .returned (.slice so k co) ∧ OwnW 38 w' w.heap.size so k co zs ∧ Below w.heap.size w w' ∧ Srt zs ∧ (∀ x, x ∈ zs ↔ x ∈ (xs ++ ys).map Prod.fst) ∧ k ≤ n1 + n2 := by
  have hl1 : Hid (xs.length = n1) := hr.len
  have hl2 : Hid (ys.length = n2) := hs.len
  have hcap1 := hr.cap_le
  have hcap2 := hs.cap_le
  go_enter Try.func72, Try.ntmps72
  go_wp2_with fail
  obtain ⟨W, hW⟩ : ∃ W, W = (w.alloc (Obj.cells #[Value.int IntKind.u8 d, Value.slice a1 n1 c1] 24)).alloc (Obj.cells #[Value.int IntKind.u8 d', Value.slice a2 n2 c2] 24) := ⟨_, rfl⟩
  rw [← hW]
  have hb0 : Below w.heap.size w W := hW ▸ two_allocs _ _ _
  have k1 : W.cell? ⟨w.heap.size, 1, none⟩ = some (.slice a1 n1 c1) := by rw [hW]; simp
  have k2 : W.cell? ⟨w.heap.size + 1, 1, none⟩ = some (.slice a2 n2 c2) := by rw [hW]; simp
  clear hW
  go_loopw [5, 6] (fun o i wr => ∃ (j : Nat) (so : Option Addr) (no co : Nat), j ≤ n1 ∧ o = .slice so no co ∧ i = .int .i64 j ∧ OwnW 38 wr W.heap.size so no co ((xs.take j).map Prod.fst) ∧ Below W.heap.size W wr ∧ no ≤ j) (fun _ i _ => n1 - (intOf i).toNat)
  case atStart => exact ⟨0, none, 0, 0, by omega, rfl, rfl, by simpa using OwnW.of_nil 38 _ _, Below.refl _ _, by omega⟩
  case round =>
    obtain ⟨j, so, no, co, hj, rfl, rfl, hown, hbr, hno⟩ := hrel
    have k1' : wr.cell? ⟨w.heap.size, 1, none⟩ = some (.slice a1 n1 c1) := by rw [hbr.cell (lt_of_cell k1)]; exact k1
    by_cases hlt : j < n1
    · have hp : (j : Int) < (n1 : Int) := by omega
      obtain ⟨b, off, rfl, _⟩ := hr.at (by omega)
      obtain ⟨X, Y, hX, HXb⟩ := hr.get2 j hlt
      obtain ⟨t1, t2⟩ := (hr.below (ext_trans hb0 hbr)).pair hX
      have HX : Hid (xs[j]? = some (X, Y)) := hX
      clear hX
      have h1 := below_alloc wr (.cells #[.int .u16 X] 38)
      go_wp2_with (at_builtin; refine wp_append_words _ rfl (.tmp 15) (.tmp 22) 25 rfl 38 Try.underlying25 info25 W.heap.size no co so _ rfl (hown.below h1) (some ⟨wr.heap.size, 0, none⟩) 1 1 [X] rfl (roww_lit_at _ _ (by simp) 38 [X] 1 rfl (by omega) (Wrd.one HXb.1)) (by omega) (by simp; have := hbr.size; omega) W (ext_trans hbr h1) ?_; intro so' co' w3 hown3 hbel3)
      go_roundw
      case rel =>
        refine ⟨j + 1, so', no + 1, co', by omega, rfl, by go_num, ?_, hbel3, by omega⟩
        rw [take_snoc HX.out, List.map_append]
        exact hown3
      case measure => simp [intOf]; omega
    · obtain rfl : n1 = j := by omega
      rw [List.take_of_length_le (by rw [hl1.out]; exact Nat.le_refl _)] at hown
      go_wp2_with fail
      obtain ⟨w5, rfl⟩ : ∃ x, x = wr := ⟨_, rfl⟩
      go_loopw [5, 7] (fun o i wr => ∃ (j : Nat) (so : Option Addr) (no co : Nat), j ≤ n2 ∧ o = .slice so no co ∧ i = .int .i64 j ∧ OwnW 38 wr W.heap.size so no co (xs.map Prod.fst ++ (ys.take j).map Prod.fst) ∧ Below W.heap.size W wr ∧ no ≤ n1 + j) (fun _ i _ => n2 - (intOf i).toNat)
      case atStart => exact ⟨0, so, no, co, by omega, rfl, rfl, by simpa using hown, hbr, by omega⟩
      case round =>
        obtain ⟨j', so, no, co, hj, rfl, rfl, hown, hbr, hno⟩ := hrel
        have k2' : wr.cell? ⟨w.heap.size + 1, 1, none⟩ = some (.slice a2 n2 c2) := by rw [hbr.cell (lt_of_cell k2)]; exact k2
        by_cases hlt : j' < n2
        · have hp : (j' : Int) < (n2 : Int) := by omega
          obtain ⟨b, off, rfl, _⟩ := hs.at (by omega)
          obtain ⟨X, Y, hX, HXb⟩ := hs.get2 j' hlt
          obtain ⟨t1, t2⟩ := (hs.below (ext_trans hb0 hbr)).pair hX
          have HX : Hid (ys[j']? = some (X, Y)) := hX
          clear hX
          have h1 := below_alloc wr (.cells #[.int .u16 X] 38)
          go_wp2_with (at_builtin; refine wp_append_words _ rfl (.tmp 31) (.tmp 38) 25 rfl 38 Try.underlying25 info25 W.heap.size no co so _ rfl (hown.below h1) (some ⟨wr.heap.size, 0, none⟩) 1 1 [X] rfl (roww_lit_at _ _ (by simp) 38 [X] 1 rfl (by omega) (Wrd.one HXb.1)) (by omega) (by simp; have := hbr.size; omega) W (ext_trans hbr h1) ?_; intro so' co' w3 hown3 hbel3)
          go_roundw
          case rel =>
            refine ⟨j' + 1, so', no + 1, co', by omega, rfl, by go_num, ?_, hbel3, by omega⟩
            rw [take_snoc HX.out, List.map_append, ← List.append_assoc]
            exact hown3
          case measure => simp [intOf]; omega
        · obtain rfl : n2 = j' := by omega
          rw [List.take_of_length_le (by rw [hl2.out]; exact Nat.le_refl _), ← List.map_append] at hown
          go_wp2_with fail
          refine (refMake_any so no co _ wr hown.row (by omega)).mono ?_
          rintro e w6 ⟨so6, k6, co6, zs6, rfl, hown6, hb6, hsrt6, hmem6, hk6⟩
          have HM : Hid (_ ∧ _) := And.intro hsrt6 hmem6
          clear hsrt6 hmem6
          go_wp2_with fail
          go_ret
          exact ⟨so6, k6, co6, zs6, rfl, hown6.mono (Nat.le_trans hb0.size hbr.size), ext_trans hb0 (ext_trans hbr hb6), HM.out.1, HM.out.2, by omega⟩

/-- What MakeLabel makes of the categories zs. -/
def mkP (d : Int) (xs : List (Int × Int)) (zs : List Int) : List (Int × Int) := cmb d (fun x _ => x) (zs.map fun c => (c, atL d xs.reverse c, atL d xs.reverse c))
theorem mk_up (f : Int → Int) {zs : List Int} (h : Srt zs) : UpR (zs.map fun c => (c, f c, f c)) := List.pairwise_map.2 h
theorem mkP_can (d : Int) (xs : List (Int × Int)) {zs : List Int} (h : Srt zs) : CanL d (mkP d xs zs) := cmb_can _ _ _ (List.pairwise_map.2 h)
theorem mkP_at (d : Int) (xs : List (Int × Int)) {zs : List Int} (h : Srt zs) (hm : ∀ x, x ∈ zs ↔ x ∈ xs.map Prod.fst) (c : Int) : atL d (mkP d xs zs) c = atL d xs.reverse c := by
  rw [mkP, cmb_at _ _ _ (mk_up _ h)]
  by_cases hc : c ∈ zs
  · have := atR_all d (fun x _ => x) _ (mk_up (atL d xs.reverse) h) (List.mem_map.2 ⟨c, hc, rfl⟩)
    exact this
  · rw [atR_off _ _ _ _ (fun r hr => by obtain ⟨x, hx, rfl⟩ := List.mem_map.1 hr; intro e; exact hc (e ▸ hx))]
    refine (atL_off d _ c fun p hp e => hc ((hm c).2 (List.mem_map.2 ⟨p, by simpa using hp, e⟩))).symm
theorem at_rev_snoc (d : Int) (ps : List (Int × Int)) (x y c : Int) : atL d (ps ++ [(x, y)]).reverse c = if x = c then y else atL d ps.reverse c := by
  rw [List.reverse_append]; rfl
theorem RowW.at' {w : World} {a : Option Addr} {n cap : Nat} {xs : List Int} (h : RowW w a n cap xs) (i : Nat) (hi : i < n) : ∃ C b off, a = some ⟨b, off, none⟩ ∧ xs[i]? = some C ∧ (0 ≤ C ∧ C < 65536) ∧ w.cell? ⟨b, off + i, none⟩ = some (.int .u16 C) := by
  obtain ⟨b, off, rfl, hc⟩ := h.at (by omega)
  have hl := h.len
  refine ⟨xs[i]'(by omega), b, off, rfl, List.getElem?_eq_getElem (by omega), h.wrd _ (List.getElem_mem _), ?_⟩
  rw [hc i hi, getD_eq (by omega)]

set_option maxHeartbeats 4000000 in
theorem makeLabel_any (d : Int) (hd : 0 ≤ d ∧ d < 256) (a : Option Addr) (n cap : Nat) (xs : List (Int × Int)) (w : World) (hr : RowG PE w a n cap xs) (hbd : n ≤ 35184372088832) :
    Calls Try.prog 46 #[.int .u8 d, .slice a n cap] w fun e w' => ∃ so k co zs, e = .returned (.agg #[.int .u8 d, .slice so k co]) ∧ OwnG PE 40 w' w.heap.size so k co (mkP d xs zs) ∧ Below w.heap.size w w' ∧ Srt zs ∧ (∀ x, x ∈ zs ↔ x ∈ xs.map Prod.fst) := by
  have hxl : Hid (xs.length = n) := hr.len
  have hcap := hr.cap_le
  go_enter Try.func46, Try.ntmps46
  go_wp2_with fail
  refine (cats_any 0 0 a none n cap 0 0 xs [] _ (hr.below (by repeat (first | exact Below.refl _ _ | refine Below.alloc ?_ (by simp <;> omega) _))) (RowG.nil _ _) (by omega)).mono ?_
  rintro e W0 ⟨zo, kz, zc, zs, rfl, hzown, hb, hsrt, hmem, hkz⟩
  rw [List.append_nil] at hmem
  have hG : W0.heap[w.heap.size + 1]? = some (.cells #[.int .u8 d, .slice none 0 0] 24 (0, 0)) := by rw [hb.block _ (by simp)]; exact heap_new_at _ _ _ (by simp)
  have hR : W0.heap[w.heap.size]? = some (.cells #[.int .u8 0, .slice none 0 0] 24 (0, 0)) := by rw [hb.block _ (by simp <;> omega), Below.heap_alloc _ _ _ (by simp)]; exact heap_new_at _ _ _ (by simp)
  have hbW : Below w.heap.size w W0 := Below.trans (by repeat (first | exact Below.refl _ _ | refine Below.alloc ?_ (by simp <;> omega) _)) (hb.mono (by simp <;> omega))
  have HM : Hid (Srt zs ∧ ∀ x, x ∈ zs ↔ x ∈ xs.map Prod.fst) := ⟨hsrt, hmem⟩
  have hzl : Hid (zs.length = kz) := hzown.1
  have hzb : Hid (∀ x, zo = some x → w.heap.size + 1 < x.block ∧ x.block < W0.heap.size) := fun x hx => by
    subst hx
    rcases hzown.cases with ⟨h, _⟩ | ⟨g, cur, h, hB, hg, _⟩
    · simp at h
    · obtain rfl := Option.some.inj h
      have := (Array.getElem?_eq_some_iff.1 hg).1
      simp at hB
      exact ⟨by simp; omega, this⟩
  have hzrow := hzown.row
  have hzcap := hzrow.cap_le
  have hxb : Hid (∀ x, a = some x → 0 < n → x.block ≠ w.heap.size + 1) := fun x hx hn => by
    obtain ⟨b, off, rfl, hcell⟩ := hr.at hn
    obtain rfl := Option.some.inj hx
    obtain ⟨X, Y, hX, _⟩ := hr.get2 0 hn
    have := lt_of_cell (hr.pair hX).1
    simp at this ⊢
    omega
  have hGlt : w.heap.size + 1 < W0.heap.size := (Array.getElem?_eq_some_iff.1 hG).1
  clear hsrt hmem hzown hb
  go_wp2_with fail
  go_loopw [7] (fun iv wr => ∃ (i : Nat) (so : Option Addr) (no co : Nat), i ≤ kz ∧ iv = .int .i64 i ∧ OutAt W0 (w.heap.size + 1) d wr so no co (mkP d xs (zs.take i)) ∧ no ≤ i) (fun i _ => kz - (intOf i).toNat)
  case atStart => exact ⟨0, none, 0, 0, by omega, rfl, OutAt.init hG, by omega⟩
  case round =>
    obtain ⟨i, so, no, co, hi, rfl, hout, hno⟩ := hrel
    by_cases hlt : i < kz
    · have hp : (i : Int) < (kz : Int) := by omega
      have hzr : RowW wr zo kz zc zs := hzrow.grown hout.gr (fun x hx e => by have := hzb.out x hx; simp at e; omega)
      obtain ⟨C, zb, zoff, rfl, hC, hCb, c0⟩ := hzr.at' i hlt
      have hzb' := hzb.out _ rfl
      simp only at hzb'
      have HC : Hid (zs[i]? = some C) := hC
      clear hC
      go_wp2_with fail
      obtain ⟨wo, rfl⟩ : ∃ x, x = wr := ⟨_, rfl⟩
      go_loopw [8, 9] (fun lv kv wi => ∃ k : Nat, k ≤ n ∧ kv = .int .i64 k ∧ lv = .int .u8 (atL d (xs.take k).reverse C) ∧ Below wo.heap.size wo wi) (fun _ kv _ => n - (intOf kv).toNat)
      case atStart => exact ⟨0, by omega, rfl, rfl, Below.refl _ _⟩
      case round =>
        obtain ⟨k, hk, rfl, rfl, hbi⟩ := hrel
        obtain ⟨wi, rfl⟩ : ∃ x, x = wr := ⟨_, rfl⟩
        have c0i : wi.cell? ⟨zb, zoff + i, none⟩ = some (.int .u16 C) := by rw [hbi.cell (lt_of_cell c0)]; exact c0
        have houti := hout.below hbi
        by_cases hkn : k < n
        · have hp2 : (k : Int) < (n : Int) := by omega
          obtain ⟨b, off, rfl, _⟩ := hr.at (by omega)
          obtain ⟨X, Y, hX, HXb⟩ := hr.get2 k hkn
          obtain ⟨t1, t2⟩ := (houti.row (hr.below hbW) (fun x hx => hxb.out x hx (by omega))).pair hX
          have hsn : Hid (atL d (xs.take (k + 1)).reverse C = if X = C then Y else atL d (xs.take k).reverse C) := by
            show _ = _
            rw [take_snoc hX, at_rev_snoc]
          clear hX
          generalize atL d (xs.take k).reverse C = L at hsn ⊢
          by_cases hXC : X = C
          · subst hXC
            go_wp2
            go_quiet (fail)
            go_wp2
            go_roundw
            case rel => exact ⟨k + 1, by omega, by go_num, by rw [hsn.out]; simp, bel_drewN hbi _⟩
            case measure => simp [intOf]; omega
          · have hXC' : (X == C) = false := by simpa using hXC
            go_wp2
            go_quiet (fail)
            go_wp2
            go_roundw
            case rel => exact ⟨k + 1, by omega, by go_num, by rw [hsn.out, if_neg hXC], bel_drewN hbi _⟩
            case measure => simp [intOf]; omega
        · obtain rfl : n = k := by omega
          rw [List.take_of_length_le (show xs.length ≤ n by rw [hxl.out]; exact Nat.le_refl _)]
          have hLb : 0 ≤ atL d xs.reverse C ∧ atL d xs.reverse C < 256 := by
            rcases atL_any d xs.reverse C with e | ⟨p, hp, _, e⟩
            · rw [e]; exact hd
            · rw [e]; exact (hr.ok p (by simpa using hp)).2
          have HL : Hid (atL d xs.reverse C = atL d xs.reverse C) := rfl
          obtain ⟨L, hL⟩ : ∃ L, L = atL d xs.reverse C := ⟨_, rfl⟩
          rw [← hL] at hLb ⊢
          replace HL : Hid (atL d xs.reverse C = L) := hL.symm
          clear hL
          by_cases hLd : L = d
          · subst hLd
            go_wp2_with fail
            go_roundw
            case rel =>
              refine ⟨i + 1, so, no, co, by omega, by go_num, ?_, by omega⟩
              rw [take_snoc HC.out, mkP, List.map_append, List.map_singleton, cmb_snoc]
              rw [show unl (C, atL L xs.reverse C, atL L xs.reverse C).1 ((fun x _ => x) (C, atL L xs.reverse C, atL L xs.reverse C).2.1 (C, atL L xs.reverse C, atL L xs.reverse C).2.2) L = [] by simp only; rw [HL.out]; exact if_pos rfl, List.append_nil]
              exact houti
            case measure => simp [intOf]; omega
          · have hLd' : (L == d) = false := by simpa using hLd
            go_wp2_with fail
            have hout2 := houti.below (ext_drew _)
            obtain ⟨Wb, hWb⟩ : ∃ x, x = (wi.alloc (.cells #[.int .u16 C, .int .u8 L] 40)).drew := ⟨_, rfl⟩
            have hout3 : OutAt W0 (w.heap.size + 1) d Wb so no co _ := hWb ▸ (houti.below (below_alloc _ _)).below (ext_drew _)
            have hrow3 : RowG PE Wb (some ⟨wi.heap.size, 0, none⟩) 1 1 [(C, L)] := hWb ▸ (owng_lit PE _ 40 [(C, L)] _ rfl 1 rfl (by omega) (Enc.Ok.one ⟨hCb, hLb⟩) _ wi.heap.size (by simp) (by omega)).row
            have hS0 : Hid (wi.drew.cell? ⟨zb, zoff + i, none⟩ = some (.int .u16 C)) := c0i
            have HSa : Hid (Wb.cell? ⟨zb, zoff + i, none⟩ = some (.int .u16 C)) := hWb ▸ cell_old _ c0i
            have hc1 : wi.cell? ⟨w.heap.size + 1, 1, none⟩ = some (.slice so no co) := hout2.c1
            have hc2 : Wb.cell? ⟨w.heap.size + 1, 1, none⟩ = some (.slice so no co) := hout3.c1
            have hGne : w.heap.size + 1 ≠ wi.heap.size := by have := houti.gr.size; omega
            have HWb : Hid (Wb = (wi.alloc (.cells #[.int .u16 C, .int .u8 L] 40)).drew) := hWb
            clear hWb
            have HS3 : Hid (∀ w3, Wb.grownBy w3 (Value.slice so no co).ownBlock → w3.cell? ⟨zb, zoff + i, none⟩ = some (.int .u16 C)) := fun w3 hg => hg.cell HSa.out (fun e => by have := (own_block hout3.own _ e.symm).1; simp only at this; omega)
            have HS4 : Hid (∀ (w3 : World) (v : Value), w3.cell? ⟨zb, zoff + i, none⟩ = some (.int .u16 C) → (w3.setCell ⟨w.heap.size + 1, 1, none⟩ v).cell? ⟨zb, zoff + i, none⟩ = some (.int .u16 C)) := fun w3 v h => by rw [World.cell?_setCell_far _ _ _ _ (by simp only; omega)]; exact h
            refine wp_region_noPanic ?_
            refine wp_region_held_drew (S := fun W => W.cell? ⟨zb, zoff + i, none⟩ = some (.int .u16 C)) (by kernel_rfl) hS0.out fun hS => ?_
            refine take_to (i := 0) (v := ?_) 47 rfl rfl (by kernel_rfl) (by kernel_rfl) (by kernel_rfl) (fun _ _ _ h => h) (Or.inl ⟨by rfl, ?_⟩) hS ?_
            rotate_left
            · intro W hW
              go_simp
              try with_reducible rfl
            simp only [List.setIfInBounds_toArray, List.set_cons_zero, List.set_cons_succ]
            refine take_to (i := 2) (v := ?_) 49 rfl rfl (by kernel_rfl) (by kernel_rfl) (by kernel_rfl) (fun _ _ _ h => h) (Or.inl ⟨by rfl, ?_⟩) hS ?_
            rotate_left
            · intro W hW
              go_simp
              try with_reducible rfl
            simp only [List.setIfInBounds_toArray, List.set_cons_zero, List.set_cons_succ]
            refine take_to (i := 3) (v := ?_) 50 rfl rfl (by kernel_rfl) (by kernel_rfl) (by kernel_rfl) (fun _ _ _ h => h) (Or.inl ⟨by rfl, ?_⟩) hS ?_
            rotate_left
            · intro W hW
              go_simp
              try with_reducible rfl
            simp only [List.setIfInBounds_toArray, List.set_cons_zero, List.set_cons_succ]
            refine take_to (i := 4) (v := ?_) 51 rfl rfl (by kernel_rfl) (by kernel_rfl) (by kernel_rfl) (fun _ _ _ h => h) (Or.inl ⟨by rfl, ?_⟩) hS ?_
            rotate_left
            · intro W hW
              go_simp
              try with_reducible rfl
            simp only [List.setIfInBounds_toArray, List.set_cons_zero, List.set_cons_succ]
            refine take_to (i := 5) (v := ?_) 52 rfl rfl (by kernel_rfl) (by kernel_rfl) (by kernel_rfl) (fun _ _ _ h => h) (Or.inl ⟨by rfl, ?_⟩) hS ?_
            rotate_left
            · intro W hW
              go_simp
              try with_reducible rfl
            simp only [List.setIfInBounds_toArray, List.set_cons_zero, List.set_cons_succ]
            refine take_to (i := 6) (v := ?_) 53 rfl rfl (by kernel_rfl) (by kernel_rfl) (by kernel_rfl) (fun _ _ _ h => h) (Or.inl ⟨by rfl, ?_⟩) hS ?_
            rotate_left
            · intro W hW
              go_simp
              try with_reducible rfl
            simp only [List.setIfInBounds_toArray, List.set_cons_zero, List.set_cons_succ]
            refine take_to (i := 7) (v := ?_) 54 rfl rfl (by kernel_rfl) (by kernel_rfl) (by kernel_rfl) (fun _ _ _ h => h) (Or.inl ⟨by rfl, ?_⟩) hS ?_
            rotate_left
            · intro W hW
              go_simp
              try with_reducible rfl
            simp only [List.setIfInBounds_toArray, List.set_cons_zero, List.set_cons_succ]
            refine wpAnyH_ready (rs := [1, 8]) (by kernel_rfl) (by simp) ?_
            refine AllReadyH.cons rfl (fun K hK => ?_) (AllReadyH.cons rfl (fun K hK => ?_) AllReadyH.nil)
            · go_simp
              refine hK.out _ _ hS fun _ => ?_
              clear hK K
              refine wpAnyH_ready (rs := [8]) (by kernel_rfl) (by simp) ?_
              refine AllReadyH.cons rfl (fun K hK => ?_) AllReadyH.nil
              go_simp
              rw [← HWb.out]
              refine hK.out _ _ (HSa.out) fun _ => ?_
              clear hK K
              refine wpAnyH_ready (rs := [9]) (by kernel_rfl) (by simp) ?_
              refine AllReadyH.cons rfl (fun K hK => ?_) AllReadyH.nil
              refine Eq.mpr (if_pos (by kernel_rfl)) ?_
              refine op_append_g (E := PE) _ (.tmp 48) (.tmp 55) 22 rfl 40 Try.underlying22 (.agg #[.int .u16 0, .int .u8 0]) 4 info29 rfl (by omega) W0.heap.size no co so _ rfl hout3.own (some ⟨wi.heap.size, 0, none⟩) 1 1 [(C, L)] rfl hrow3 (by omega) hout3.gr.size _ (Below.refl _ _) ?_
              intro so' co' w3 hown3 _ hg3
              obtain ⟨_, _, m1, m2, m3⟩ := hout3.mid hg3
              have hS3 := HS3.out w3 hg3
              refine hK.out _ _ hS3 fun _ => ?_
              clear hK K
              refine wpAnyH_ready (rs := [10]) (by kernel_rfl) (by simp) ?_
              refine AllReadyH.cons rfl (fun K hK => ?_) AllReadyH.nil
              go_simp
              refine hK.out _ _ hS3 fun _ => ?_
              clear hK K
              refine wpAnyH_ready (rs := [11]) (by kernel_rfl) (by simp) ?_
              refine AllReadyH.cons rfl (fun K hK => ?_) AllReadyH.nil
              go_simp
              have hout4 := hout3.store hg3 hown3
              refine hK.out _ _ (HS4.out _ _ hS3) fun _ => ?_
              clear hK K
              refine wpAnyH_done (by kernel_rfl) ?_ _
              refine NoPanic.normal ?_
              go_wp2_with fail
              go_roundw
              case rel =>
                refine ⟨i + 1, so', no + 1, co', by omega, by go_num, ?_, by omega⟩
                rw [take_snoc HC.out, mkP, List.map_append, List.map_singleton, cmb_snoc]
                rw [show unl (C, atL d xs.reverse C, atL d xs.reverse C).1 ((fun x _ => x) (C, atL d xs.reverse C, atL d xs.reverse C).2.1 (C, atL d xs.reverse C, atL d xs.reverse C).2.2) d = [(C, L)] by simp only; rw [HL.out]; exact if_neg hLd]
                exact hout4
              case measure => simp [intOf]; omega
            · go_simp
              rw [← HWb.out]
              refine hK.out _ _ (HSa.out) fun _ => ?_
              clear hK K
              refine wpAnyH_ready (rs := [1]) (by kernel_rfl) (by simp) ?_
              refine AllReadyH.cons rfl (fun K hK => ?_) AllReadyH.nil
              go_simp
              refine hK.out _ _ HSa.out fun _ => ?_
              clear hK K
              refine wpAnyH_ready (rs := [9]) (by kernel_rfl) (by simp) ?_
              refine AllReadyH.cons rfl (fun K hK => ?_) AllReadyH.nil
              refine Eq.mpr (if_pos (by kernel_rfl)) ?_
              refine op_append_g (E := PE) _ (.tmp 48) (.tmp 55) 22 rfl 40 Try.underlying22 (.agg #[.int .u16 0, .int .u8 0]) 4 info29 rfl (by omega) W0.heap.size no co so _ rfl hout3.own (some ⟨wi.heap.size, 0, none⟩) 1 1 [(C, L)] rfl hrow3 (by omega) hout3.gr.size _ (Below.refl _ _) ?_
              intro so' co' w3 hown3 _ hg3
              obtain ⟨_, _, m1, m2, m3⟩ := hout3.mid hg3
              have hS3 := HS3.out w3 hg3
              refine hK.out _ _ hS3 fun _ => ?_
              clear hK K
              refine wpAnyH_ready (rs := [10]) (by kernel_rfl) (by simp) ?_
              refine AllReadyH.cons rfl (fun K hK => ?_) AllReadyH.nil
              go_simp
              refine hK.out _ _ hS3 fun _ => ?_
              clear hK K
              refine wpAnyH_ready (rs := [11]) (by kernel_rfl) (by simp) ?_
              refine AllReadyH.cons rfl (fun K hK => ?_) AllReadyH.nil
              go_simp
              have hout4 := hout3.store hg3 hown3
              refine hK.out _ _ (HS4.out _ _ hS3) fun _ => ?_
              clear hK K
              refine wpAnyH_done (by kernel_rfl) ?_ _
              refine NoPanic.normal ?_
              go_wp2_with fail
              go_roundw
              case rel =>
                refine ⟨i + 1, so', no + 1, co', by omega, by go_num, ?_, by omega⟩
                rw [take_snoc HC.out, mkP, List.map_append, List.map_singleton, cmb_snoc]
                rw [show unl (C, atL d xs.reverse C, atL d xs.reverse C).1 ((fun x _ => x) (C, atL d xs.reverse C, atL d xs.reverse C).2.1 (C, atL d xs.reverse C, atL d xs.reverse C).2.2) d = [(C, L)] by simp only; rw [HL.out]; exact if_neg hLd]
                exact hout4
              case measure => simp [intOf]; omega
    · obtain rfl : kz = i := by omega
      have hRr := hout.heap hR (by omega)
      have r0 := cell_of_heap hRr 0 _ rfl
      have r1 := cell_of_heap hRr 1 _ rfl
      have f0 : wr.frozen? ⟨w.heap.size, 0, none⟩ = false := frozen_of_row wr _ 0 _ 24 hRr
      have f1 : wr.frozen? ⟨w.heap.size, 1, none⟩ = false := frozen_of_row wr _ 1 _ 24 hRr
      have g0 := hout.c0
      have g1 := hout.c1
      go_wp2_with fail
      obtain ⟨e1, e2, e3⟩ := hout.ret hR (by omega) (by omega) (by omega) hbW
      try simp only [Exit.inBlock, Exit.then]
      refine bodyPost_ret (ret_lab rfl _ _ (w.heap.size) d so no co rfl e1) rfl ?_
      refine ⟨so, no, co, zs, rfl, ?_, e3, HM.out.1, HM.out.2⟩
      rwa [List.take_of_length_le (by rw [hzl.out]; exact Nat.le_refl _)] at e2
end Go.Proofs.Ytdoemkncgfgkhaa
