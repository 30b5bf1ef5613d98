/- Object2Bounds walked: it answers true, and turns nothing that was there. -/
import Derived.Test.YtkmpmljohjelhaaN2Begun
import Derived.Test.YtkmpmljohjelhaaRgSpoil
import Derived.Deep.MidRow
import Derived.Deep.Upon
import Derived.Deep.OwnRows
import Derived.BigQuiet
namespace Go.Proofs.Ytkmpmljohjelhaa
open Go.RowKit
set_option maxRecDepth 100000
set_option linter.unusedVariables false

abbrev cellsOb (x : Ob) : List Value := [.int .u64 x.i, .int .i64 x.k, .int .u8 x.d, .slice x.a3 x.n3 x.m3, .slice x.a4 x.n4 x.m4, .slice x.a5 x.n5 x.m5, .slice x.a6 x.n6 x.m6, .int .i64 x.q, .int .i64 x.u, .int .i64 x.n, .slice x.a10 x.n10 x.m10, .slice x.a11 x.n11 x.m11, .slice x.a12 x.n12 x.m12]
/-- Nine objects, one behind the other, in block h. -/
structure BadAt (W : World) (h : Nat) (f : Nat → Ob) : Prop where
  there : W.there h 0 117
  at_ : ∀ i, i < 9 → W.rangeAt h (i * 13) (cellsOb (f i))
theorem BadAt.congr {W : World} {h : Nat} {f f' : Nat → Ob} (b : BadAt W h f) (e : ∀ i, i < 9 → f i = f' i) : BadAt W h f' := ⟨b.there, fun i hi => e i hi ▸ b.at_ i hi⟩
theorem BadAt.cell {W : World} {h : Nat} {f : Nat → Ob} (b : BadAt W h f) (i c : Nat) (hi : i < 9) {v : Value} (hv : (cellsOb (f i))[c]? = some v) : W.cell? ⟨h, i * 13 + c, none⟩ = some v := b.at_ i hi c v hv
theorem BadAt.fz {W : World} {h : Nat} {f : Nat → Ob} (b : BadAt W h f) (j : Nat) (hj : j < 117) : W.frozen? ⟨h, j, none⟩ = false := by
  have := (b.there j hj).2
  rwa [Nat.zero_add] at this
theorem BadAt.lt {W : World} {h : Nat} {f : Nat → Ob} (b : BadAt W h f) : h < W.heap.size := by
  have := b.cell 0 0 (by omega) (v := .int .u64 (f 0).i) rfl
  exact lt_of_cell this
theorem BadAt.below {W V : World} {h : Nat} {f : Nat → Ob} (b : BadAt W h f) (hb : Below W.heap.size W V) : BadAt V h f := by
  have hl := b.lt
  refine ⟨fun j hj => ?_, fun i hi j v hv => ?_⟩
  · obtain ⟨h1, h2⟩ := b.there j hj
    have e := hb.block h hl
    refine ⟨?_, ?_⟩
    · rw [hb.cell (p := ⟨h, 0 + j, none⟩) hl]; exact h1
    · unfold World.frozen? at h2 ⊢
      rw [e]; exact h2
  · rw [hb.cell (p := ⟨h, i * 13 + j, none⟩) hl]; exact b.at_ i hi j v hv
theorem BadAt.set {W : World} {h : Nat} {f : Nat → Ob} (b : BadAt W h f) (i c : Nat) (hi : i < 9) (hc : c < 13) (v : Value) (y : Ob) (hy : (cellsOb (f i)).set c v = cellsOb y) : BadAt (W.setCell ⟨h, i * 13 + c, none⟩ v) h (fun j => if j = i then y else f j) := by
  have hs : ∀ (V : World) (a : Nat), V.setCell ⟨h, a, none⟩ v = V.setCells h a [v] := fun _ _ => rfl
  refine ⟨?_, fun j hj => ?_⟩
  · rw [hs]; exact World.there_setCells b.there _ _ _
  · by_cases e : j = i
    · subst e
      rw [if_pos rfl, ← hy]
      intro k u hu
      by_cases ek : k = c
      · subst ek
        have : u = v := by
          rw [List.getElem?_set_self (by simpa using hc)] at hu
          exact (Option.some.inj hu).symm
        subst this
        have h0 := (b.there (j * 13 + k) (by omega)).1
        rw [Nat.zero_add] at h0
        obtain ⟨q, hq⟩ := Option.isSome_iff_exists.1 h0
        exact World.cell?_setCell_same _ _ _ hq
      · rw [List.getElem?_set_ne (fun h => ek h.symm)] at hu
        rw [World.cell?_setCell_other _ _ _ _ (fun he => by
          simp only [Addr.mk.injEq] at he
          omega)]
        exact b.at_ j hj k u hu
    · rw [if_neg e, hs]
      refine World.rangeAt_setCells_apart (b.at_ j hj) _ _ _ (.inr ?_)
      have hl : (cellsOb (f j)).length = 13 := rfl
      rw [hl]
      simp only [List.length_singleton]
      omega

theorem below_setCells9 {B b : Nat} {a : World} (hB : B ≤ b) : ∀ (vs : List Value) (o : Nat) (w : World), Below B a w → Below B a (w.setCells b o vs)
  | [], _, _, h => h
  | v :: r, o, w, h => by
    rw [World.setCells]
    exact below_setCells9 hB r (o + 1) _ (h.setCell hB v)
theorem zero9 : ∃ Z : Array Value, Z.size = 117 ∧ ∀ w, (zeroValue 44).run Try.prog w = .ok (.agg Z) w := by
  have h : (Try.prog.info? 44).map (fun i => i.zero) = some (some (.agg ((List.replicate 9 [.int .u64 0, .int .i64 0, .int .u8 0, .slice none 0 0, .slice none 0 0, .slice none 0 0, .slice none 0 0, .int .i64 0, .int .i64 0, .int .i64 0, .slice none 0 0, .slice none 0 0, .slice none 0 0]).flatten).toArray)) := by kernel_rfl
  obtain ⟨i, hi, hz⟩ := Option.map_eq_some_iff.1 h
  refine ⟨((List.replicate 9 [.int .u64 0, .int .i64 0, .int .u8 0, .slice none 0 0, .slice none 0 0, .slice none 0 0, .slice none 0 0, .int .i64 0, .int .i64 0, .int .i64 0, .slice none 0 0, .slice none 0 0, .slice none 0 0]).flatten).toArray, rfl, fun w => ?_⟩
  simp [zeroValue, typeInfo, hi, hz]

theorem make65 (w : World) : (Instr.makeSlice 29 (.int .i64 65) (.int .i64 65)).run Try.prog w = .ok (.slice (some ⟨w.heap.size, 0, none⟩) 65 65) (w.alloc (.cells (madeCells #[.int .u8 0] 65) 5)) :=
  run_make_row' (P := Try.prog) 29 5 (.int .u8 0) 1 Try.underlying29 info5 rfl .i64 .i64 65 (by omega) (by omega) w
theorem make5 (w : World) : (Instr.makeSlice 30 (.int .i64 5) (.int .i64 5)).run Try.prog w = .ok (.slice (some ⟨w.heap.size, 0, none⟩) 5 5) (w.alloc (.cells (madeCells #[.slice none 0 0] 5) 29)) :=
  run_make_row' (P := Try.prog) 30 29 (.slice none 0 0) 24 Try.underlying30 infoR rfl .i64 .i64 5 (by omega) (by omega) w
theorem made65 : madeCells #[.int .u8 0] 65 = ((List.replicate 65 (0 : Int)).map (Value.int .u8)).toArray := by kernel_rfl
theorem made5 : madeCells #[.slice none 0 0] 5 = #[.slice none 0 0, .slice none 0 0, .slice none 0 0, .slice none 0 0, .slice none 0 0] := by kernel_rfl
/-- The one that may be; and nine that may not. -/
def okB : Ob := ⟨65, 1, 0, none, 0, 0, none, 0, 0, none, 0, 0, none, 0, 0, 9, 9, 64, none, 0, 0, none, 0, 0, none, 0, 0, [], [], [], [], [], [], []⟩
def badB (g6 g7 g8 : Nat) : Nat → Ob
  | 0 => { okB with i := 64 }
  | 1 => { okB with k := 5 }
  | 2 => { okB with u := 10 }
  | 3 => { okB with q := 401 }
  | 4 => { okB with n := 0 }
  | 5 => { okB with n := 65 }
  | 6 => { okB with k := 2, a10 := some ⟨g6, 0, none⟩, n10 := 65, m10 := 65, xs := List.replicate 65 0 }
  | 7 => { okB with k := 3, a11 := some ⟨g7, 0, none⟩, n11 := 2, m11 := 2, cs := [4, 4] }
  | _ => { okB with k := 4, a12 := some ⟨g8, 0, none⟩, n12 := 5, m12 := 5, ls := List.replicate 5 ⟨none, 0, 0, []⟩ }
theorem okB_may : mayD2 okB.od = true := by decide +kernel
theorem okB_in (w : World) : okB.In w := ⟨(⟨by decide, by decide⟩ : U 65), (by decide : (-9223372036854775808 : Int) ≤ 1 ∧ (1 : Int) < 9223372036854775808), (by decide : (0 : Int) ≤ 0 ∧ (0 : Int) < 256), RowG.nil _ _, RowW.nil _, RowW.nil _, RowW.nil _, Row.nil _, RowW.nil _, RowR.nil _⟩
theorem badB_may (g6 g7 g8 : Nat) : ∀ i, i < 9 → mayD2 (badB g6 g7 g8 i).od = false
  | 0, _ => (by decide +kernel : mayD2 ⟨64, 1, 0, [], [], [], [], 9, 9, 64, [], [], []⟩ = false)
  | 1, _ => (by decide +kernel : mayD2 ⟨65, 5, 0, [], [], [], [], 9, 9, 64, [], [], []⟩ = false)
  | 2, _ => (by decide +kernel : mayD2 ⟨65, 1, 0, [], [], [], [], 9, 10, 64, [], [], []⟩ = false)
  | 3, _ => (by decide +kernel : mayD2 ⟨65, 1, 0, [], [], [], [], 401, 9, 64, [], [], []⟩ = false)
  | 4, _ => (by decide +kernel : mayD2 ⟨65, 1, 0, [], [], [], [], 9, 9, 0, [], [], []⟩ = false)
  | 5, _ => (by decide +kernel : mayD2 ⟨65, 1, 0, [], [], [], [], 9, 9, 65, [], [], []⟩ = false)
  | 6, _ => (by decide +kernel : mayD2 ⟨65, 2, 0, [], [], [], [], 9, 9, 64, List.replicate 65 0, [], []⟩ = false)
  | 7, _ => (by decide +kernel : mayD2 ⟨65, 3, 0, [], [], [], [], 9, 9, 64, [], [4, 4], []⟩ = false)
  | 8, _ => (by decide +kernel : mayD2 ⟨65, 4, 0, [], [], [], [], 9, 9, 64, [], [], List.replicate 5 []⟩ = false)
  | n + 9, h => by omega
theorem badB_in (w : World) (g6 g7 g8 : Nat) (h6 : Row w (some ⟨g6, 0, none⟩) 65 65 (List.replicate 65 0)) (h7 : RowW w (some ⟨g7, 0, none⟩) 2 2 [4, 4]) (h8 : RowR w (some ⟨g8, 0, none⟩) 5 5 (List.replicate 5 ⟨none, 0, 0, []⟩)) : ∀ i, i < 9 → (badB g6 g7 g8 i).In w
  | 0, _ => ⟨(by decide : (0 : Int) ≤ 64 ∧ (64 : Int) < 18446744073709551616), (by decide : (-9223372036854775808 : Int) ≤ 1 ∧ (1 : Int) < 9223372036854775808), (by decide : (0 : Int) ≤ 0 ∧ (0 : Int) < 256), RowG.nil _ _, RowW.nil _, RowW.nil _, RowW.nil _, Row.nil _, RowW.nil _, RowR.nil _⟩
  | 1, _ => ⟨(by decide : (0 : Int) ≤ 65 ∧ (65 : Int) < 18446744073709551616), (by decide : (-9223372036854775808 : Int) ≤ 5 ∧ (5 : Int) < 9223372036854775808), (by decide : (0 : Int) ≤ 0 ∧ (0 : Int) < 256), RowG.nil _ _, RowW.nil _, RowW.nil _, RowW.nil _, Row.nil _, RowW.nil _, RowR.nil _⟩
  | 2, _ => ⟨(by decide : (0 : Int) ≤ 65 ∧ (65 : Int) < 18446744073709551616), (by decide : (-9223372036854775808 : Int) ≤ 1 ∧ (1 : Int) < 9223372036854775808), (by decide : (0 : Int) ≤ 0 ∧ (0 : Int) < 256), RowG.nil _ _, RowW.nil _, RowW.nil _, RowW.nil _, Row.nil _, RowW.nil _, RowR.nil _⟩
  | 3, _ => ⟨(by decide : (0 : Int) ≤ 65 ∧ (65 : Int) < 18446744073709551616), (by decide : (-9223372036854775808 : Int) ≤ 1 ∧ (1 : Int) < 9223372036854775808), (by decide : (0 : Int) ≤ 0 ∧ (0 : Int) < 256), RowG.nil _ _, RowW.nil _, RowW.nil _, RowW.nil _, Row.nil _, RowW.nil _, RowR.nil _⟩
  | 4, _ => ⟨(by decide : (0 : Int) ≤ 65 ∧ (65 : Int) < 18446744073709551616), (by decide : (-9223372036854775808 : Int) ≤ 1 ∧ (1 : Int) < 9223372036854775808), (by decide : (0 : Int) ≤ 0 ∧ (0 : Int) < 256), RowG.nil _ _, RowW.nil _, RowW.nil _, RowW.nil _, Row.nil _, RowW.nil _, RowR.nil _⟩
  | 5, _ => ⟨(by decide : (0 : Int) ≤ 65 ∧ (65 : Int) < 18446744073709551616), (by decide : (-9223372036854775808 : Int) ≤ 1 ∧ (1 : Int) < 9223372036854775808), (by decide : (0 : Int) ≤ 0 ∧ (0 : Int) < 256), RowG.nil _ _, RowW.nil _, RowW.nil _, RowW.nil _, Row.nil _, RowW.nil _, RowR.nil _⟩
  | 6, _ => ⟨(by decide : (0 : Int) ≤ 65 ∧ (65 : Int) < 18446744073709551616), (by decide : (-9223372036854775808 : Int) ≤ 2 ∧ (2 : Int) < 9223372036854775808), (by decide : (0 : Int) ≤ 0 ∧ (0 : Int) < 256), RowG.nil _ _, RowW.nil _, RowW.nil _, RowW.nil _, h6, RowW.nil _, RowR.nil _⟩
  | 7, _ => ⟨(by decide : (0 : Int) ≤ 65 ∧ (65 : Int) < 18446744073709551616), (by decide : (-9223372036854775808 : Int) ≤ 3 ∧ (3 : Int) < 9223372036854775808), (by decide : (0 : Int) ≤ 0 ∧ (0 : Int) < 256), RowG.nil _ _, RowW.nil _, RowW.nil _, RowW.nil _, Row.nil _, h7, RowR.nil _⟩
  | 8, _ => ⟨(by decide : (0 : Int) ≤ 65 ∧ (65 : Int) < 18446744073709551616), (by decide : (-9223372036854775808 : Int) ≤ 4 ∧ (4 : Int) < 9223372036854775808), (by decide : (0 : Int) ≤ 0 ∧ (0 : Int) < 256), RowG.nil _ _, RowW.nil _, RowW.nil _, RowW.nil _, Row.nil _, RowW.nil _, h8⟩
  | n + 9, h => by omega

theorem star_no : mayD2 ⟨65, 1, 0, [], [], [], [1], 9, 9, 64, [], [], []⟩ = false := by decide +kernel
theorem okB_len : (encD2 okB.od).length = 19 := by decide +kernel
theorem okB_one : tE2 ((encD2 okB.od).set 0 1) = 2 := by decide +kernel
theorem tE2_nil : tE2 [] = 3 := by decide +kernel
/-- The one that may be at g, the nine at h. -/
structure BSt (w W : World) (g h : Nat) (f : Nat → Ob) : Prop where
  ok : ObAt W g okB
  bel : Below w.heap.size w W
  bad : BadAt W h f
theorem BSt.below {w W V : World} {g h : Nat} {f : Nat → Ob} (s : BSt w W g h f) (hb : Below W.heap.size W V) : BSt w V g h f := ⟨s.ok.below hb, ext_trans s.bel hb, s.bad.below hb⟩
theorem BSt.set {w W : World} {g h : Nat} {f : Nat → Ob} (s : BSt w W g h f) (hne : g ≠ h) (hle : w.heap.size ≤ h) (i c : Nat) (hi : i < 9) (hc : c < 13) (v : Value) (y : Ob) (hy : (cellsOb (f i)).set c v = cellsOb y) :
    BSt w (W.setCell ⟨h, i * 13 + c, none⟩ v) g h (fun j => if j = i then y else f j) :=
  ⟨s.ok.grown (grown_setO _ _ _ _) hne, s.bel.setCell hle _, s.bad.set i c hi hc v y hy⟩
set_option maxHeartbeats 8000000 in
theorem object2Bounds_walk (w : World) : Calls Try.prog 6 #[] w fun e w' => e = .returned (.bool true) ∧ Below w.heap.size w w' := by
  obtain ⟨Z, hZ, hz⟩ := zero9
  go_enter Try.func6, Try.ntmps6
  go_wp2_with fail
  refine (begun18_true _).mono ?_
  rintro e w1 ⟨rfl, b1⟩
  go_wp2_with fail
  obtain ⟨W, hW⟩ : ∃ W, W = (w1.alloc (.cells #[.int .u64 65, .int .i64 1, .int .u8 0, .slice none 0 0, .slice none 0 0, .slice none 0 0, .slice none 0 0, .int .i64 9, .int .i64 9, .int .i64 64, .slice none 0 0, .slice none 0 0, .slice none 0 0] 32)).alloc (.cells Z 44) := ⟨_, rfl⟩
  have hok : ObAt W w1.heap.size okB := by rw [hW]; exact (ObAt.new w1 okB).below (below_alloc _ _)
  have hbW : Below w.heap.size w W := by rw [hW]; exact ext_trans b1 (ext_trans (below_alloc _ _) (below_alloc _ _))
  obtain ⟨h, hh⟩ : ∃ h, h = w1.heap.size + 1 := ⟨_, rfl⟩
  have hth : W.there h 0 117 := by
    have e : (w1.alloc (.cells #[.int .u64 65, .int .i64 1, .int .u8 0, .slice none 0 0, .slice none 0 0, .slice none 0 0, .slice none 0 0, .int .i64 9, .int .i64 9, .int .i64 64, .slice none 0 0, .slice none 0 0, .slice none 0 0] 32)).heap.size = h := by rw [hh]; simp
    have hn : W.heap[h]? = some (.cells Z 44 (0, 0)) := by rw [hW, ← e]; exact heap_alloc_new _ _
    intro j hj
    have hlt : 0 + j < Z.size := by omega
    exact ⟨by rw [cellOb hn (Array.getElem?_eq_getElem hlt)]; rfl, frozen_of_row W h _ _ _ hn⟩
  have hne : w1.heap.size ≠ h := by omega
  have hw1 := b1.size
  have HWW : Hid ((w1.alloc (.cells #[.int .u64 65, .int .i64 1, .int .u8 0, .slice none 0 0, .slice none 0 0, .slice none 0 0, .slice none 0 0, .int .i64 9, .int .i64 9, .int .i64 64, .slice none 0 0, .slice none 0 0, .slice none 0 0] 32)).alloc (.cells Z 44) = W) := hW.symm
  rw [HWW.out]
  rw [← hh]
  have HH : Hid (h = w1.heap.size + 1) := hh
  clear hW hh
  go_loopw [3] (fun s3 wr => ∃ j : Nat, j ≤ 9 ∧ s3 = .int .i64 j ∧ ObAt wr w1.heap.size okB ∧ Below w.heap.size w wr ∧ wr.there h 0 117 ∧ ∀ i, i < j → wr.rangeAt h (i * 13) (cellsOb okB)) (fun s3 _ => 9 - (intOf s3).toNat)
  case atStart => exact ⟨0, by omega, rfl, hok, hbW, hth, fun i hi => by omega⟩
  case round =>
    obtain ⟨j, hj, rfl, ho, hbr, ht, hrg⟩ := hrel
    by_cases h9 : j < 9
    · have h9' : (j : Int) < 9 := by omega
      obtain ⟨c0, c1, c2, c3, c4, c5, c6, c7, c8, c9, c10, c11, c12⟩ := ho.cells
      unfold okB at c0 c1 c2 c3 c4 c5 c6 c7 c8 c9 c10 c11 c12
      dsimp only at c0 c1 c2 c3 c4 c5 c6 c7 c8 c9 c10 c11 c12
      have ht13 : wr.there h (j * 13) 13 := fun k hk => by
        have := ht (j * 13 + k) (by omega)
        rwa [Nat.zero_add] at this
      go_wp2_with (refine wpList_store_mid rfl 32 (.tmp 25) (.tmp 24) rfl _ _ _ rfl rfl ?_ (by kernel_rfl) (by kernel_rfl) ?_)
      · exact ht13
      go_roundw
      case rel =>
        have hwl := hbr.size
        have hlo := ho.lt
        refine ⟨j + 1, by omega, by go_num, ?_, below_setCells9 (by have := HH.out; omega) _ _ _ hbr, World.there_setCells ht _ _ _, fun i hi => ?_⟩
        · exact (World.heap_setCells_other _ _ _ _ hlo hne).trans ho
        · by_cases e : i = j
          · subst e
            exact World.rangeAt_setCells_same _ _ _ _ ht13
          · refine World.rangeAt_setCells_apart (hrg i (by omega)) _ _ _ (.inr ?_)
            have hl : (cellsOb okB).length = 13 := rfl
            rw [hl]
            show i * 13 + 13 ≤ j * 13 ∨ j * 13 + 13 ≤ i * 13
            omega
      case measure => simp [intOf]; omega
    · obtain rfl : j = 9 := by omega
      have hB : BadAt wr h (fun _ => okB) := ⟨ht, hrg⟩
      have hlh := hB.lt
      clear ht hrg hj h9 hth
      rw [show ((9 : Nat) : Int) = 9 from rfl]
      have k0 : wr.cell? ⟨h, 0, none⟩ = some (.int .u64 65) := hB.cell 0 0 (by omega) rfl
      have k1 : wr.cell? ⟨h, 14, none⟩ = some (.int .i64 1) := hB.cell 1 1 (by omega) rfl
      have k2 : wr.cell? ⟨h, 34, none⟩ = some (.int .i64 9) := hB.cell 2 8 (by omega) rfl
      have k3 : wr.cell? ⟨h, 46, none⟩ = some (.int .i64 9) := hB.cell 3 7 (by omega) rfl
      have k4 : wr.cell? ⟨h, 61, none⟩ = some (.int .i64 64) := hB.cell 4 9 (by omega) rfl
      have k5 : wr.cell? ⟨h, 74, none⟩ = some (.int .i64 64) := hB.cell 5 9 (by omega) rfl
      have f0 := hB.fz 0 (by omega)
      have f1 := hB.fz 14 (by omega)
      have f2 := hB.fz 34 (by omega)
      have f3 := hB.fz 46 (by omega)
      have f4 := hB.fz 61 (by omega)
      have f5 := hB.fz 74 (by omega)
      have hle : w.heap.size ≤ h := by have := HH.out; omega
      have S0 : BSt w wr w1.heap.size h (fun _ => okB) := ⟨ho, hbr, hB⟩
      have S1 := S0.set hne hle 0 0 (by omega) (by omega) (.int .u64 64) { okB with i := 64 } rfl
      have S2 := S1.set hne hle 1 1 (by omega) (by omega) (.int .i64 5) { okB with k := 5 } rfl
      have S3 := S2.set hne hle 2 8 (by omega) (by omega) (.int .i64 10) { okB with u := 10 } rfl
      have S4 := S3.set hne hle 3 7 (by omega) (by omega) (.int .i64 401) { okB with q := 401 } rfl
      have S5 := S4.set hne hle 4 9 (by omega) (by omega) (.int .i64 0) { okB with n := 0 } rfl
      have S6 := S5.set hne hle 5 9 (by omega) (by omega) (.int .i64 65) { okB with n := 65 } rfl
      go_wp2_with fail
      obtain ⟨W6, hW6⟩ : ∃ V, V = (((((wr.setCell ⟨h, 0, none⟩ (.int .u64 64)).setCell ⟨h, 14, none⟩ (.int .i64 5)).setCell ⟨h, 34, none⟩ (.int .i64 10)).setCell ⟨h, 46, none⟩ (.int .i64 401)).setCell ⟨h, 61, none⟩ (.int .i64 0)).setCell ⟨h, 74, none⟩ (.int .i64 65) := ⟨_, rfl⟩
      have T6 : BSt w W6 w1.heap.size h _ := hW6 ▸ S6
      rw [← hW6]
      clear hW6 S0 S1 S2 S3 S4 S5 S6 hB ho hbr k0 k1 k2 k3 k4 k5 f0 f1 f2 f3 f4 f5 hlh
      have k0 : W6.cell? ⟨h, 79, none⟩ = some (.int .i64 1) := T6.bad.cell 6 1 (by omega) rfl
      have k1 : W6.cell? ⟨h, 88, none⟩ = some (.slice none 0 0) := T6.bad.cell 6 10 (by omega) rfl
      have f0 := T6.bad.fz 79 (by omega)
      have f1 := T6.bad.fz 88 (by omega)
      have hlh := T6.bad.lt
      have hmk := make65
      go_region
      obtain ⟨W7, hW7⟩ : ∃ V, V = (((W6.setCell ⟨h, 79, none⟩ (.int .i64 2)).setCell ⟨h, 88, none⟩ (.slice (some ⟨W6.heap.size, 0, none⟩) 65 65)).alloc (.cells (madeCells #[.int .u8 0] 65) 5)).drew := ⟨_, rfl⟩
      have T7 := (((T6.set hne hle 6 1 (by omega) (by omega) (.int .i64 2) { okB with k := 2 } rfl).set hne hle 6 10 (by omega) (by omega) (.slice (some ⟨W6.heap.size, 0, none⟩) 65 65) { okB with k := 2, a10 := some ⟨W6.heap.size, 0, none⟩, n10 := 65, m10 := 65, xs := List.replicate 65 0 } rfl).below (below_alloc _ (.cells (madeCells #[.int .u8 0] 65) 5))).below (ext_drew _)
      have r6 : Row (((W6.setCell ⟨h, 79, none⟩ (.int .i64 2)).setCell ⟨h, 88, none⟩ (.slice (some ⟨W6.heap.size, 0, none⟩) 65 65)).alloc (.cells (madeCells #[.int .u8 0] 65) 5)).drew (some ⟨W6.heap.size, 0, none⟩) 65 65 (List.replicate 65 0) := by
        rw [made65]
        exact (row_lit_at _ W6.heap.size (by simp [World.setCell]) 5 (List.replicate 65 (0 : Int)) 65 (by simp) (by omega) (fun y hy => by have := List.eq_of_mem_replicate hy; subst this; decide)).below (ext_drew _)
      have hb67 : W6.heap.size < W7.heap.size := by rw [hW7]; simp [World.setCell, World.drew]
      replace T7 : BSt w W7 w1.heap.size h _ := hW7 ▸ T7
      rw [← hW7] at r6 ⊢
      clear hW7 k0 k1 f0 f1 hmk
      have hl6 : h < W6.heap.size := hlh
      have k0 : W7.cell? ⟨h, 92, none⟩ = some (.int .i64 1) := T7.bad.cell 7 1 (by omega) rfl
      have k1 : W7.cell? ⟨h, 102, none⟩ = some (.slice none 0 0) := T7.bad.cell 7 11 (by omega) rfl
      have f0 := T7.bad.fz 92 (by omega)
      have f1 := T7.bad.fz 102 (by omega)
      have hl7 := T7.bad.lt
      go_wp2_with fail
      have T8 := ((T7.set hne hle 7 1 (by omega) (by omega) (.int .i64 3) { okB with k := 3 } rfl).set hne hle 7 11 (by omega) (by omega) (.slice (some ⟨W7.heap.size, 0, none⟩) 2 2) { okB with k := 3, a11 := some ⟨W7.heap.size, 0, none⟩, n11 := 2, m11 := 2, cs := [4, 4] } rfl).below (below_alloc _ (.cells #[.int .u16 4, .int .u16 4] 42))
      have hs8 : ((W7.setCell ⟨h, 92, none⟩ (.int .i64 3)).setCell ⟨h, 102, none⟩ (.slice (some ⟨W7.heap.size, 0, none⟩) 2 2)).heap.size = W7.heap.size := by simp [World.setCell]
      have r7 := roww_lit ((W7.setCell ⟨h, 92, none⟩ (.int .i64 3)).setCell ⟨h, 102, none⟩ (.slice (some ⟨W7.heap.size, 0, none⟩) 2 2)) 42 [4, 4] 2 rfl (by omega) (fun y hy => by simp at hy; subst hy; decide)
      rw [hs8] at r7
      have r68 := (rowL_grown (rowL_grown r6 (grown_setO W7 h 92 (.int .i64 3)) (fun _ y hy e => by obtain rfl := Option.some.inj hy; simp at e; omega)) (grown_setO _ h 102 (.slice (some ⟨W7.heap.size, 0, none⟩) 2 2)) (fun _ y hy e => by obtain rfl := Option.some.inj hy; simp at e; omega)).below (below_alloc _ (.cells #[.int .u16 4, .int .u16 4] 42))
      obtain ⟨W8, hW8⟩ : ∃ V, V = ((W7.setCell ⟨h, 92, none⟩ (.int .i64 3)).setCell ⟨h, 102, none⟩ (.slice (some ⟨W7.heap.size, 0, none⟩) 2 2)).alloc (.cells #[.int .u16 4, .int .u16 4] 42) := ⟨_, rfl⟩
      have hb78 : W7.heap.size < W8.heap.size := by rw [hW8]; simp [World.setCell]
      replace T8 : BSt w W8 w1.heap.size h _ := hW8 ▸ T8
      replace r7 : RowW W8 (some ⟨W7.heap.size, 0, none⟩) 2 2 [4, 4] := hW8 ▸ r7
      replace r6 : Row W8 (some ⟨W6.heap.size, 0, none⟩) 65 65 (List.replicate 65 0) := hW8 ▸ r68
      rw [← hW8]
      clear hW8 k0 k1 f0 f1 hs8 r68 T7
      have k0 : W8.cell? ⟨h, 105, none⟩ = some (.int .i64 1) := T8.bad.cell 8 1 (by omega) rfl
      have k1 : W8.cell? ⟨h, 116, none⟩ = some (.slice none 0 0) := T8.bad.cell 8 12 (by omega) rfl
      have f0 := T8.bad.fz 105 (by omega)
      have f1 := T8.bad.fz 116 (by omega)
      have hl8 := T8.bad.lt
      have hmk := make5
      go_region
      have T9 := (((T8.set hne hle 8 1 (by omega) (by omega) (.int .i64 4) { okB with k := 4 } rfl).set hne hle 8 12 (by omega) (by omega) (.slice (some ⟨W8.heap.size, 0, none⟩) 5 5) { okB with k := 4, a12 := some ⟨W8.heap.size, 0, none⟩, n12 := 5, m12 := 5, ls := List.replicate 5 ⟨none, 0, 0, []⟩ } rfl).below (below_alloc _ (.cells (madeCells #[.slice none 0 0] 5) 29))).below (ext_drew _)
      have r8 : RowR (((W8.setCell ⟨h, 105, none⟩ (.int .i64 4)).setCell ⟨h, 116, none⟩ (.slice (some ⟨W8.heap.size, 0, none⟩) 5 5)).alloc (.cells (madeCells #[.slice none 0 0] 5) 29)).drew (some ⟨W8.heap.size, 0, none⟩) 5 5 (List.replicate 5 ⟨none, 0, 0, []⟩) := by
        refine RowR.below ⟨(owng_lit ReL ((W8.setCell ⟨h, 105, none⟩ (.int .i64 4)).setCell ⟨h, 116, none⟩ (.slice (some ⟨W8.heap.size, 0, none⟩) 5 5)) 29 (List.replicate 5 ⟨none, 0, 0, []⟩) (madeCells #[.slice none 0 0] 5) (by rw [made5]; rfl) 5 rfl (by omega) (ReL.all _) W8.heap.size 0 (by simp [World.setCell]) (by omega)).row, fun p hp => ?_⟩ (ext_drew _)
        have := List.eq_of_mem_replicate hp
        subst this
        exact Row.nil _
      have r79 := RowW.below (RowW.below (RowW.grown (RowW.grown r7 (grown_setO W8 h 105 (.int .i64 4)) (fun y hy e => by obtain rfl := Option.some.inj hy; simp at e; omega)) (grown_setO _ h 116 (.slice (some ⟨W8.heap.size, 0, none⟩) 5 5)) (fun y hy e => by obtain rfl := Option.some.inj hy; simp at e; omega)) (below_alloc _ (.cells (madeCells #[.slice none 0 0] 5) 29))) (ext_drew _)
      have r69 := ((rowL_grown (rowL_grown r6 (grown_setO W8 h 105 (.int .i64 4)) (fun _ y hy e => by obtain rfl := Option.some.inj hy; simp at e; omega)) (grown_setO _ h 116 (.slice (some ⟨W8.heap.size, 0, none⟩) 5 5)) (fun _ y hy e => by obtain rfl := Option.some.inj hy; simp at e; omega)).below (below_alloc _ (.cells (madeCells #[.slice none 0 0] 5) 29))).below (ext_drew _)
      obtain ⟨W9, hW9⟩ : ∃ V, V = (((W8.setCell ⟨h, 105, none⟩ (.int .i64 4)).setCell ⟨h, 116, none⟩ (.slice (some ⟨W8.heap.size, 0, none⟩) 5 5)).alloc (.cells (madeCells #[.slice none 0 0] 5) 29)).drew := ⟨_, rfl⟩
      replace T9 : BSt w W9 w1.heap.size h _ := hW9 ▸ T9
      rw [← hW9] at r8 r79 r69 ⊢
      have U9 : BSt w W9 w1.heap.size h (badB W6.heap.size W7.heap.size W8.heap.size) := ⟨T9.ok, T9.bel, T9.bad.congr fun i hi => by
        obtain rfl | rfl | rfl | rfl | rfl | rfl | rfl | rfl | rfl : i = 0 ∨ i = 1 ∨ i = 2 ∨ i = 3 ∨ i = 4 ∨ i = 5 ∨ i = 6 ∨ i = 7 ∨ i = 8 := by omega
        all_goals rfl⟩
      have hIn := badB_in W9 _ _ _ r69 r79 r8
      have HC : Hid (∀ V, Below W9.heap.size W9 V → BSt w V w1.heap.size h (badB W6.heap.size W7.heap.size W8.heap.size) ∧ ∀ i, i < 9 → (badB W6.heap.size W7.heap.size W8.heap.size i).In V ∧ mayD2 (badB W6.heap.size W7.heap.size W8.heap.size i).od = false) :=
        fun V hV => ⟨U9.below hV, fun i hi => ⟨(hIn i hi).below hV, badB_may _ _ _ i hi⟩⟩
      clear hW9 k0 k1 f0 f1 hmk T8 T9 r6 r7 r8 r69 r79 hIn U9 hb67 hb78 hl6 hl7 hl8 hlh
      go_wp2_with fail
      go_loopw [4, 5, 6] (fun s4 s5 s6 V => ∃ j : Nat, j ≤ 9 ∧ s4 = .int .i64 j ∧ (∃ z : Value, s5 = z) ∧ (∃ z : Value, s6 = z) ∧ Below W9.heap.size W9 V) (fun s4 _ _ _ => 9 - (intOf s4).toNat)
      case atStart => exact ⟨0, by omega, rfl, ⟨_, rfl⟩, ⟨_, rfl⟩, Below.refl _ _⟩
      case round =>
        rename_i V
        obtain ⟨j, hj, rfl, ⟨_, rfl⟩, ⟨_, rfl⟩, hbV⟩ := hrel
        obtain ⟨hS, hI⟩ := HC.out _ hbV
        by_cases h9 : j < 9
        · have h9' : (j : Int) < 9 := by omega
          obtain ⟨hIj, hmj⟩ := hI j h9
          have hrg := hS.bad.at_ j h9
          generalize badB W6.heap.size W7.heap.size W8.heap.size j = x at hIj hmj hrg
          have hp := obPut2_any x _ hIj
          rw [hmj] at hp
          clear hS hI
          go_wp2_with (refine wpList_load_mid rfl 32 (.tmp 59) rfl _ _ rfl (cellsOb x) _ hrg Try.underlying32 rfl (by kernel_rfl) ?_)
          refine hp.mono ?_
          rintro e V2 ⟨a, n, c, E, rfl, b2, hh⟩
          rcases hh.symm with ⟨_, rfl, rfl, rfl, rfl⟩ | ⟨hh, _⟩
          · go_wp2_with fail
            go_roundw
            case rel => exact ⟨j + 1, by omega, by go_num, ⟨_, rfl⟩, ⟨_, rfl⟩, ext_trans hbV b2⟩
            case measure => simp [intOf]; omega
          · exact absurd hh (by simp)
        · obtain rfl : j = 9 := by omega
          have hok := hS.ok
          have bel := hS.bel
          clear hS hI hj h9 HC hbV
          rw [show ((9 : Nat) : Int) = 9 from rfl]
          obtain ⟨c0, c1, c2, c3, c4, c5, c6, c7, c8, c9, c10, c11, c12⟩ := hok.cells
          unfold okB at c0 c1 c2 c3 c4 c5 c6 c7 c8 c9 c10 c11 c12
          dsimp only at c0 c1 c2 c3 c4 c5 c6 c7 c8 c9 c10 c11 c12
          have hst : RowW ((wr.alloc (.cells #[.int .u64 65, .int .i64 1, .int .u8 0, .slice none 0 0, .slice none 0 0, .slice none 0 0, .slice (some ⟨wr.heap.size + 1, 0, none⟩) 1 1, .int .i64 9, .int .i64 9, .int .i64 64, .slice none 0 0, .slice none 0 0, .slice none 0 0] 32)).alloc (.cells #[.int .u16 1] 42)) (some ⟨wr.heap.size + 1, 0, none⟩) 1 1 [1] := by
            have h1 := roww_lit (wr.alloc (.cells #[.int .u64 65, .int .i64 1, .int .u8 0, .slice none 0 0, .slice none 0 0, .slice none 0 0, .slice (some ⟨wr.heap.size + 1, 0, none⟩) 1 1, .int .i64 9, .int .i64 9, .int .i64 64, .slice none 0 0, .slice none 0 0, .slice none 0 0] 32)) 42 [1] 1 rfl (by omega) (fun y hy => by simp at hy; subst hy; decide)
            rw [show (wr.alloc (.cells #[.int .u64 65, .int .i64 1, .int .u8 0, .slice none 0 0, .slice none 0 0, .slice none 0 0, .slice (some ⟨wr.heap.size + 1, 0, none⟩) 1 1, .int .i64 9, .int .i64 9, .int .i64 64, .slice none 0 0, .slice none 0 0, .slice none 0 0] 32)).heap.size = wr.heap.size + 1 by simp] at h1
            exact h1
          obtain ⟨WS, hWS⟩ : ∃ U, U = (wr.alloc (.cells #[.int .u64 65, .int .i64 1, .int .u8 0, .slice none 0 0, .slice none 0 0, .slice none 0 0, .slice (some ⟨wr.heap.size + 1, 0, none⟩) 1 1, .int .i64 9, .int .i64 9, .int .i64 64, .slice none 0 0, .slice none 0 0, .slice none 0 0] 32)).alloc (.cells #[.int .u16 1] 42) := ⟨_, rfl⟩
          have HWS : Hid (WS = (wr.alloc (.cells #[.int .u64 65, .int .i64 1, .int .u8 0, .slice none 0 0, .slice none 0 0, .slice none 0 0, .slice (some ⟨wr.heap.size + 1, 0, none⟩) 1 1, .int .i64 9, .int .i64 9, .int .i64 64, .slice none 0 0, .slice none 0 0, .slice none 0 0] 32)).alloc (.cells #[.int .u16 1] 42)) := hWS
          have bS : Below wr.heap.size wr WS := by rw [hWS]; exact ext_trans (below_alloc _ _) (below_alloc _ _)
          rw [← hWS] at hst
          have hxs : Ob.In WS { okB with a6 := some ⟨wr.heap.size + 1, 0, none⟩, n6 := 1, m6 := 1, vc := [1] } := ⟨(⟨by decide, by decide⟩ : U 65), (by decide : (-9223372036854775808 : Int) ≤ 1 ∧ (1 : Int) < 9223372036854775808), (by decide : (0 : Int) ≤ 0 ∧ (0 : Int) < 256), RowG.nil _ _, RowW.nil _, RowW.nil _, hst, Row.nil _, RowW.nil _, RowR.nil _⟩
          have hp := obPut2_any _ WS hxs
          rw [show Ob.od { okB with a6 := some ⟨wr.heap.size + 1, 0, none⟩, n6 := 1, m6 := 1, vc := [1] } = ⟨65, 1, 0, [], [], [], [1], 9, 9, 64, [], [], []⟩ from rfl, star_no] at hp
          dsimp only at hp
          replace hok := hok.below bS
          replace bel := ext_trans bel bS
          clear hWS hst hxs bS
          go_wp2_with fail
          rw [← HWS.out]
          refine hp.mono ?_
          rintro e V2 ⟨a, n, c, E, rfl, b2, hh⟩
          rcases hh with ⟨hh, _⟩ | ⟨_, rfl, rfl, rfl, rfl⟩
          · exact absurd hh (by simp)
          replace hok := hok.below b2
          replace bel := ext_trans bel b2
          clear hp b2 c0 c1 c2 c3 c4 c5 c6 c7 c8 c9 c10 c11 c12
          obtain ⟨c0, c1, c2, c3, c4, c5, c6, c7, c8, c9, c10, c11, c12⟩ := hok.cells
          unfold okB at c0 c1 c2 c3 c4 c5 c6 c7 c8 c9 c10 c11 c12
          dsimp only at c0 c1 c2 c3 c4 c5 c6 c7 c8 c9 c10 c11 c12
          have hp := obPut2_any okB V2 (okB_in V2)
          go_wp2_with fail
          refine hp.mono ?_
          rintro e V3 ⟨a, n, c, E, rfl, b3, hh⟩
          rcases hh.symm with ⟨hh, _⟩ | ⟨_, rfl, g, rfl, o⟩
          · rw [okB_may] at hh; exact absurd hh (by simp)
          have hn : n = 19 := by have := o.row.len; rw [okB_len] at this; omega
          subst hn
          have o2 := o.setR 0 1 (by omega)
          have k0 := o.cell 0 (by omega)
          obtain ⟨cur, hcur, _⟩ := o.block
          have fz := frozen_of_row V3 g 0 _ _ hcur
          have hg := o.lt
          have bel3 := ext_trans bel b3
          have bel4 : Below w.heap.size w (V3.setCell ⟨g, 0, none⟩ (.int .u8 1)) := bel3.setCell (show w.heap.size ≤ g by have := bel.size; omega) _
          have ht := takeN_any _ 19 c _ _ o2.row (by omega)
          rw [okB_one] at ht
          generalize (encD2 okB.od).getD 0 0 = X0 at k0
          clear hp o o2 hcur bel3 b3 bel hok
          go_wp2_with fail
          refine ht.mono ?_
          rintro e V4 ⟨x4, rfl, b4, -, -⟩
          replace b4 := ext_trans (ext_trans bel4 b4) (below_alloc V4 (.cells #[.int .u64 x4.i, .int .i64 x4.k, .int .u8 x4.d, .slice x4.a3 x4.n3 x4.m3, .slice x4.a4 x4.n4 x4.m4, .slice x4.a5 x4.n5 x4.m5, .slice x4.a6 x4.n6 x4.m6, .int .i64 x4.q, .int .i64 x4.u, .int .i64 x4.n, .slice x4.a10 x4.n10 x4.m10, .slice x4.a11 x4.n11 x4.m11, .slice x4.a12 x4.n12 x4.m12] 32))
          have ht2 := takeN_any none 0 0 [] (V4.alloc (.cells #[.int .u64 x4.i, .int .i64 x4.k, .int .u8 x4.d, .slice x4.a3 x4.n3 x4.m3, .slice x4.a4 x4.n4 x4.m4, .slice x4.a5 x4.n5 x4.m5, .slice x4.a6 x4.n6 x4.m6, .int .i64 x4.q, .int .i64 x4.u, .int .i64 x4.n, .slice x4.a10 x4.n10 x4.m10, .slice x4.a11 x4.n11 x4.m11, .slice x4.a12 x4.n12 x4.m12] 32)) (Row.nil _) (by omega)
          rw [tE2_nil] at ht2
          clear ht bel4 fz k0
          go_wp2_with fail
          refine ht2.mono ?_
          rintro e V5 ⟨x5, rfl, b5, -, -⟩
          replace b5 := ext_trans b4 b5
          go_wp2_with fail
          go_ret
          exact ⟨rfl, ext_trans b5 (below_alloc _ _)⟩
end Go.Proofs.Ytkmpmljohjelhaa
