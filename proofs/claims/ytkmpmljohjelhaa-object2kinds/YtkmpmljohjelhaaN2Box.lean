/- What obj2.takeVersion, takeKind and takeBox answer: contracts. -/
import Derived.Test.YtkmpmljohjelhaaObjSet
import Derived.Test.YtkmpmljohjelhaaN2Read
import Derived.BigQuiet
namespace Go.Proofs.Ytkmpmljohjelhaa
open Go.RowKit
set_option maxRecDepth 100000
set_option linter.unusedVariables false

theorem RowN.from {w : World} {a : Option Addr} {n cap : Nat} {xs : List Int} (h : Row w a n cap xs) (k : Nat) (hk : k ≤ n) : Row w (if cap = k then a else a.map (fun x => x.add k)) (n - k) (cap - k) (xs.drop k) := by
  have hc := h.cap_le
  have hl := h.len
  by_cases h0 : n = k
  · subst h0
    have hnil : xs.drop n = [] := by rw [List.drop_eq_nil_iff]; omega
    rw [hnil, Nat.sub_self]
    cases a with
    | none =>
      have := h.2.2.2.2.1 rfl
      obtain ⟨rfl, rfl⟩ := this
      simpa using Row.nil w
    | some x =>
      by_cases hcn : cap = n
      · rw [if_pos hcn]; exact Row.none_of _ _ _ (by omega)
      · rw [if_neg hcn]; exact Row.none_of _ _ _ (by omega)
  · obtain ⟨b, off, rfl, _⟩ := h.at (by omega)
    rw [if_neg (by omega), Option.map_some, add_pl]
    exact h.fromR k hk
theorem oneN_of (z : List Int) (hb : Byt z) (h : 1 ≤ z.length) : takeV z 1 = z.getD 0 0 ∧ takeE z 1 = 0 := by
  refine ⟨?_, ?_⟩
  · unfold takeV
    rw [if_neg (by omega)]
    match z, h with
    | x :: r, _ => simp [num]
  · unfold takeE
    rw [if_neg (by omega), if_neg (by omega)]
theorem takeN_no (z : List Int) (m : Nat) (hm : m ≤ 8) (h : z.length < m) : takeV z (m : Int) = 0 ∧ takeE z (m : Int) = 3 := by
  refine ⟨?_, ?_⟩
  · unfold takeV; rw [if_pos (by omega)]
  · unfold takeE; rw [if_neg (by omega), if_pos (by omega)]
theorem takeN_yes (z : List Int) (m : Nat) (hm : m ≤ 8) (h : m ≤ z.length) : takeV z (m : Int) = num (z.take m) ∧ takeE z (m : Int) = 0 := by
  refine ⟨?_, ?_⟩
  · unfold takeV; rw [if_neg (by omega)]; rfl
  · unfold takeE; rw [if_neg (by omega), if_neg (by omega)]

theorem takeVersion2_any (a : Option Addr) (len cap : Nat) (z : List Int) (w : World) (hr : Row w a len cap z) :
    Calls Try.prog 41 #[.slice a len cap] w fun e w' => e = .returned (.int .i64 (if len < 1 then 3 else if z.getD 0 0 ≠ 2 then 2 else 0)) ∧ w' = w := by
  have ht := take_any a len cap 1 z w hr
  have hl := hr.len
  have hB := hr.byt.get 0
  by_cases h : len < 1
  · have := takeN_no z 1 (by omega) (by omega)
    rw [show takeV z 1 = 0 from this.1, show takeE z 1 = 3 from this.2] at ht
    rw [if_pos h]
    go_enter Try.func41, Try.ntmps41
    go_wp2_with fail
    refine ht.mono ?_
    rintro e w ⟨rfl, rfl⟩
    go_wp2_with fail
    go_ret
    exact ⟨rfl, rfl⟩
  · obtain ⟨h1, h2⟩ := oneN_of z hr.byt (by omega)
    rw [h1, h2] at ht
    rw [if_neg h]
    clear h1 h2 hl
    generalize z.getD 0 0 = X at ht hB ⊢
    by_cases hx : X = 2
    · subst hx
      go_enter Try.func41, Try.ntmps41
      go_wp2_with fail
      refine ht.mono ?_
      rintro e w ⟨rfl, rfl⟩
      go_wp2_with fail
      go_ret
      exact ⟨rfl, rfl⟩
    · have hx' : (X == 2) = false := by simpa using hx
      have hx2 : (X != 2) = true := by simpa using hx
      rw [if_pos hx]
      go_enter Try.func41, Try.ntmps41
      go_wp2_with fail
      refine ht.mono ?_
      rintro e w ⟨rfl, rfl⟩
      go_wp2_with fail
      go_ret
      exact ⟨rfl, rfl⟩
theorem takeKind2_any (a : Option Addr) (len cap : Nat) (z : List Int) (w : World) (hr : Row w a len cap z) :
    Calls Try.prog 42 #[.slice a len cap] w fun e w' => e = .returned (.tuple #[.int .i64 (if len < 1 ∨ isK (z.getD 0 0) = false then 0 else z.getD 0 0), .int .i64 (if len < 1 then 3 else if isK (z.getD 0 0) = false then 2 else 0)]) ∧ w' = w := by
  have ht := take_any a len cap 1 z w hr
  have hl := hr.len
  have hB := hr.byt.get 0
  by_cases h : len < 1
  · have := takeN_no z 1 (by omega) (by omega)
    rw [show takeV z 1 = 0 from this.1, show takeE z 1 = 3 from this.2] at ht
    rw [if_pos h, if_pos (.inl h)]
    go_enter Try.func42, Try.ntmps42
    go_wp2_with fail
    refine ht.mono ?_
    rintro e w ⟨rfl, rfl⟩
    go_wp2_with fail
    go_ret2
    exact ⟨rfl, rfl⟩
  · obtain ⟨h1, h2⟩ := oneN_of z hr.byt (by omega)
    rw [h1, h2] at ht
    rw [if_neg h]
    clear h1 h2 hl
    generalize z.getD 0 0 = X at ht hB ⊢
    have wX : IntKind.i64.wrap X = X := Go.IntWalk.i64_in _ (by omega)
    have hk := isKind2_any X w
    cases hK : isK X
    · rw [hK] at hk
      rw [if_pos (.inr rfl), if_pos rfl]
      clear hK
      go_enter Try.func42, Try.ntmps42
      go_wp2_with fail
      refine ht.mono ?_
      rintro e w ⟨rfl, rfl⟩
      go_wp2_with fail
      refine hk.mono ?_
      rintro e w ⟨rfl, rfl⟩
      go_wp2_with fail
      go_ret2
      exact ⟨rfl, rfl⟩
    · rw [hK] at hk
      rw [if_neg (by simp [h]), if_neg (by simp)]
      clear hK
      go_enter Try.func42, Try.ntmps42
      go_wp2_with fail
      refine ht.mono ?_
      rintro e w ⟨rfl, rfl⟩
      go_wp2_with fail
      refine hk.mono ?_
      rintro e w ⟨rfl, rfl⟩
      go_wp2_with fail
      go_ret2
      exact ⟨rfl, rfl⟩

theorem owQ2_bd (z : List Int) (hb : Byt z) (j : Nat) : 0 ≤ owQ 1 z j ∧ owQ 1 z j < 65536 := num2_bd z hb j
set_option maxHeartbeats 2000000 in
theorem takeBox2_any (i' d : Int) (a3 : Option Addr) (n3 m3 : Nat) (a4 : Option Addr) (n4 m4 : Nat) (a5 : Option Addr) (n5 m5 : Nat) (a6 : Option Addr) (n6 m6 : Nat) (q u n : Int) (a10 : Option Addr) (n10 m10 : Nat) (a11 : Option Addr) (n11 m11 : Nat) (a12 : Option Addr) (n12 m12 : Nat) (ps : List (Int × Int)) (va vb vc xs cs : List Int) (ls : List Le) (k : Int) (a : Option Addr) (len cap : Nat) (z : List Int) (w : World) (g : Nat) (hr : Row w a len cap z) (hne : 0 < len → ∀ y, a = some y → y.block ≠ g) (hO : ObAt w g ⟨i', k, d, a3, n3, m3, a4, n4, m4, a5, n5, m5, a6, n6, m6, q, u, n, a10, n10, m10, a11, n11, m11, a12, n12, m12, ps, va, vb, vc, xs, cs, ls⟩) :
    Calls Try.prog 57 #[.slice a len cap, .pointer (some ⟨g, 0, none⟩)] w fun e w' => ∃ N E : Int, e = .returned (.tuple #[.int .i64 N, .int .i64 E]) ∧ w.grownBy w' (some g) ∧
      ((6 ≤ len ∧ N = 6 ∧ E = 0 ∧ ObAt w' g ⟨i', k, d, a3, n3, m3, a4, n4, m4, a5, n5, m5, a6, n6, m6, owQ 1 z 0, owQ 1 z 2, owQ 1 z 4, a10, n10, m10, a11, n11, m11, a12, n12, m12, ps, va, vb, vc, xs, cs, ls⟩) ∨ (len < 6 ∧ E = 3)) := by
  have hl := hO.lt
  have hcap := hr.cap_le
  have hlen := hr.len
  obtain ⟨W3, hW3⟩ : ∃ W3, W3 = (w.alloc (.cells #[.pointer (some ⟨g, 7, none⟩), .pointer (some ⟨g, 8, none⟩), .pointer (some ⟨g, 9, none⟩)] 89)).drew := ⟨_, rfl⟩
  have hb3 : Below w.heap.size w W3 := by rw [hW3]; exact ext_trans (below_alloc _ _) (ext_drew _)
  have h3 : W3.heap[w.heap.size]? = some (.cells #[.pointer (some ⟨g, 7, none⟩), .pointer (some ⟨g, 8, none⟩), .pointer (some ⟨g, 9, none⟩)] 89 (0, 0)) := by rw [hW3]; exact heap_alloc_new w _
  have HW3 : Hid ((w.alloc (.cells #[.pointer (some ⟨g, 7, none⟩), .pointer (some ⟨g, 8, none⟩), .pointer (some ⟨g, 9, none⟩)] 89)).drew = W3) := hW3.symm
  have hlt3 : w.heap.size < W3.heap.size := by rw [hW3]; simp [World.drew]
  clear hW3
  have HC : Hid (∀ V, W3.grownBy V (some g) → (V.cell? ⟨w.heap.size, 0, none⟩ = some (.pointer (some ⟨g, 7, none⟩)) ∧ V.cell? ⟨w.heap.size, 1, none⟩ = some (.pointer (some ⟨g, 8, none⟩)) ∧ V.cell? ⟨w.heap.size, 2, none⟩ = some (.pointer (some ⟨g, 9, none⟩))) ∧ Row V a len cap z ∧ w.grownBy V (some g)) :=
    fun V hV => by
      have hh := (hV.block _ hlt3 (by simp; omega)).trans h3
      exact ⟨⟨cellOb hh rfl, cellOb hh rfl, cellOb hh rfl⟩, rowL_grown (hr.below hb3) hV (fun h0 y hy e => hne h0 y hy (Option.some.inj e).symm), (grown_of hb3 _).trans hV⟩
  have hO3 := hO.below hb3
  clear h3 hb3
  go_enter Try.func57, Try.ntmps57
  go_wp2_with fail
  go_region
  rw [HW3.out]
  go_wp2_with fail
  go_loopw [4, 7, 8, 9, 21] (fun s4 s7 s8 s9 i wr => (∃ z : Value, s7 = z) ∧ (∃ z : Value, s8 = z) ∧ (∃ z : Value, s9 = z) ∧ W3.grownBy wr (some g) ∧
    ((i = .int .i64 0 ∧ s4 = .int .i64 0 ∧ ObAt wr g ⟨i', k, d, a3, n3, m3, a4, n4, m4, a5, n5, m5, a6, n6, m6, q, u, n, a10, n10, m10, a11, n11, m11, a12, n12, m12, ps, va, vb, vc, xs, cs, ls⟩) ∨
     (i = .int .i64 1 ∧ s4 = .int .i64 2 ∧ 2 ≤ len ∧ ObAt wr g ⟨i', k, d, a3, n3, m3, a4, n4, m4, a5, n5, m5, a6, n6, m6, owQ 1 z 0, u, n, a10, n10, m10, a11, n11, m11, a12, n12, m12, ps, va, vb, vc, xs, cs, ls⟩) ∨
     (i = .int .i64 2 ∧ s4 = .int .i64 4 ∧ 4 ≤ len ∧ ObAt wr g ⟨i', k, d, a3, n3, m3, a4, n4, m4, a5, n5, m5, a6, n6, m6, owQ 1 z 0, owQ 1 z 2, n, a10, n10, m10, a11, n11, m11, a12, n12, m12, ps, va, vb, vc, xs, cs, ls⟩) ∨
     (i = .int .i64 3 ∧ s4 = .int .i64 6 ∧ 6 ≤ len ∧ ObAt wr g ⟨i', k, d, a3, n3, m3, a4, n4, m4, a5, n5, m5, a6, n6, m6, owQ 1 z 0, owQ 1 z 2, owQ 1 z 4, a10, n10, m10, a11, n11, m11, a12, n12, m12, ps, va, vb, vc, xs, cs, ls⟩))) (fun _ _ _ _ i _ => 3 - (intOf i).toNat)
  case atStart => exact ⟨⟨_, rfl⟩, ⟨_, rfl⟩, ⟨_, rfl⟩, World.grownBy.refl _ _, .inl ⟨rfl, rfl, hO3⟩⟩
  case round =>
    obtain ⟨⟨_, rfl⟩, ⟨_, rfl⟩, ⟨_, rfl⟩, hG, hs⟩ := hrel
    obtain ⟨⟨y0, y1, y2⟩, hrr, hgw⟩ := HC.out _ hG
    rcases hs with ⟨rfl, rfl, hA⟩ | ⟨rfl, rfl, h2, hA⟩ | ⟨rfl, rfl, h4, hA⟩ | ⟨rfl, rfl, h6, hA⟩
    · have ht := take_any a len cap 2 (z.drop 0) wr hrr
      by_cases hsh : len < 2
      · have ht2 := takeN_no (z.drop 0) 2 (by omega) (by simp only [List.length_drop]; omega)
        rw [show takeV (z.drop 0) 2 = 0 from ht2.1, show takeE (z.drop 0) 2 = 3 from ht2.2] at ht
        clear ht2
        go_wp2_with fail
        refine ht.mono ?_
        rintro e w1 ⟨rfl, rfl⟩
        go_wp2_with fail
        go_ret2
        exact ⟨0, 3, rfl, hgw, .inr ⟨by omega, rfl⟩⟩
      · have ht2 := takeN_yes (z.drop 0) 2 (by omega) (by simp only [List.length_drop]; omega)
        rw [show takeV (z.drop 0) 2 = owQ 1 z 0 from ht2.1, show takeE (z.drop 0) 2 = 0 from ht2.2] at ht
        clear ht2
        have hV := owQ2_bd z hr.byt 0
        have hA2 := hA.set 7 (.int .i64 (owQ 1 z 0)) ⟨i', k, d, a3, n3, m3, a4, n4, m4, a5, n5, m5, a6, n6, m6, owQ 1 z 0, u, n, a10, n10, m10, a11, n11, m11, a12, n12, m12, ps, va, vb, vc, xs, cs, ls⟩ rfl
        have hc := hA.cells.2.2.2.2.2.2.2.1
        have hf := hA.fz 7
        have hgr := hG.trans (grown_setO wr g 7 (.int .i64 (owQ 1 z 0)))
        dsimp only at hc
        have wV : IntKind.i64.wrap (owQ 1 z 0) = owQ 1 z 0 := Go.IntWalk.i64_in _ (by omega)
        generalize owQ 1 z 0 = V at ht hV hA2 wV hgr ⊢
        go_wp2_with fail
        refine ht.mono ?_
        rintro e w1 ⟨rfl, rfl⟩
        go_wp2
        go_roundw
        case rel => exact ⟨⟨_, rfl⟩, ⟨_, rfl⟩, ⟨_, rfl⟩, hgr, .inr (.inl ⟨rfl, rfl, by omega, hA2⟩)⟩
        case measure => simp [intOf]
    · obtain ⟨b, off, rfl, _⟩ := hrr.at (by omega)
      have hml : (2 : Int) ≤ (len : Int) := by omega
      by_cases hcm : cap = 2
      · obtain rfl : len = 2 := by omega
        subst hcm
        have ht := take_any (some ⟨b, off, none⟩) 0 0 2 [] wr (Row.none_of _ _ _ (by omega))
        have ht2 := takeN_no ([]) 2 (by omega) (by simp only [List.length_nil]; omega)
        rw [show takeV ([]) 2 = 0 from ht2.1, show takeE ([]) 2 = 3 from ht2.2] at ht
        clear ht2
        go_wp2_with fail
        refine ht.mono ?_
        rintro e w1 ⟨rfl, rfl⟩
        go_wp2_with fail
        go_ret2
        exact ⟨0, 3, rfl, hgw, .inr ⟨by omega, rfl⟩⟩
      · have ht := take_any (some ⟨b, off + 2, none⟩) (len - 2) (cap - 2) 2 (z.drop 2) wr (hrr.fromR 2 (by omega))
        by_cases hsh : len < 4
        · have ht2 := takeN_no (z.drop 2) 2 (by omega) (by simp only [List.length_drop]; omega)
          rw [show takeV (z.drop 2) 2 = 0 from ht2.1, show takeE (z.drop 2) 2 = 3 from ht2.2] at ht
          clear ht2
          go_wp2_with fail
          refine ht.mono ?_
          rintro e w1 ⟨rfl, rfl⟩
          go_wp2_with fail
          go_ret2
          exact ⟨0, 3, rfl, hgw, .inr ⟨by omega, rfl⟩⟩
        · have ht2 := takeN_yes (z.drop 2) 2 (by omega) (by simp only [List.length_drop]; omega)
          rw [show takeV (z.drop 2) 2 = owQ 1 z 2 from ht2.1, show takeE (z.drop 2) 2 = 0 from ht2.2] at ht
          clear ht2
          have hV := owQ2_bd z hr.byt 2
          have hA2 := hA.set 8 (.int .i64 (owQ 1 z 2)) ⟨i', k, d, a3, n3, m3, a4, n4, m4, a5, n5, m5, a6, n6, m6, owQ 1 z 0, owQ 1 z 2, n, a10, n10, m10, a11, n11, m11, a12, n12, m12, ps, va, vb, vc, xs, cs, ls⟩ rfl
          have hc := hA.cells.2.2.2.2.2.2.2.2.1
          have hf := hA.fz 8
          have hgr := hG.trans (grown_setO wr g 8 (.int .i64 (owQ 1 z 2)))
          dsimp only at hc
          have wV : IntKind.i64.wrap (owQ 1 z 2) = owQ 1 z 2 := Go.IntWalk.i64_in _ (by omega)
          generalize owQ 1 z 2 = V at ht hV hA2 wV hgr ⊢
          go_wp2_with fail
          refine ht.mono ?_
          rintro e w1 ⟨rfl, rfl⟩
          go_wp2
          go_roundw
          case rel => exact ⟨⟨_, rfl⟩, ⟨_, rfl⟩, ⟨_, rfl⟩, hgr, .inr (.inr (.inl ⟨rfl, rfl, by omega, hA2⟩))⟩
          case measure => simp [intOf]
    · obtain ⟨b, off, rfl, _⟩ := hrr.at (by omega)
      have hml : (4 : Int) ≤ (len : Int) := by omega
      by_cases hcm : cap = 4
      · obtain rfl : len = 4 := by omega
        subst hcm
        have ht := take_any (some ⟨b, off, none⟩) 0 0 2 [] wr (Row.none_of _ _ _ (by omega))
        have ht2 := takeN_no ([]) 2 (by omega) (by simp only [List.length_nil]; omega)
        rw [show takeV ([]) 2 = 0 from ht2.1, show takeE ([]) 2 = 3 from ht2.2] at ht
        clear ht2
        go_wp2_with fail
        refine ht.mono ?_
        rintro e w1 ⟨rfl, rfl⟩
        go_wp2_with fail
        go_ret2
        exact ⟨0, 3, rfl, hgw, .inr ⟨by omega, rfl⟩⟩
      · have ht := take_any (some ⟨b, off + 4, none⟩) (len - 4) (cap - 4) 2 (z.drop 4) wr (hrr.fromR 4 (by omega))
        by_cases hsh : len < 6
        · have ht2 := takeN_no (z.drop 4) 2 (by omega) (by simp only [List.length_drop]; omega)
          rw [show takeV (z.drop 4) 2 = 0 from ht2.1, show takeE (z.drop 4) 2 = 3 from ht2.2] at ht
          clear ht2
          go_wp2_with fail
          refine ht.mono ?_
          rintro e w1 ⟨rfl, rfl⟩
          go_wp2_with fail
          go_ret2
          exact ⟨0, 3, rfl, hgw, .inr ⟨by omega, rfl⟩⟩
        · have ht2 := takeN_yes (z.drop 4) 2 (by omega) (by simp only [List.length_drop]; omega)
          rw [show takeV (z.drop 4) 2 = owQ 1 z 4 from ht2.1, show takeE (z.drop 4) 2 = 0 from ht2.2] at ht
          clear ht2
          have hV := owQ2_bd z hr.byt 4
          have hA2 := hA.set 9 (.int .i64 (owQ 1 z 4)) ⟨i', k, d, a3, n3, m3, a4, n4, m4, a5, n5, m5, a6, n6, m6, owQ 1 z 0, owQ 1 z 2, owQ 1 z 4, a10, n10, m10, a11, n11, m11, a12, n12, m12, ps, va, vb, vc, xs, cs, ls⟩ rfl
          have hc := hA.cells.2.2.2.2.2.2.2.2.2.1
          have hf := hA.fz 9
          have hgr := hG.trans (grown_setO wr g 9 (.int .i64 (owQ 1 z 4)))
          dsimp only at hc
          have wV : IntKind.i64.wrap (owQ 1 z 4) = owQ 1 z 4 := Go.IntWalk.i64_in _ (by omega)
          generalize owQ 1 z 4 = V at ht hV hA2 wV hgr ⊢
          go_wp2_with fail
          refine ht.mono ?_
          rintro e w1 ⟨rfl, rfl⟩
          go_wp2
          go_roundw
          case rel => exact ⟨⟨_, rfl⟩, ⟨_, rfl⟩, ⟨_, rfl⟩, hgr, .inr (.inr (.inr ⟨rfl, rfl, by omega, hA2⟩))⟩
          case measure => simp [intOf]
    · go_wp2_with fail
      go_ret2
      exact ⟨6, 0, rfl, hgw, .inl ⟨h6, rfl, rfl, hA⟩⟩
end Go.Proofs.Ytkmpmljohjelhaa
