/- An arena's small calls: at, isStale, New, seek, held: contracts. -/
import Derived.Test.YtafnonmpanpfkaaArMem
import Derived.Test.YtafnonmpanpfkaaNumBytes
import Derived.Test.YtafnonmpanpfkaaRegion
import Derived.BigQuiet
namespace Go.Proofs.Ytafnonmpanpfkaa
open Go.RowKit
set_option maxRecDepth 100000
set_option linter.unusedVariables false

theorem ar_cell {w : World} {g : Nat} {cs : Array Value} {e : TypeId} {fz : Nat × Nat} (h : w.heap[g]? = some (.cells cs e fz)) (i : Nat) (v : Value) (hv : cs[i]? = some v) : w.cell? ⟨g, i, none⟩ = some v := by simp [World.cell?, h, hv]
theorem bel_drawn (w : World) (n : Nat) : Below w.heap.size w (w.drewN n) := ⟨rfl, rfl, rfl, Nat.le_refl _, fun _ _ => rfl⟩
section
variable {x : Am} {w : World} {S : Nat → Prop} {p : Nat}
theorem at_any (h : x.In w S p) {pl : Nat} (hp : pl < 32 * x.sn) (hN : x.sn ≤ 1099511627776) {g : Nat} (hg : x.sl[pl / 32]? = some g) :
    Calls Try.prog 24 #[.pointer (some ⟨p, 0, none⟩), .int .i64 pl] w fun e w' => e = .returned (.pointer (some ⟨g, pl % 32 * 2, none⟩)) ∧ w' = w := by
  obtain ⟨b, g', hb, hg', c1, _⟩ := h.slot hp
  obtain rfl : g' = g := by rw [hg] at hg'; exact (Option.some.inj hg').symm
  obtain ⟨k, hk⟩ : ∃ k, k = pl / 32 := ⟨_, rfl⟩
  obtain ⟨i, hi⟩ : ∃ i, i = pl % 32 := ⟨_, rfl⟩
  rw [← hk] at c1
  rw [← hi]
  have hi2 : i < 32 := by omega
  have hk2 : (k : Int) < (x.sn : Int) := by omega
  have e1 : (pl : Int) / 32 = (k : Int) := by omega
  have e2 : (pl : Int) % 32 = (i : Int) := by omega
  have b0 := h.c1
  rw [hb] at b0
  have hcap := h.sls.row.cap_le
  clear hk hi hg hg' hb
  go_enter Try.func24, Try.ntmps24
  go_wp2_with fail
  go_ret
  exact ⟨rfl, rfl⟩

set_option maxHeartbeats 1000000 in
theorem isStale_any (h : x.In w S p) (hN : x.sn ≤ 1099511627776) {r : Rf} (hp : r.pl < 32 * x.sn) :
    Calls Try.prog 39 #[.pointer (some ⟨p, 0, none⟩), .agg #[.int .u64 r.id, .int .i64 r.pl, .int .u64 r.g]] w fun e w' => e = .returned (.bool (!live x.Sl r)) ∧ Below w.heap.size w w' := by
  obtain ⟨b, g, hb, hg, c1, c2, _⟩ := h.slot hp
  go_enter Try.func39, Try.ntmps39
  go_wp2_with fail
  obtain ⟨W, hW⟩ : ∃ W, W = w.alloc (.cells #[.int .u64 r.id, .int .i64 r.pl, .int .u64 r.g] 72) := ⟨_, rfl⟩
  obtain ⟨B, hB⟩ : ∃ B, B = w.heap.size := ⟨_, rfl⟩
  have d1 : W.cell? ⟨B, 1, none⟩ = some (.int .i64 r.pl) := by rw [hW, hB]; exact ar_cell (heap_alloc_new _ _) 1 _ rfl
  have d2 : W.cell? ⟨B, 2, none⟩ = some (.int .u64 r.g) := by rw [hW, hB]; exact ar_cell (heap_alloc_new _ _) 2 _ rfl
  have hb1 : Below w.heap.size w W := by rw [hW]; exact below_alloc _ _
  have h1 := h.below hb1
  have c3 : W.cell? ⟨g, r.pl % 32 * 2, none⟩ = some (.int .u64 (x.Sl r.pl).g) := (hb1.cell (lt_of_cell c2)).trans c2
  rw [← hW, ← hB]
  have hlv : (((x.Sl r.pl).g : Int) != (r.g : Int)) = !live x.Sl r := by
    unfold live
    by_cases e : (x.Sl r.pl).g = r.g
    · simp [bne, e]
    · have e2 : ¬ ((x.Sl r.pl).g : Int) = (r.g : Int) := by omega
      simp only [bne]
      rw [beq_eq_false_iff_ne.2 e, beq_eq_false_iff_ne.2 e2]
  have HW : Hid (W = _) := hW
  have HB : Hid (B = _) := hB
  clear hW hB
  have hat : Hid (∀ n, x.In (W.drewN n) S p) := fun n => h1.below (bel_drawn W n)
  go_quiet (first | (go_at_call 24; refine Calls.quiet_of_same (at_any (hat.out _) hp hN hg)))
  go_wp2
  go_ret
  exact ⟨rfl, ext_trans hb1 (bel_drawn W nq)⟩
theorem new_any (v : Int) (w : World) : Calls Try.prog 7 #[.int .u8 v] w fun e w' => e = .returned (.pointer (some ⟨w.heap.size, 0, none⟩)) ∧ Ar w' (gr (fun _ => False) w w') w.heap.size v (fun _ => none) 0 ∧ Below w.heap.size w w' := by
  go_enter Try.func7, Try.ntmps7
  go_wp2_with fail
  go_ret
  refine ⟨rfl, ⟨⟨v, none, 0, 0, [], none, 0, 0, [], none, 0, 0, [], fun _ => slot0 0⟩, ⟨heap_alloc_new _ _, OwnG.of_nil _ _ _ _, OwnG.of_nil _ _ _ _, OwnG.of_nil _ _ _ _, by simp, by simp, fun _ => LeO.nil _ _, .inr (by simp), by simp, by simp, by simp, by simp, by simp [slot0], fun b hb => ?_⟩, rfl, Inv.new v _ fun _ => rfl⟩, below_alloc _ _⟩
  exact hb.elim False.elim And.right
end
/-- How two ids stand. -/
def cmpU (x y : Int) : Int := if x < y then -1 else if y < x then 1 else 0
theorem isNaNU_any (x : Int) (w : World) : Calls Try.prog 53 #[.int .u64 x] w fun e w' => e = .returned (.bool false) ∧ w' = w := by
  go_enter Try.func53, Try.ntmps53
  go_wp2_with fail
  go_ret
  simp
set_option maxHeartbeats 400000 in
theorem compareU_any (x y : Int) (w : World) : Calls Try.prog 48 #[.int .u64 x, .int .u64 y] w fun e w' => e = .returned (.int .i64 (cmpU x y)) ∧ w' = w := by
  unfold cmpU
  go_enter Try.func48, Try.ntmps48
  go_wp2_with fail
  refine (isNaNU_any x _).mono ?_
  rintro e w1 ⟨rfl, rfl⟩
  go_wp2_with fail
  refine (isNaNU_any y _).mono ?_
  rintro e w1 ⟨rfl, rfl⟩
  by_cases h : x < y
  · go_wp2_with fail
    go_ret
    simp
  · have h' : decide (x < y) = false := by simpa using h
    by_cases h2 : y < x
    · go_wp2_with fail
      go_ret
      simp
    · have h2' : decide (y < x) = false := by simpa using h2
      go_wp2_with fail
      go_ret
      simp
set_option maxHeartbeats 400000 in
theorem seekF_any (r : Rf) (c : Int) (w : World) : Calls Try.prog 47 #[.agg #[.int .u64 r.id, .int .i64 r.pl, .int .u64 r.g], .int .u64 c] w fun e w' => e = .returned (.int .i64 (cmpU r.id c)) ∧ Below w.heap.size w w' := by
  go_enter Try.func47, Try.ntmps47
  go_wp2_with fail
  refine (compareU_any r.id c _).mono ?_
  rintro e w1 ⟨rfl, rfl⟩
  go_wp2_with fail
  go_ret
  exact ⟨rfl, below_alloc _ _⟩
theorem RowG.ref {w : World} {b off n cap : Nat} {xs : List Rf} (h : RowG ER w (some ⟨b, off, none⟩) n cap xs) {i : Nat} {r : Rf} (hi : xs[i]? = some r) :
    w.cell? ⟨b, off + i * 3, none⟩ = some (.int .u64 r.id) ∧ w.cell? ⟨b, off + i * 3 + 1, none⟩ = some (.int .i64 r.pl) ∧ w.cell? ⟨b, off + i * 3 + 2, none⟩ = some (.int .u64 r.g) := by
  have hc := h.cells
  exact ⟨hc i r hi 0 _ rfl, hc i r hi 1 _ rfl, hc i r hi 2 _ rfl⟩
theorem up_lt {xs : List Rf} (h : xs.Pairwise (fun r r' => r.id < r'.id)) {i j : Nat} {r r' : Rf} (hij : i < j) (hi : xs[i]? = some r) (hj : xs[j]? = some r') : r.id < r'.id := by
  obtain ⟨hi1, hi2⟩ := List.getElem?_eq_some_iff.1 hi
  obtain ⟨hj1, hj2⟩ := List.getElem?_eq_some_iff.1 hj
  have := List.pairwise_iff_getElem.1 h i j hi1 hj1 hij
  rwa [hi2, hj2] at this

set_option maxHeartbeats 1000000 in
theorem searchU_any (a : Option Addr) (n cap : Nat) (xs : List Rf) (c : Int) (w : World) (hr : RowG ER w a n cap xs) (hs : xs.Pairwise (fun r r' => r.id < r'.id)) (hbd : n ≤ 70368744177664) :
    Calls Try.prog 46 #[.slice a n cap, .int .u64 c, .func (.func 47) #[] #[]] w fun e w' => ∃ (p : Nat) (q : Bool), e = .returned (.tuple #[.int .i64 p, .bool q]) ∧ p ≤ n ∧ (∀ t r, xs[t]? = some r → t < p → r.id < c) ∧ (∀ t r, xs[t]? = some r → p ≤ t → c ≤ r.id) ∧ (q = true ↔ ∃ r, xs[p]? = some r ∧ r.id = c) ∧ Below w.heap.size w w' := by
  have hl : Hid (xs.length = n) := hr.len
  have hcap := hr.cap_le
  go_enter Try.func46, Try.ntmps46
  go_wp2_with fail
  go_loopw [9, 10] (fun i j wr => ∃ p q : Nat, p ≤ q ∧ q ≤ n ∧ i = .int .i64 p ∧ j = .int .i64 q ∧ (∀ t r, xs[t]? = some r → t < p → r.id < c) ∧ (∀ t r, xs[t]? = some r → q ≤ t → c ≤ r.id) ∧ Below w.heap.size w wr) (fun i j _ => (intOf j).toNat - (intOf i).toNat)
  case atStart => exact ⟨0, n, by omega, by omega, rfl, rfl, fun t _ _ h => by omega, fun t r h h' => by have := (List.getElem?_eq_some_iff.1 h).1; have := hl.out; omega, Below.refl _ _⟩
  case round =>
    obtain ⟨p, q, hpq, hqn, rfl, rfl, hlo, hhi, hbel⟩ := hrel
    by_cases hlt : p < q
    · have h1 : (p : Int) < (q : Int) := by omega
      obtain ⟨m, hm⟩ : ∃ m : Nat, m = (p + q) / 2 := ⟨_, rfl⟩
      have e3 : ((p : Int) + (q : Int)) / 2 = (m : Int) := by omega
      have h2 : m < n := by omega
      have h3 : (m : Int) < (n : Int) := by omega
      have h4 : p ≤ m ∧ m < q := by omega
      have HM : Hid (m = (p + q) / 2) := hm
      clear hm
      obtain ⟨b, off, rfl, _⟩ := hr.at (by omega)
      obtain ⟨R, hX⟩ := hr.get m h2
      obtain ⟨c1, c2, c3⟩ := (hr.below hbel).ref hX
      have HX : Hid (xs[m]? = some R) := hX
      clear hX
      go_wp2_with fail
      refine (seekF_any R c _).mono ?_
      rintro e w1 ⟨rfl, hb1⟩
      by_cases hXc : R.id < c
      · have hcm : cmpU R.id c = -1 := by simp [cmpU, hXc]
        rw [hcm]
        go_wp2
        go_roundw
        case rel =>
          refine ⟨m + 1, q, by omega, by omega, by go_num, rfl, fun t r hx ht => ?_, hhi, ext_trans hbel hb1⟩
          by_cases hj : t < m
          · have := up_lt hs hj hx HX.out; omega
          · obtain rfl : t = m := by omega
            have := HX.out; rw [hx] at this; obtain rfl := Option.some.inj this; exact hXc
        case measure => simp [intOf]; omega
      · have hcm : decide (cmpU R.id c < 0) = false := by simp [cmpU, hXc]; split <;> omega
        go_wp2
        go_roundw
        case rel =>
          refine ⟨p, m, by omega, by omega, rfl, rfl, hlo, fun t r hx ht => ?_, ext_trans hbel hb1⟩
          by_cases hj : m < t
          · have := up_lt hs hj HX.out hx; omega
          · obtain rfl : t = m := by omega
            have := HX.out; rw [hx] at this; obtain rfl := Option.some.inj this; omega
        case measure => simp [intOf]; omega
    · obtain rfl : p = q := by omega
      by_cases hpn : p < n
      · have h1 : (p : Int) < (n : Int) := by omega
        obtain ⟨b, off, rfl, _⟩ := hr.at (by omega)
        obtain ⟨R, hX⟩ := hr.get p hpn
        obtain ⟨c1, c2, c3⟩ := (hr.below hbel).ref hX
        have HX : Hid (xs[p]? = some R) := hX
        clear hX
        by_cases hXc : R.id = c
        · subst hXc
          go_wp2_with fail
          refine (seekF_any R R.id _).mono ?_
          rintro e w1 ⟨rfl, hb1⟩
          have hcm : (cmpU R.id R.id == 0) = true := by simp [cmpU]
          go_wp2_with fail
          go_ret2
          refine ⟨p, true, rfl, hqn, hlo, hhi, ⟨fun _ => ⟨R, HX.out, rfl⟩, fun _ => rfl⟩, ext_trans hbel hb1⟩
        · go_wp2_with fail
          refine (seekF_any R c _).mono ?_
          rintro e w1 ⟨rfl, hb1⟩
          have hcm : (cmpU R.id c == 0) = false := by simp [cmpU]; split <;> (try split) <;> omega
          go_wp2_with fail
          go_ret2
          refine ⟨p, false, rfl, hqn, hlo, hhi, ⟨fun h => by simp at h, fun ⟨r, hy, hc⟩ => ?_⟩, ext_trans hbel hb1⟩
          rw [HX.out] at hy; obtain rfl := Option.some.inj hy; omega
      · have h1 : decide ((p : Int) < (n : Int)) = false := by simp; omega
        go_wp2_with fail
        go_ret2
        refine ⟨p, false, rfl, hqn, hlo, hhi, ⟨fun h => by simp at h, fun ⟨r, hy, _⟩ => ?_⟩, hbel⟩
        have := (List.getElem?_eq_some_iff.1 hy).1; have := hl.out; omega
end Go.Proofs.Ytafnonmpanpfkaa
