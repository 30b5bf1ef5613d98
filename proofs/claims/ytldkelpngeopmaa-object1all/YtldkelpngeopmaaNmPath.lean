/- The path of a name, the code's and the document's: contracts, for every number; and what the document's other functions answer. -/
import Derived.Test.YtldkelpngeopmaaNmOps
import Derived.Lib.MinMax
import Derived.Deep.OwnRows
import Derived.BigQuiet
namespace Go.Proofs.Ytldkelpngeopmaa
open Go.RowKit
set_option maxRecDepth 100000

theorem infoQ : (Try.prog.info? 22).map (fun i => (i.zero, i.size, i.bytes)) = some (some (.int .u64 0), 1, 8) := by kernel_rfl
theorem made_own (w : World) (m : Nat) (h : m ≤ 1000) : OwnQ 22 (w.alloc (.cells (madeCells #[.int .u64 0] m) 22)) w.heap.size (some ⟨w.heap.size, 0, none⟩) m m (List.replicate m 0) := by
  have hy : madeCells #[Value.int .u64 0] m = (List.replicate m (Value.int .u64 0)).toArray := by
    have := toList_madeCells_one (Value.int .u64 0) m
    rw [← this]
  refine OwnQ.of_cells (Nat.le_refl _) (heap_alloc_new w _) (Nat.le_refl _) (by unfold maxLen; omega) (by rw [hy]; simp) (by simp) (fun y hy => by rw [List.eq_of_mem_replicate hy]; omega) ?_
  rw [hy]
  simp

/-- Not a name: somewhere on the way down a number is missing, or it never comes to Root. -/
theorem no_name {x : Int} {n : Nat} (hgt : ∀ k, k < n → 1 < x / 64 ^ k) (h : x / 64 ^ n ≤ 0 ∨ (1 < x / 64 ^ n ∧ x / 64 ^ n % 64 = 0) ∨ (6 < n ∧ Nm x n)) : isN x = false := by
  cases hc : isN x with
  | false => rfl
  | true =>
    exfalso
    obtain ⟨h6, hm⟩ := nm_of hc
    generalize dN x = d at *
    have hd : n ≤ d := by
      by_cases hl : d < n
      · have := hgt d hl; have := hm.1; omega
      · omega
    rcases h with h | ⟨h, h0⟩ | ⟨h, hn⟩
    · have h1 := hm.1
      rw [show d = n + (d - n) by omega, ← div_div64] at h1
      have h2 : x / 64 ^ n / 64 ^ (d - n) ≤ 0 := Int.ediv_le_iff_le_mul (pow_pos64 _) |>.2 (by have := pow_pos64 (d - n); omega)
      omega
    · by_cases he : n = d
      · subst he; have := hm.1; omega
      · exact hm.2 n (by omega) h0
    · have := hn.uniq hm; omega
theorem few {x : Int} {n : Nat} (hx : U x) (hgt : ∀ k, k < n → 1 < x / 64 ^ k) : n ≤ 11 := by
  by_cases h : n ≤ 11
  · exact h
  · have h1 := hgt 11 (by omega)
    have h2 := hx.2
    have h3 := hx.1
    rw [show (64 : Int) ^ 11 = 73786976294838206464 by decide] at h1
    omega

set_option maxHeartbeats 400000 in
theorem refPath_any (x : Int) (hx : U x) (w : World) : Calls Try.prog 59 #[.int .u64 x] w fun e w' => ∃ so n co, e = .returned (.slice so n co) ∧ RowQ w' so n co (pth x) ∧ Below w.heap.size w w' := by
  go_enter Try.func59, Try.ntmps59
  go_wp2_with fail
  go_loopw [0, 3, 4] (fun v l iv wr => ∃ (n : Nat) (y : Int) (so : Option Addr) (co : Nat), v = .int .u64 y ∧ l = .slice so n co ∧ iv = .int .i64 n ∧ OwnQ 22 wr w.heap.size so n co (upN x n) ∧ Below w.heap.size w wr
      ∧ Hid (y = x / 64 ^ n) ∧ Hid (∀ k, k < n → 1 < x / 64 ^ k) ∧ Hid (∀ k, k < n → x / 64 ^ k % 64 ≠ 0)) (fun _ _ iv _ => 20 - (intOf iv).toNat)
  case atStart => exact ⟨0, x, none, 0, rfl, rfl, rfl, OwnQ.of_nil _ _ _, Below.refl _ _, by show x = _; simp, fun k hk => by omega, fun k hk => by omega⟩
  case round =>
    obtain ⟨n, y, so, co, rfl, rfl, rfl, ol, b1, hy, hgt, hne⟩ := hrel
    have hn11 := few hx hgt.out
    have hsz := b1.size
    by_cases h1 : 1 < y
    · have p1 : decide ((n : Int) < 20) = true := by simp; omega
      have hyu : U y := by rw [hy.out]; exact hx.div n
      by_cases h0 : y % 64 = 0
      · go_wp2_with fail
        go_ret
        refine ⟨none, 0, 0, rfl, ?_, b1⟩
        rw [pth_no (no_name hgt.out (.inr (.inl (by rw [← hy.out]; exact ⟨h1, h0⟩))))]
        exact RowQ.nil _
      · have p0 : (y % 64 == 0) = false := by simp [h0]
        have e0 : y.tdiv 64 = y / 64 := Int.tdiv_eq_ediv_of_nonneg hyu.1
        have e1 : IntKind.u64.wrap (y / 64) = y / 64 := by have := hyu.1; have := hyu.2; exact wraps_u64 _ (by omega) (by omega)
        have ow := (ownq_lit wr 22 [y] 1 rfl (by omega) (Qwd.one hyu)).mono hsz
        have hn1 : 1 + n ≤ 8796093022208 := by omega
        go_wp2_with (at_builtin; refine wp_append_quads _ rfl (.tmp 17) (.tmp 18) 80 rfl 22 Try.underlying80 infoQ w.heap.size 1 1 _ [y] rfl ow so n co _ rfl (ol.row.below (below_alloc _ _)) hn1 (by simp; omega) w (b1.trans ((below_alloc _ _).mono hsz)) ?_; intro s1 c1 w1 o1 b2)
        go_roundw
        case rel =>
          refine ⟨n + 1, y / 64, s1, c1, by go_num, by rw [Nat.add_comm], by go_num, ?_, b2, ?_, fun k hk => ?_, fun k hk => ?_⟩
          · rw [Nat.add_comm n 1, Nat.add_comm 1 n]
            show OwnQ _ _ _ _ _ _ (x / 64 ^ n :: upN x n)
            rw [← hy.out, Nat.add_comm n 1]; exact o1
          · show _ = _
            rw [hy.out, div_one64]
          · by_cases hkn : k = n
            · subst hkn; rw [← hy.out]; exact h1
            · exact hgt.out k (by omega)
          · by_cases hkn : k = n
            · subst hkn; rw [← hy.out]; exact h0
            · exact hne.out k (by omega)
        case measure => simp [intOf]; omega
    · have p1 : decide (1 < y) = false := by simpa using h1
      by_cases hy1 : y = 1
      · have p2 : (y != 1) = false := by simp [hy1]
        have hnm : Nm x n := ⟨by rw [← hy.out]; exact hy1, hne.out⟩
        by_cases h6 : 6 < n
        · have p3 : decide ((6 : Int) < (n : Int)) = true := by simp; omega
          go_wp2_with fail
          go_ret
          refine ⟨none, 0, 0, rfl, ?_, b1⟩
          rw [pth_no (no_name hgt.out (.inr (.inr ⟨h6, hnm⟩)))]
          exact RowQ.nil _
        · have p3 : decide ((6 : Int) < (n : Int)) = false := by simp; omega
          have ow := (ownq_lit wr 22 [1] 1 rfl (by omega) (Qwd.one (by omega))).mono hsz
          have hn1 : 1 + n ≤ 8796093022208 := by omega
          go_wp2_with (at_builtin; refine wp_append_quads _ rfl (.tmp 29) (.tmp 30) 80 rfl 22 Try.underlying80 infoQ w.heap.size 1 1 _ [1] rfl ow so n co _ rfl (ol.row.below (below_alloc _ _)) hn1 (by simp; omega) w (b1.trans ((below_alloc _ _).mono hsz)) ?_; intro s1 c1 w1 o1 b2)
          go_ret
          refine ⟨s1, _, c1, rfl, ?_, b2⟩
          obtain ⟨hN, hD⟩ := hnm.is (by omega)
          rw [pth_yes hN, hD, show upN x (n + 1) = [1] ++ upN x n by simp [upN, hnm.1]]
          exact o1.row
      · have p2 : (y != 1) = true := by simp [hy1]
        go_wp2_with fail
        go_ret
        refine ⟨none, 0, 0, rfl, ?_, b1⟩
        rw [pth_no (no_name hgt.out (.inl (by rw [← hy.out]; omega)))]
        exact RowQ.nil _

end Go.Proofs.Ytldkelpngeopmaa
