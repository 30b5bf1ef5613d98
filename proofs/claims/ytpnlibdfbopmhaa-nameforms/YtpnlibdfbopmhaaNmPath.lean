/- The path of a name, the code's and the document's: contracts, for every number; and what the document's other functions answer. -/
import Derived.Test.YtpnlibdfbopmhaaNmOps
import Derived.Lib.MinMax
import Derived.Deep.OwnRows
import Derived.BigQuiet
namespace Go.Proofs.Ytpnlibdfbopmhaa
open Go.RowKit
set_option maxRecDepth 100000

theorem infoQ : (Try.prog.info? 22).map (fun i => (i.zero, i.size, i.bytes)) = some (some (.int .u64 0), 1, 8) := by kernel_rfl
theorem made_own (w : World) (m : Nat) (h : m ≤ 1000) : OwnQ 22 (w.alloc (.cells (madeCells #[.int .u64 0] m) 22)) w.heap.size (some ⟨w.heap.size, 0, none⟩) m m (List.replicate m 0) := by
  have hy : madeCells #[Value.int .u64 0] m = (List.replicate m (Value.int .u64 0)).toArray := by
    have := toList_madeCells_one (Value.int .u64 0) m
    rw [← this]
  refine OwnQ.of_cells (Nat.le_refl _) (heap_alloc_new w _) (Nat.le_refl _) (by unfold maxLen; omega) (by rw [hy]; simp) (by simp) (fun y hy => by rw [List.eq_of_mem_replicate hy]; omega) ?_
  rw [hy]
  simp

set_option maxHeartbeats 400000 in
theorem path_any (x : Int) (hx : U x) (w : World) : Calls Try.prog 19 #[.int .u64 x] w fun e w' => ∃ so n co, e = .returned (.slice so n co) ∧ RowQ w' so n co (pth x) ∧ Below w.heap.size w w' := by
  cases h : isN x with
  | false =>
    go_enter Try.func19, Try.ntmps19
    go_wp2_with fail
    refine (depth_any x hx _).mono ?_
    rintro e w1 ⟨rfl, rfl⟩
    rw [h]
    go_wp2_with fail
    go_ret
    exact ⟨none, 0, 0, rfl, by rw [pth_no h]; exact RowQ.nil _, Below.refl _ _⟩
  | true =>
    obtain ⟨d, hd⟩ : ∃ d, d = dN x := ⟨_, rfl⟩
    obtain ⟨m, hm⟩ : ∃ m, m = d + 1 := ⟨_, rfl⟩
    have hd6 : d ≤ 6 := by rw [hd]; exact dN_le x
    have em : (d : Int) + 1 = (m : Int) := by omega
    have HD : Hid (d = dN x) := hd
    have HM : Hid (m = d + 1) := hm
    have hm7 : m ≤ 7 := by omega
    have hmk := run_make_row' (P := Try.prog) 31 22 (.int .u64 0) 8 Try.underlying31 infoQ rfl .i64 .i64 m (by omega) (by omega)
    go_enter Try.func19, Try.ntmps19
    go_wp2_with fail
    refine (depth_any x hx _).mono ?_
    rintro e w1 ⟨rfl, rfl⟩
    rw [h, ← hd]
    clear hd hm
    go_wp2_with fail
    have o0 := made_own w1 m (by omega)
    have b0 := below_alloc w1 (.cells (madeCells #[.int .u64 0] m) 22)
    obtain ⟨g, hg⟩ : ∃ g, g = w1.heap.size := ⟨_, rfl⟩
    rw [← hg] at o0 b0 ⊢
    have HG : Hid (g = w1.heap.size) := hg
    clear hg
    generalize w1.alloc (.cells (madeCells #[.int .u64 0] m) 22) = w2 at *
    go_loopw [19] (fun iv wr => ∃ (i : Nat) (zs : List Int), i ≤ m ∧ iv = .int .i64 i ∧ OwnQ 22 wr g (some ⟨g, 0, none⟩) m m zs ∧ Below g w1 wr ∧ ∀ j, j < i → zs.getD j 0 = x / 64 ^ (m - 1 - j)) (fun iv _ => m - (intOf iv).toNat)
    case atStart => exact ⟨0, _, by omega, rfl, o0, b0, fun j hj => by omega⟩
    case round =>
      clear o0 b0
      obtain ⟨i, zs, hi, rfl, ox, b4, hz⟩ := hrel
      by_cases hlt : i < m
      · have p1 : (i : Int) < (m : Int) := by omega
        obtain ⟨k, hk⟩ : ∃ k, k = m - 1 - i := ⟨_, rfl⟩
        have ek : (d : Int) - (i : Int) = (k : Int) := by have := HM.out; omega
        have hk6 : k ≤ 6 := by omega
        have HK : Hid (k = m - 1 - i) := hk
        clear hk
        go_wp2_with fail
        refine (above_any x k hk6 _).mono ?_
        rintro e w3 ⟨rfl, rfl⟩
        have c1 := ox.cell i hlt
        have m1 := ox.melt i
        generalize zs.getD i 0 = Z at c1
        have hu := hx.div k
        have hlen := ox.1
        have oy := ox.set i (x / 64 ^ k) hu
        go_wp2_with fail
        go_roundw
        case rel =>
          refine ⟨i + 1, zs.set i (x / 64 ^ k), by omega, by go_num, oy, b4.setCell (Nat.le_refl _) _, fun j hj => ?_⟩
          by_cases hji : j = i
          · subst hji
            rw [List.getD_eq_getElem?_getD, List.getElem?_set_self (by omega), HK.out]; rfl
          · rw [List.getD_eq_getElem?_getD, List.getElem?_set_ne (by omega), ← List.getD_eq_getElem?_getD]
            exact hz j (by omega)
        case measure => simp [intOf]; omega
      · have p1 : decide ((i : Int) < (m : Int)) = false := by simp; omega
        go_wp2_with fail
        go_ret
        refine ⟨_, _, _, rfl, ?_, HG.out ▸ b4⟩
        rw [pth_yes h, ← HD.out, ← HM.out, ← up_all zs x m ox.1 fun j hj => hz j (by omega)]
        exact ox.row

/-- Not a name: somewhere on the way down a number is missing, or it never comes to Root. -/
theorem no_name {x : Int} {n : Nat} (hgt : ∀ k, k < n → 1 < x / 64 ^ k) (h : x / 64 ^ n ≤ 0 ∨ (1 < x / 64 ^ n ∧ x / 64 ^ n % 64 = 0) ∨ (6 < n ∧ Nm x n)) : isN x = false := by
  cases hc : isN x with
  | false => rfl
  | true =>
    exfalso
    obtain ⟨h6, hm⟩ := nm_of hc
    generalize dN x = d at *
    have hd : n ≤ d := by
      by_cases hl : d < n
      · have := hgt d hl; have := hm.1; omega
      · omega
    rcases h with h | ⟨h, h0⟩ | ⟨h, hn⟩
    · have h1 := hm.1
      rw [show d = n + (d - n) by omega, ← div_div64] at h1
      have h2 : x / 64 ^ n / 64 ^ (d - n) ≤ 0 := Int.ediv_le_iff_le_mul (pow_pos64 _) |>.2 (by have := pow_pos64 (d - n); omega)
      omega
    · by_cases he : n = d
      · subst he; have := hm.1; omega
      · exact hm.2 n (by omega) h0
    · have := hn.uniq hm; omega
theorem few {x : Int} {n : Nat} (hx : U x) (hgt : ∀ k, k < n → 1 < x / 64 ^ k) : n ≤ 11 := by
  by_cases h : n ≤ 11
  · exact h
  · have h1 := hgt 11 (by omega)
    have h2 := hx.2
    have h3 := hx.1
    rw [show (64 : Int) ^ 11 = 73786976294838206464 by decide] at h1
    omega

set_option maxHeartbeats 400000 in
theorem refPath_any (x : Int) (hx : U x) (w : World) : Calls Try.prog 20 #[.int .u64 x] w fun e w' => ∃ so n co, e = .returned (.slice so n co) ∧ RowQ w' so n co (pth x) ∧ Below w.heap.size w w' := by
  go_enter Try.func20, Try.ntmps20
  go_wp2_with fail
  go_loopw [0, 3, 4] (fun v l iv wr => ∃ (n : Nat) (y : Int) (so : Option Addr) (co : Nat), v = .int .u64 y ∧ l = .slice so n co ∧ iv = .int .i64 n ∧ OwnQ 22 wr w.heap.size so n co (up x n) ∧ Below w.heap.size w wr
      ∧ Hid (y = x / 64 ^ n) ∧ Hid (∀ k, k < n → 1 < x / 64 ^ k) ∧ Hid (∀ k, k < n → x / 64 ^ k % 64 ≠ 0)) (fun _ _ iv _ => 20 - (intOf iv).toNat)
  case atStart => exact ⟨0, x, none, 0, rfl, rfl, rfl, OwnQ.of_nil _ _ _, Below.refl _ _, by show x = _; simp, fun k hk => by omega, fun k hk => by omega⟩
  case round =>
    obtain ⟨n, y, so, co, rfl, rfl, rfl, ol, b1, hy, hgt, hne⟩ := hrel
    have hn11 := few hx hgt.out
    have hsz := b1.size
    by_cases h1 : 1 < y
    · have p1 : decide ((n : Int) < 20) = true := by simp; omega
      have hyu : U y := by rw [hy.out]; exact hx.div n
      by_cases h0 : y % 64 = 0
      · go_wp2_with fail
        go_ret
        refine ⟨none, 0, 0, rfl, ?_, b1⟩
        rw [pth_no (no_name hgt.out (.inr (.inl (by rw [← hy.out]; exact ⟨h1, h0⟩))))]
        exact RowQ.nil _
      · have p0 : (y % 64 == 0) = false := by simp [h0]
        have e0 : y.tdiv 64 = y / 64 := Int.tdiv_eq_ediv_of_nonneg hyu.1
        have e1 : IntKind.u64.wrap (y / 64) = y / 64 := by have := hyu.1; have := hyu.2; exact wraps_u64 _ (by omega) (by omega)
        have ow := (ownq_lit wr 22 [y] 1 rfl (by omega) (Qwd.one hyu)).mono hsz
        have hn1 : 1 + n ≤ 8796093022208 := by omega
        go_wp2_with (at_builtin; refine wp_append_quads _ rfl (.tmp 17) (.tmp 18) 31 rfl 22 Try.underlying31 infoQ w.heap.size 1 1 _ [y] rfl ow so n co _ rfl (ol.row.below (below_alloc _ _)) hn1 (by simp; omega) w (b1.trans ((below_alloc _ _).mono hsz)) ?_; intro s1 c1 w1 o1 b2)
        go_roundw
        case rel =>
          refine ⟨n + 1, y / 64, s1, c1, by go_num, by rw [Nat.add_comm], by go_num, ?_, b2, ?_, fun k hk => ?_, fun k hk => ?_⟩
          · rw [Nat.add_comm n 1, Nat.add_comm 1 n]
            show OwnQ _ _ _ _ _ _ (x / 64 ^ n :: up x n)
            rw [← hy.out, Nat.add_comm n 1]; exact o1
          · show _ = _
            rw [hy.out, div_one64]
          · by_cases hkn : k = n
            · subst hkn; rw [← hy.out]; exact h1
            · exact hgt.out k (by omega)
          · by_cases hkn : k = n
            · subst hkn; rw [← hy.out]; exact h0
            · exact hne.out k (by omega)
        case measure => simp [intOf]; omega
    · have p1 : decide (1 < y) = false := by simpa using h1
      by_cases hy1 : y = 1
      · have p2 : (y != 1) = false := by simp [hy1]
        have hnm : Nm x n := ⟨by rw [← hy.out]; exact hy1, hne.out⟩
        by_cases h6 : 6 < n
        · have p3 : decide ((6 : Int) < (n : Int)) = true := by simp; omega
          go_wp2_with fail
          go_ret
          refine ⟨none, 0, 0, rfl, ?_, b1⟩
          rw [pth_no (no_name hgt.out (.inr (.inr ⟨h6, hnm⟩)))]
          exact RowQ.nil _
        · have p3 : decide ((6 : Int) < (n : Int)) = false := by simp; omega
          have ow := (ownq_lit wr 22 [1] 1 rfl (by omega) (Qwd.one (by omega))).mono hsz
          have hn1 : 1 + n ≤ 8796093022208 := by omega
          go_wp2_with (at_builtin; refine wp_append_quads _ rfl (.tmp 29) (.tmp 30) 31 rfl 22 Try.underlying31 infoQ w.heap.size 1 1 _ [1] rfl ow so n co _ rfl (ol.row.below (below_alloc _ _)) hn1 (by simp; omega) w (b1.trans ((below_alloc _ _).mono hsz)) ?_; intro s1 c1 w1 o1 b2)
          go_ret
          refine ⟨s1, _, c1, rfl, ?_, b2⟩
          obtain ⟨hN, hD⟩ := hnm.is (by omega)
          rw [pth_yes hN, hD, show up x (n + 1) = [1] ++ up x n by simp [up, hnm.1]]
          exact o1.row
      · have p2 : (y != 1) = true := by simp [hy1]
        go_wp2_with fail
        go_ret
        refine ⟨none, 0, 0, rfl, ?_, b1⟩
        rw [pth_no (no_name hgt.out (.inl (by rw [← hy.out]; omega)))]
        exact RowQ.nil _

end Go.Proofs.Ytpnlibdfbopmhaa
