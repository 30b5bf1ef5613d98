/- NumBack walked: it answers true, and turns nothing that was there. -/
import Derived.Test.YtinelpegpcfoaaaBegun
namespace Go.Proofs.Ytinelpegpcfoaaa
open Go.RowKit

set_option maxHeartbeats 400000 in
theorem place_any (k n : Int) (w : World) (hn : 1 ≤ n ∧ n ≤ 9223372036854775807) :
    Calls Try.prog 20 #[.int .i64 k, .int .i64 n] w fun e w' => ∃ m : Nat, e = .returned (.int .i64 m) ∧ (m : Int) < n ∧ Below w.heap.size w w' := by
  obtain ⟨hn0, hn1⟩ := hn
  have h1 : ¬ n < 1 := by omega
  obtain ⟨t0, t1⟩ := tmod_bd k n hn0
  by_cases hneg : k.tmod n < 0
  · obtain ⟨m, hm⟩ := Int.eq_ofNat_of_zero_le (show 0 ≤ k.tmod n + n by omega)
    go_enter Try.func20, Try.ntmps20
    go_wp2_with fail
    go_ret
    exact ⟨m, by rw [← hm]; rfl, by omega, Below.refl _ _⟩
  · obtain ⟨m, hm⟩ := Int.eq_ofNat_of_zero_le (show 0 ≤ k.tmod n by omega)
    go_enter Try.func20, Try.ntmps20
    go_wp2_with fail
    go_ret
    exact ⟨m, rfl, by omega, Below.refl _ _⟩

set_option maxHeartbeats 400000 in
theorem numBack_long (v n : Int) (a : Option Addr) (len cap : Nat) (a2 : Option Addr) (len2 cap2 : Nat) (cut : Int) (w : World) (h : 60 < len ∨ 20 < len2) :
    Calls Try.prog 5 #[.int .u64 v, .int .u8 n, .slice a len cap, .slice a2 len2 cap2, .int .i64 cut] w fun e w' => e = .returned (.bool true) ∧ Below w.heap.size w w' := by
  by_cases h1 : (60 : Int) < len
  · go_enter Try.func5, Try.ntmps5
    go_wp2_with fail
    refine (begun_true _).mono ?_
    rintro e w1 ⟨rfl, hb1⟩
    go_wp2_with fail
    go_ret
    exact ⟨rfl, hb1⟩
  · have h2 : (20 : Int) < len2 := by omega
    have h3 : decide ((60 : Int) < len) = false := by simpa using h1
    go_enter Try.func5, Try.ntmps5
    go_wp2_with fail
    refine (begun_true _).mono ?_
    rintro e w1 ⟨rfl, hb1⟩
    go_wp2_with fail
    go_ret
    exact ⟨rfl, hb1⟩

set_option maxHeartbeats 2000000 in
theorem numBack_walk (v n : Int) (a : Option Addr) (len cap : Nat) (s : List Int) (a2 : Option Addr) (len2 cap2 : Nat) (more : List Int) (cut : Int) (w : World) (hv : 0 ≤ v ∧ v < 18446744073709551616) (hn : 0 ≤ n ∧ n < 256)
    (hr : Row w a len cap s) (hr2 : Row w a2 len2 cap2 more) :
    Calls Try.prog 5 #[.int .u64 v, .int .u8 n, .slice a len cap, .slice a2 len2 cap2, .int .i64 cut] w fun e w' => e = .returned (.bool true) ∧ Below w.heap.size w w' := by
  by_cases hlong : 60 < len ∨ 20 < len2
  · exact numBack_long v n a len cap a2 len2 cap2 cut w hlong
  have h60 : ¬ (60 : Int) < len := by omega
  have h20 : ¬ (20 : Int) < len2 := by omega
  have h60' : decide ((60 : Int) < len) = false := by simpa using h60
  have h20' : decide ((20 : Int) < len2) = false := by simpa using h20
  obtain ⟨hv0, hv1⟩ := hv
  obtain ⟨hn0, hn1⟩ := hn
  obtain ⟨k, hk⟩ := Int.eq_ofNat_of_zero_le (show 0 ≤ n % 9 by omega)
  have hk8 : k ≤ 8 := by omega
  have hwid : wid (k : Int) = k := by unfold wid; rw [if_neg (by omega)]; omega
  go_enter Try.func5, Try.ntmps5
  go_wp2_with fail
  refine (begun_true _).mono ?_
  rintro e w1 ⟨rfl, hb1⟩
  replace hr := hr.below hb1
  replace hr2 := hr2.below hb1
  go_wp2_with fail
  refine (put_any none 0 0 v k [] _ (Row.nil _) (by omega)).mono ?_
  rintro e w2 ⟨g2, c2, rfl, hown2, hb2⟩
  simp only [hwid, Nat.zero_add, List.nil_append] at hown2
  replace hr := hr.below hb2
  replace hr2 := hr2.below hb2
  replace hb1 := ext_trans hb1 hb2
  clear hb2
  go_wp2_with (first | (at_builtin; refine wp_append_bytes _ rfl (.tmp 40) (.tmp 41) 22 rfl 5 Try.underlying22 info5 w2.heap.size w2.heap.size 0 0 [] rfl (own_lit w2 5 [] 0 rfl (by omega) Byt.nil) (some ⟨g2, 0, none⟩) k c2 (putB v k) rfl (hown2.row.below (below_alloc _ _)) (by omega) (by simp) w2 (below_alloc _ _) ?_; intro g3 c3 w3 hown3 hb3) | (at_builtin; refine wp_append_bytes _ rfl (.tmp 42) (.tmp 43) 22 rfl 5 Try.underlying22 info5 w2.heap.size g3 k c3 (putB v k) rfl (by simpa using hown3) a2 len2 cap2 more rfl (hr2.below hb3) (by omega) hb3.size w2 hb3 ?_; intro g4 c4 w4 hown4 hb4))
  refine (take_bel _ _ _ _ _ _ hown4.row).mono ?_
  rintro e w5 ⟨rfl, hb5⟩
  replace hb4 := ext_trans hb4 hb5
  have e1 : takeV (putB v k ++ more) k = v % 256 ^ k := by
    unfold takeV
    rw [if_neg (by simp [putB_len]; omega), Int.toNat_natCast, List.take_append_of_le_length (by simp [putB_len]), List.take_of_length_le (by simp [putB_len]), num_putB]
  have e2 : takeE (putB v k ++ more) k = 0 := by
    unfold takeE
    rw [if_neg (by omega), if_neg (by simp [putB_len]; omega)]
  rw [e1, e2]
  replace hr := hr.below hb4
  replace hr2 := hr2.below hb4
  replace hb1 := ext_trans hb1 hb4
  clear hb4 hb5 hown4 hown3 hown2 hb3 e1 e2
  have hnum : num (putB len 2) = len := by rw [num_putB, show (256 : Int) ^ 2 = 65536 from rfl]; omega
  have hshort : ∀ m : Nat, m < 2 + len → m < 2 ∨ (m : Int) < num (((putB len 2 ++ s).take m).take 2) + 2 := by
    intro m hm
    by_cases h2 : m < 2
    · exact .inl h2
    · refine .inr ?_
      rw [List.take_take, Nat.min_eq_left (by omega), List.take_append_of_le_length (by simp [putB_len]), List.take_of_length_le (by simp [putB_len]), hnum]
      omega
  have HS : Hid (∀ m : Nat, m < 2 + len → m < 2 ∨ (m : Int) < num (((putB len 2 ++ s).take m).take 2) + 2) := hshort
  have HN : Hid (num ((putB len 2 ++ s ++ more).take 2) = len) := by
    show _ = _
    rw [List.append_assoc, List.take_append_of_le_length (by simp [putB_len]), List.take_of_length_le (by simp [putB_len]), hnum]
  have HT : Hid (((putB len 2 ++ s ++ more).drop 2).take len = s) := by
    show _ = _
    rw [List.append_assoc, List.drop_append_of_le_length (by simp [putB_len]), List.drop_eq_nil_of_le (by simp [putB_len]), List.nil_append, List.take_append_of_le_length (by rw [hr.len]; exact Nat.le_refl _), List.take_of_length_le (by rw [hr.len]; exact Nat.le_refl _)]
  clear hshort hnum
  obtain ⟨t, ht⟩ : ∃ t, t = (256 : Int) ^ k := ⟨_, rfl⟩
  have htp : 0 < t := by rw [ht]; exact Int.pow_pos (by decide)
  rw [← ht]
  have hcase : k < 8 ∧ IntKind.u64.wrap (2 ^ (8 * k)) = t ∨ k = 8 ∧ v % t = v := by
    by_cases hk7 : k < 8
    · refine .inl ⟨hk7, ?_⟩
      have h7 := pow_le k (by omega)
      rw [IntKind.wrap_u64, Int.pow_mul, show (2 : Int) ^ 8 = 256 from rfl, ← ht]
      rw [← ht] at h7
      omega
    · obtain rfl : k = 8 := by omega
      exact .inr ⟨rfl, by rw [ht]; exact mod8 v ⟨hv0, hv1⟩⟩
  have hlen1 : ((k : Int) == (k : Int)) = true := by simp
  have HK : Hid (n % 9 = (k : Int)) := hk
  clear ht hwid hk
  rcases hcase with ⟨hk7, hsh⟩ | ⟨rfl, hvt⟩
  · have hk7' : (k : Int) < 8 := by omega
    have ht0 : ¬ t = 0 := by omega
    go_wp2_with fail
    refine (putBytes_any none 0 0 [] a len cap s _ (Row.nil _) hr (by omega) (by omega)).mono ?_
    rintro e w6 ⟨g6, c6, rfl, hown6, hb6⟩
    simp only [Nat.zero_add, List.nil_append] at hown6
    replace hr2 := hr2.below hb6
    replace hb1 := ext_trans hb1 hb6
    have hb56 := hb6
    clear hb6
    go_wp2_with (first | (at_builtin; refine wp_append_bytes _ rfl (.tmp 60) (.tmp 61) 22 rfl 5 Try.underlying22 info5 w6.heap.size w6.heap.size 0 0 [] rfl (own_lit w6 5 [] 0 rfl (by omega) Byt.nil) (some ⟨g6, 0, none⟩) (2 + len) c6 (putB len 2 ++ s) rfl (hown6.row.below (below_alloc _ _)) (by omega) (by simp) w6 (below_alloc _ _) ?_; intro g7 c7 w7 hown7 hb7) | (at_builtin; refine wp_append_bytes _ rfl (.tmp 62) (.tmp 63) 22 rfl 5 Try.underlying22 info5 w6.heap.size g7 (2 + len) c7 (putB len 2 ++ s) rfl (by simpa using hown7) a2 len2 cap2 more rfl (hr2.below hb7) (by omega) hb7.size w6 hb7 ?_; intro g8 c8 w8 hown8 hb8))
    refine (takeBytes_in g8 0 (2 + len + len2) c8 (putB len 2 ++ s ++ more) _ hown8.row (by omega) (by omega) len HN.out (by omega)).mono ?_
    rintro e w9 ⟨g9, c9, rfl, hown9, hb9⟩
    rw [HT.out] at hown9
    replace hb9 := ext_trans hb8 hb9
    have hr6 := hown6.row.below hb9
    replace hr := hr.below (show Below w5.heap.size w5 w9 from ext_trans hb56 hb9)
    replace hb1 := ext_trans hb1 hb9
    clear hown7 hown8 hb7 hb8 hb9 hown6
    go_wp2_with fail
    refine (place_any cut (2 + len) _ (by omega)).mono ?_
    rintro e w10 ⟨m, rfl, hm, hb10⟩
    have hr9 := hown9.row.below hb10
    replace hr6 := hr6.below hb10
    replace hr := hr.below hb10
    replace hb1 := ext_trans hb1 hb10
    clear hb10
    have hc6 := hr6.cap_le
    go_wp2_with fail
    refine (takeBytes_short_bel (some ⟨g6, 0, none⟩) m c6 ((putB len 2 ++ s).take m) _ (hr6.pre m (by omega)) (HS.out m (by omega))).mono ?_
    rintro e w11 ⟨rfl, hb11⟩
    replace hr9 := hr9.below hb11
    replace hr := hr.below hb11
    replace hb1 := ext_trans hb1 hb11
    have hs1 := run_str (P := Try.prog) w11 22 9 5 Try.underlying22 Try.underlying5 Try.underlying9 _ _ _ _ hr9
    have hs2 := run_str (P := Try.prog) w11 22 9 5 Try.underlying22 Try.underlying5 Try.underlying9 _ _ _ _ hr
    have hl2 : ((2 : Int) + len == len + 2) = true := by simp; omega
    clear hb11 hr9 hr hr6
    go_wp2_with fail
    go_ret
    exact ⟨rfl, hb1⟩
  · rw [hvt]
    clear hvt
    go_wp2_with fail
    refine (putBytes_any none 0 0 [] a len cap s _ (Row.nil _) hr (by omega) (by omega)).mono ?_
    rintro e w6 ⟨g6, c6, rfl, hown6, hb6⟩
    simp only [Nat.zero_add, List.nil_append] at hown6
    replace hr2 := hr2.below hb6
    replace hb1 := ext_trans hb1 hb6
    have hb56 := hb6
    clear hb6
    go_wp2_with (first | (at_builtin; refine wp_append_bytes _ rfl (.tmp 60) (.tmp 61) 22 rfl 5 Try.underlying22 info5 w6.heap.size w6.heap.size 0 0 [] rfl (own_lit w6 5 [] 0 rfl (by omega) Byt.nil) (some ⟨g6, 0, none⟩) (2 + len) c6 (putB len 2 ++ s) rfl (hown6.row.below (below_alloc _ _)) (by omega) (by simp) w6 (below_alloc _ _) ?_; intro g7 c7 w7 hown7 hb7) | (at_builtin; refine wp_append_bytes _ rfl (.tmp 62) (.tmp 63) 22 rfl 5 Try.underlying22 info5 w6.heap.size g7 (2 + len) c7 (putB len 2 ++ s) rfl (by simpa using hown7) a2 len2 cap2 more rfl (hr2.below hb7) (by omega) hb7.size w6 hb7 ?_; intro g8 c8 w8 hown8 hb8))
    refine (takeBytes_in g8 0 (2 + len + len2) c8 (putB len 2 ++ s ++ more) _ hown8.row (by omega) (by omega) len HN.out (by omega)).mono ?_
    rintro e w9 ⟨g9, c9, rfl, hown9, hb9⟩
    rw [HT.out] at hown9
    replace hb9 := ext_trans hb8 hb9
    have hr6 := hown6.row.below hb9
    replace hr := hr.below (show Below w5.heap.size w5 w9 from ext_trans hb56 hb9)
    replace hb1 := ext_trans hb1 hb9
    clear hown7 hown8 hb7 hb8 hb9 hown6
    go_wp2_with fail
    refine (place_any cut (2 + len) _ (by omega)).mono ?_
    rintro e w10 ⟨m, rfl, hm, hb10⟩
    have hr9 := hown9.row.below hb10
    replace hr6 := hr6.below hb10
    replace hr := hr.below hb10
    replace hb1 := ext_trans hb1 hb10
    clear hb10
    have hc6 := hr6.cap_le
    go_wp2_with fail
    refine (takeBytes_short_bel (some ⟨g6, 0, none⟩) m c6 ((putB len 2 ++ s).take m) _ (hr6.pre m (by omega)) (HS.out m (by omega))).mono ?_
    rintro e w11 ⟨rfl, hb11⟩
    replace hr9 := hr9.below hb11
    replace hr := hr.below hb11
    replace hb1 := ext_trans hb1 hb11
    have hs1 := run_str (P := Try.prog) w11 22 9 5 Try.underlying22 Try.underlying5 Try.underlying9 _ _ _ _ hr9
    have hs2 := run_str (P := Try.prog) w11 22 9 5 Try.underlying22 Try.underlying5 Try.underlying9 _ _ _ _ hr
    have hl2 : ((2 : Int) + len == len + 2) = true := by simp; omega
    clear hb11 hr9 hr hr6
    go_wp2_with fail
    go_ret
    exact ⟨rfl, hb1⟩
end Go.Proofs.Ytinelpegpcfoaaa
