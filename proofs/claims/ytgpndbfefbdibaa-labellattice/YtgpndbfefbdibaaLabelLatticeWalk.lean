/- LabelLattice answers true: the walk. -/
import Derived.Test.YtgpndbfefbdibaaLatLast
import Derived.Test.YtgpndbfefbdibaaLatBounds
import Derived.Test.YtgpndbfefbdibaaLatOrder
namespace Go.Proofs.Ytgpndbfefbdibaa
open Go.RowKit
set_option linter.unusedVariables false

set_option maxHeartbeats 8000000 in
set_option maxRecDepth 100000 in
theorem labelLattice_walk (d1 : Int) (hd1 : 0 ≤ d1 ∧ d1 < 256) (a1 : Option Addr) (n1 c1 : Nat) (xs : List (Int × Int)) (d2 : Int) (hd2 : 0 ≤ d2 ∧ d2 < 256) (a2 : Option Addr) (n2 c2 : Nat) (ys : List (Int × Int)) (d3 : Int) (hd3 : 0 ≤ d3 ∧ d3 < 256) (a3 : Option Addr) (n3 c3 : Nat) (vs : List (Int × Int)) (w : World) (hr : RowG PE w a1 n1 c1 xs) (hs : RowG PE w a2 n2 c2 ys) (hv : RowG PE w a3 n3 c3 vs) :
    Calls Try.prog 6 #[.agg #[.int .u8 d1, .slice a1 n1 c1], .agg #[.int .u8 d2, .slice a2 n2 c2], .agg #[.int .u8 d3, .slice a3 n3 c3]] w fun e w' => e = .returned (.bool true) ∧ Below w.heap.size w w' := by
  have h0 : Below w.heap.size w (((w.alloc (.cells #[.int .u8 d1, .slice a1 n1 c1] 24)).alloc (.cells #[.int .u8 d2, .slice a2 n2 c2] 24)).alloc (.cells #[.int .u8 d3, .slice a3 n3 c3] 24)) := ext_trans (two_allocs _ _ _) (below_alloc _ _)
  have HK : Hid (∀ W, Below (((w.alloc (.cells #[.int .u8 d1, .slice a1 n1 c1] 24)).alloc (.cells #[.int .u8 d2, .slice a2 n2 c2] 24)).alloc (.cells #[.int .u8 d3, .slice a3 n3 c3] 24)).heap.size (((w.alloc (.cells #[.int .u8 d1, .slice a1 n1 c1] 24)).alloc (.cells #[.int .u8 d2, .slice a2 n2 c2] 24)).alloc (.cells #[.int .u8 d3, .slice a3 n3 c3] 24)) W → (W.cell? ⟨w.heap.size, 0, none⟩ = some (.int .u8 d1) ∧ W.cell? ⟨w.heap.size, 1, none⟩ = some (.slice a1 n1 c1) ∧ W.cell? ⟨w.heap.size + 1, 0, none⟩ = some (.int .u8 d2) ∧ W.cell? ⟨w.heap.size + 1, 1, none⟩ = some (.slice a2 n2 c2) ∧ W.cell? ⟨w.heap.size + 1 + 1, 0, none⟩ = some (.int .u8 d3) ∧ W.cell? ⟨w.heap.size + 1 + 1, 1, none⟩ = some (.slice a3 n3 c3)) ∧ (RowG PE W a1 n1 c1 xs ∧ RowG PE W a2 n2 c2 ys ∧ RowG PE W a3 n3 c3 vs) ∧ Below w.heap.size w W) := fun W h =>
    ⟨⟨by rw [h.cell (by first | (simp; done) | (simp; omega))]; first | (simp; done) | exact cell_old _ (by simp; done) | exact cell_old _ (cell_old _ (by simp; done)) | exact cell_of_heap (heap_new_at _ _ _ (by simp)) 0 _ rfl | exact cell_of_heap (heap_new_at _ _ _ (by simp)) 1 _ rfl, by rw [h.cell (by first | (simp; done) | (simp; omega))]; first | (simp; done) | exact cell_old _ (by simp; done) | exact cell_old _ (cell_old _ (by simp; done)) | exact cell_of_heap (heap_new_at _ _ _ (by simp)) 0 _ rfl | exact cell_of_heap (heap_new_at _ _ _ (by simp)) 1 _ rfl, by rw [h.cell (by first | (simp; done) | (simp; omega))]; first | (simp; done) | exact cell_old _ (by simp; done) | exact cell_old _ (cell_old _ (by simp; done)) | exact cell_of_heap (heap_new_at _ _ _ (by simp)) 0 _ rfl | exact cell_of_heap (heap_new_at _ _ _ (by simp)) 1 _ rfl, by rw [h.cell (by first | (simp; done) | (simp; omega))]; first | (simp; done) | exact cell_old _ (by simp; done) | exact cell_old _ (cell_old _ (by simp; done)) | exact cell_of_heap (heap_new_at _ _ _ (by simp)) 0 _ rfl | exact cell_of_heap (heap_new_at _ _ _ (by simp)) 1 _ rfl, by rw [h.cell (by first | (simp; done) | (simp; omega))]; first | (simp; done) | exact cell_old _ (by simp; done) | exact cell_old _ (cell_old _ (by simp; done)) | exact cell_of_heap (heap_new_at _ _ _ (by simp)) 0 _ rfl | exact cell_of_heap (heap_new_at _ _ _ (by simp)) 1 _ rfl, by rw [h.cell (by first | (simp; done) | (simp; omega))]; first | (simp; done) | exact cell_old _ (by simp; done) | exact cell_old _ (cell_old _ (by simp; done)) | exact cell_of_heap (heap_new_at _ _ _ (by simp)) 0 _ rfl | exact cell_of_heap (heap_new_at _ _ _ (by simp)) 1 _ rfl⟩, ⟨hr.below (ext_trans h0 h), hs.below (ext_trans h0 h), hv.below (ext_trans h0 h)⟩, ext_trans h0 h⟩
  clear h0
  go_enter Try.func6, Try.ntmps6
  go_wp2_with fail
  refine (begun_true _).mono ?_
  rintro e w1 ⟨rfl, hb1⟩
  obtain ⟨⟨_, _, _, _, _, _⟩, ⟨rx1, ry1, rv1⟩, _⟩ := HK.out _ hb1
  go_wp2_with fail
  refine (light_any d1 a1 n1 c1 xs _ rx1).mono ?_
  rintro e w2 ⟨rfl, hb2⟩
  replace hb2 := ext_trans hb1 hb2
  obtain ⟨⟨_, _, _, _, _, _⟩, ⟨rx2, ry2, rv2⟩, hbw2⟩ := HK.out _ hb2
  clear rx1 ry1 rv1 hb1
  cases hlb : lightB d1 xs
  · go_wp2_with fail
    go_ret
    exact ⟨rfl, hbw2⟩
  obtain ⟨hn1, hlx, hcx⟩ := light_true hd1.1 (fun p hp => (hr.ok p hp).2.1) hlb
  clear hlb
  go_wp2_with fail
  refine (light_any d2 a2 n2 c2 ys _ ry2).mono ?_
  rintro e w3 ⟨rfl, hb3⟩
  replace hb3 := ext_trans hb2 hb3
  obtain ⟨⟨_, _, _, _, _, _⟩, ⟨rx3, ry3, rv3⟩, hbw3⟩ := HK.out _ hb3
  clear rx2 ry2 rv2 hb2 hbw2
  cases hlb : lightB d2 ys
  · go_wp2_with fail
    go_ret
    exact ⟨rfl, hbw3⟩
  obtain ⟨hn2, hly, hcy⟩ := light_true hd2.1 (fun p hp => (hs.ok p hp).2.1) hlb
  clear hlb
  go_wp2_with fail
  refine (light_any d3 a3 n3 c3 vs _ rv3).mono ?_
  rintro e W1 ⟨rfl, hb4⟩
  replace hb4 := ext_trans hb3 hb4
  obtain ⟨⟨k0, k1, k2, k3, k4, k5⟩, ⟨rx4, ry4, rv4⟩, hbW1⟩ := HK.out _ hb4
  clear rx3 ry3 rv3 hb3 hbw3 HK
  cases hlb : lightB d3 vs
  · go_wp2_with fail
    go_ret
    exact ⟨rfl, hbW1⟩
  · obtain ⟨hn3, hlv, hcv⟩ := light_true hd3.1 (fun p hp => (hv.ok p hp).2.1) hlb
    clear hlb
    have hux := hcx.1
    have huy := hcy.1
    have huv := hcv.1
    have hn1' : n1 ≤ 24 := by have := hr.len; omega
    have hn2' : n2 ≤ 24 := by have := hs.len; omega
    have hn3' : n3 ≤ 24 := by have := hv.len; omega
    have hnx : ∀ p ∈ xs, 0 ≤ p.1 := fun p hp => (hr.ok p hp).1.1
    have hny : ∀ p ∈ ys, 0 ≤ p.1 := fun p hp => (hs.ok p hp).1.1
    have HC1 : Hid (∀ W, Below W1.heap.size W1 W → (W.cell? ⟨w.heap.size, 0, none⟩ = some (.int .u8 d1) ∧ W.cell? ⟨w.heap.size, 1, none⟩ = some (.slice a1 n1 c1) ∧ W.cell? ⟨w.heap.size + 1, 0, none⟩ = some (.int .u8 d2) ∧ W.cell? ⟨w.heap.size + 1, 1, none⟩ = some (.slice a2 n2 c2) ∧ W.cell? ⟨w.heap.size + 1 + 1, 0, none⟩ = some (.int .u8 d3) ∧ W.cell? ⟨w.heap.size + 1 + 1, 1, none⟩ = some (.slice a3 n3 c3)) ∧ (RowG PE W a1 n1 c1 xs ∧ RowG PE W a2 n2 c2 ys ∧ RowG PE W a3 n3 c3 vs)) := fun W h =>
      ⟨⟨by rw [h.cell (lt_of_cell k0)]; exact k0, by rw [h.cell (lt_of_cell k1)]; exact k1, by rw [h.cell (lt_of_cell k2)]; exact k2, by rw [h.cell (lt_of_cell k3)]; exact k3, by rw [h.cell (lt_of_cell k4)]; exact k4, by rw [h.cell (lt_of_cell k5)]; exact k5⟩, rx4.below h, ry4.below h, rv4.below h⟩
    have hBd0 : Below W1.heap.size W1 W1.drew := ext_drew _
    clear k0 k1 k2 k3 k4 k5 rx4 ry4 rv4 hb4 hn1 hn2 hn3
    go_wp2_with fail
    rename_i K hK
    have cont : Hid (∀ (a : Act) (W : World) (gj gm : Nat) (soj : Option Addr) (kj coj : Nat) (som : Option Addr) (km com : Nat), a = { tmps := #[sl a 0, sl a 1, sl a 2, .pointer (some ⟨w.heap.size, 0, none⟩), .pointer (some ⟨w.heap.size + 1, 0, none⟩), .pointer (some ⟨w.heap.size + 1 + 1, 0, none⟩), .bool false, .func (.func 13) #[] #[], .pointer (some ⟨gj, 0, none⟩), .pointer (some ⟨gm, 0, none⟩), sl a 10, sl a 11, sl a 12, sl a 13, sl a 14, sl a 15, sl a 16, sl a 17, sl a 18, sl a 19, sl a 20, sl a 21, sl a 22, sl a 23, sl a 24, sl a 25, sl a 26, sl a 27, sl a 28, sl a 29, sl a 30, sl a 31, sl a 32, sl a 33, sl a 34, sl a 35, sl a 36, sl a 37, sl a 38, sl a 39, sl a 40, sl a 41, sl a 42, sl a 43, sl a 44, sl a 45, sl a 46, sl a 47, sl a 48, sl a 49, sl a 50, sl a 51, sl a 52, sl a 53, sl a 54, sl a 55, sl a 56, sl a 57, sl a 58, sl a 59, sl a 60, sl a 61, sl a 62, sl a 63, sl a 64, sl a 65, sl a 66, sl a 67, sl a 68, sl a 69, sl a 70, sl a 71, sl a 72, sl a 73, sl a 74, sl a 75, sl a 76, sl a 77, sl a 78, sl a 79, sl a 80, sl a 81, sl a 82, sl a 83, sl a 84, sl a 85, sl a 86, sl a 87, sl a 88, sl a 89, sl a 90, sl a 91, sl a 92, sl a 93, sl a 94, sl a 95, sl a 96, sl a 97, sl a 98, sl a 99, sl a 100, sl a 101, sl a 102, sl a 103, sl a 104, sl a 105, sl a 106, sl a 107, sl a 108, sl a 109, sl a 110, sl a 111, sl a 112, sl a 113, sl a 114, sl a 115, sl a 116, sl a 117, sl a 118, sl a 119, sl a 120, sl a 121, sl a 122, sl a 123, sl a 124, sl a 125, sl a 126, sl a 127, sl a 128, sl a 129, sl a 130, sl a 131, sl a 132, sl a 133, sl a 134, sl a 135, sl a 136, sl a 137, sl a 138, sl a 139, sl a 140, sl a 141, sl a 142, sl a 143, sl a 144, sl a 145, sl a 146, sl a 147, sl a 148, sl a 149, sl a 150, sl a 151, sl a 152, sl a 153, sl a 154, sl a 155, sl a 156, sl a 157, sl a 158, sl a 159, sl a 160, sl a 161, sl a 162, sl a 163, sl a 164, sl a 165, sl a 166, sl a 167, sl a 168, sl a 169, sl a 170, sl a 171, sl a 172], defers := [] } →
        W.heap[gj]? = some (.cells #[.int .u8 (max d1 d2), .slice soj kj coj] 24 (0, 0)) → W.heap[gm]? = some (.cells #[.int .u8 (min d1 d2), .slice som km com] 24 (0, 0)) → RowG PE W soj kj coj (comb max d1 d2 xs ys) → RowG PE W som km com (comb min d1 d2 xs ys) → Below W1.heap.size W1 W → K a W) := by
      intro a W gj gm soj kj coj som km com hact Hj Hm rj rm hbW
      have hcj := comb_can max d1 d2 hux huy
      have hcm := comb_can min d1 d2 hux huy
      have hlj := comb_lv max_lv hlx hly
      have hlm := comb_lv min_lv hlx hly
      have hkj : kj ≤ 48 := by have h1 := rj.len; have h2 := comb_len max d1 d2 xs ys; have h3 := hr.len; have h4 := hs.len; omega
      have hkm : km ≤ 48 := by have h1 := rm.len; have h2 := comb_len min d1 d2 xs ys; have h3 := hr.len; have h4 := hs.len; omega
      have huj := hcj.1
      have hum := hcm.1
      have hle := lat_eqs hcx hcy hcv hlx hly hlv hnx hny (fun p hp => (rj.ok p hp).1.1)
      have hlf := lat_facts (d3 := d3) (vs := vs) hcx hcy hnx hny
      obtain ⟨Dj, hDj⟩ : ∃ D, D = max d1 d2 := ⟨_, rfl⟩
      obtain ⟨Dm, hDm⟩ : ∃ D, D = min d1 d2 := ⟨_, rfl⟩
      obtain ⟨zj, hzj⟩ : ∃ z, z = comb max d1 d2 xs ys := ⟨_, rfl⟩
      obtain ⟨zm, hzm⟩ : ∃ z, z = comb min d1 d2 xs ys := ⟨_, rfl⟩
      rw [← hDj, ← hDm, ← hzj, ← hzm] at hle hlf
      rw [← hDj] at Hj
      rw [← hDm] at Hm
      rw [← hzj] at rj huj
      rw [← hzm] at rm hum
      rw [← hDj, ← hzj] at hlj
      rw [← hDm, ← hzm] at hlm
      have HE : Hid (_) := hle
      have HL : Hid (_) := hlf
      clear hle hlf hDj hDm hzj hzm hcj hcm
      have j0 : W.cell? ⟨gj, 0, none⟩ = some (.int .u8 Dj) := cell_of_heap Hj 0 _ rfl
      have j1 : W.cell? ⟨gj, 1, none⟩ = some (.slice soj kj coj) := cell_of_heap Hj 1 _ rfl
      have m0 : W.cell? ⟨gm, 0, none⟩ = some (.int .u8 Dm) := cell_of_heap Hm 0 _ rfl
      have m1 : W.cell? ⟨gm, 1, none⟩ = some (.slice som km com) := cell_of_heap Hm 1 _ rfl
      have HD : Hid (∀ V, Below W.heap.size W V → (V.cell? ⟨w.heap.size, 0, none⟩ = some (.int .u8 d1) ∧ V.cell? ⟨w.heap.size, 1, none⟩ = some (.slice a1 n1 c1) ∧ V.cell? ⟨w.heap.size + 1, 0, none⟩ = some (.int .u8 d2) ∧ V.cell? ⟨w.heap.size + 1, 1, none⟩ = some (.slice a2 n2 c2) ∧ V.cell? ⟨w.heap.size + 1 + 1, 0, none⟩ = some (.int .u8 d3) ∧ V.cell? ⟨w.heap.size + 1 + 1, 1, none⟩ = some (.slice a3 n3 c3) ∧ V.cell? ⟨gj, 0, none⟩ = some (.int .u8 Dj) ∧ V.cell? ⟨gj, 1, none⟩ = some (.slice soj kj coj) ∧ V.cell? ⟨gm, 0, none⟩ = some (.int .u8 Dm) ∧ V.cell? ⟨gm, 1, none⟩ = some (.slice som km com)) ∧ RowG PE V a1 n1 c1 xs ∧ RowG PE V a2 n2 c2 ys ∧ RowG PE V a3 n3 c3 vs ∧ RowG PE V soj kj coj zj ∧ RowG PE V som km com zm) := fun V h => by
        have h2 := HC1.out V (ext_trans hbW h)
        exact ⟨⟨h2.1.1, h2.1.2.1, h2.1.2.2.1, h2.1.2.2.2.1, h2.1.2.2.2.2.1, h2.1.2.2.2.2.2, by rw [h.cell (lt_of_cell j0)]; exact j0, by rw [h.cell (lt_of_cell j1)]; exact j1, by rw [h.cell (lt_of_cell m0)]; exact m0, by rw [h.cell (lt_of_cell m1)]; exact m1⟩, h2.2.1, h2.2.2.1, h2.2.2.2, rj.below h, rm.below h⟩
      have HB : Hid (∀ V, Below W.heap.size W V → Below w.heap.size w V) := fun V h => ext_trans (ext_trans hbW1 hbW) h
      clear HC1 rj rm Hj Hm hbW j0 j1 m0 m1
      revert hact
      generalize sl a = s
      rintro rfl
      refine hK _ _ ?_
      clear hK
      refine wp_seq_k fun KB hKB => ?_
      have CB : Hid (∀ (a : Act) (V : World), a = { tmps := #[sl a 0, sl a 1, sl a 2, .pointer (some ⟨w.heap.size, 0, none⟩), .pointer (some ⟨w.heap.size + 1, 0, none⟩), .pointer (some ⟨w.heap.size + 1 + 1, 0, none⟩), .bool false, .func (.func 13) #[] #[], .pointer (some ⟨gj, 0, none⟩), .pointer (some ⟨gm, 0, none⟩), .bool true, sl a 11, sl a 12, sl a 13, sl a 14, sl a 15, sl a 16, sl a 17, sl a 18, sl a 19, sl a 20, sl a 21, sl a 22, sl a 23, sl a 24, sl a 25, sl a 26, sl a 27, sl a 28, sl a 29, sl a 30, sl a 31, sl a 32, sl a 33, sl a 34, sl a 35, sl a 36, sl a 37, sl a 38, sl a 39, sl a 40, sl a 41, sl a 42, sl a 43, sl a 44, sl a 45, sl a 46, sl a 47, sl a 48, sl a 49, sl a 50, sl a 51, sl a 52, sl a 53, sl a 54, sl a 55, sl a 56, sl a 57, sl a 58, sl a 59, sl a 60, sl a 61, sl a 62, sl a 63, sl a 64, sl a 65, sl a 66, sl a 67, sl a 68, sl a 69, sl a 70, sl a 71, sl a 72, sl a 73, sl a 74, sl a 75, sl a 76, sl a 77, sl a 78, sl a 79, sl a 80, sl a 81, sl a 82, sl a 83, sl a 84, sl a 85, sl a 86, sl a 87, sl a 88, sl a 89, sl a 90, sl a 91, sl a 92, sl a 93, sl a 94, sl a 95, sl a 96, sl a 97, sl a 98, sl a 99, sl a 100, sl a 101, sl a 102, sl a 103, sl a 104, sl a 105, sl a 106, sl a 107, sl a 108, sl a 109, sl a 110, sl a 111, sl a 112, sl a 113, sl a 114, sl a 115, sl a 116, sl a 117, sl a 118, sl a 119, sl a 120, sl a 121, sl a 122, sl a 123, sl a 124, sl a 125, sl a 126, sl a 127, sl a 128, sl a 129, sl a 130, sl a 131, sl a 132, sl a 133, sl a 134, sl a 135, sl a 136, sl a 137, sl a 138, sl a 139, sl a 140, sl a 141, sl a 142, sl a 143, sl a 144, sl a 145, sl a 146, sl a 147, sl a 148, sl a 149, sl a 150, sl a 151, sl a 152, sl a 153, sl a 154, sl a 155, sl a 156, sl a 157, sl a 158, sl a 159, sl a 160, sl a 161, sl a 162, sl a 163, sl a 164, sl a 165, sl a 166, sl a 167, sl a 168, sl a 169, sl a 170, sl a 171, sl a 172], defers := [] } → Below W.heap.size W V → KB a V) := by
        intro a V hact hbS
        generalize sl a = s at hact
        subst hact
        refine hKB _ _ ?_
        clear hKB
        refine wp_seq_k fun KC hKC => ?_
        have CC : Hid (∀ (a : Act) (V : World), a = { tmps := #[sl a 0, sl a 1, sl a 2, .pointer (some ⟨w.heap.size, 0, none⟩), .pointer (some ⟨w.heap.size + 1, 0, none⟩), .pointer (some ⟨w.heap.size + 1 + 1, 0, none⟩), .bool false, .func (.func 13) #[] #[], .pointer (some ⟨gj, 0, none⟩), .pointer (some ⟨gm, 0, none⟩), .bool true, .bool true, sl a 12, sl a 13, sl a 14, sl a 15, sl a 16, sl a 17, sl a 18, sl a 19, sl a 20, sl a 21, sl a 22, sl a 23, sl a 24, sl a 25, sl a 26, sl a 27, sl a 28, sl a 29, sl a 30, sl a 31, sl a 32, sl a 33, sl a 34, sl a 35, sl a 36, sl a 37, sl a 38, sl a 39, sl a 40, sl a 41, sl a 42, sl a 43, sl a 44, sl a 45, sl a 46, sl a 47, sl a 48, sl a 49, sl a 50, sl a 51, sl a 52, sl a 53, sl a 54, sl a 55, sl a 56, sl a 57, sl a 58, sl a 59, sl a 60, sl a 61, sl a 62, sl a 63, sl a 64, sl a 65, sl a 66, sl a 67, sl a 68, sl a 69, sl a 70, sl a 71, sl a 72, sl a 73, sl a 74, sl a 75, sl a 76, sl a 77, sl a 78, sl a 79, sl a 80, sl a 81, sl a 82, sl a 83, sl a 84, sl a 85, sl a 86, sl a 87, sl a 88, sl a 89, sl a 90, sl a 91, sl a 92, sl a 93, sl a 94, sl a 95, sl a 96, sl a 97, sl a 98, sl a 99, sl a 100, sl a 101, sl a 102, sl a 103, sl a 104, sl a 105, sl a 106, sl a 107, sl a 108, sl a 109, sl a 110, sl a 111, sl a 112, sl a 113, sl a 114, sl a 115, sl a 116, sl a 117, sl a 118, sl a 119, sl a 120, sl a 121, sl a 122, sl a 123, sl a 124, sl a 125, sl a 126, sl a 127, sl a 128, sl a 129, sl a 130, sl a 131, sl a 132, sl a 133, sl a 134, sl a 135, sl a 136, sl a 137, sl a 138, sl a 139, sl a 140, sl a 141, sl a 142, sl a 143, sl a 144, sl a 145, sl a 146, sl a 147, sl a 148, sl a 149, sl a 150, sl a 151, sl a 152, sl a 153, sl a 154, sl a 155, sl a 156, sl a 157, sl a 158, sl a 159, sl a 160, sl a 161, sl a 162, sl a 163, sl a 164, sl a 165, sl a 166, sl a 167, sl a 168, sl a 169, sl a 170, sl a 171, sl a 172], defers := [] } → Below W.heap.size W V → KC a V) := by
          intro a W5 hact hbS
          generalize sl a = s at hact
          subst hact
          refine hKC _ _ ?_
          clear hKC
          exact lat_last d1 d2 d3 Dj Dm a1 a2 a3 soj som n1 c1 n2 c2 n3 c3 kj coj km com gj gm xs ys vs zj zm w W hlx hly hlv hlj hlm hux huy huv huj hum hn1' hn2' hn3' hkj hkm HL HE HD HB W5 hbS s
        clear hKC
        exact lat_bounds d1 d2 d3 Dj Dm a1 a2 a3 soj som n1 c1 n2 c2 n3 c3 kj coj km com gj gm xs ys vs zj zm w W hlx hly hlv hlj hlm hux huy huv huj hum hn1' hn2' hn3' hkj hkm HL HE HD HB KC _ CC V hbS s
      clear hKB
      exact lat_order d1 d2 d3 Dj Dm a1 a2 a3 soj som n1 c1 n2 c2 n3 c3 kj coj km com gj gm xs ys vs zj zm w W hlx hly hlv hlj hlm hux huy huv huj hum hn1' hn2' hn3' hkj hkm HL HE HD HB KB _ CB s
    clear hK
    refine wp_region_noPanic ?_
    refine wp_region_held_drew (S := fun W => Below W1.heap.size W1 W) (by kernel_rfl) hBd0 fun hS => ?_
    obtain ⟨Wd, hWd⟩ : ∃ x, x = W1.drew := ⟨_, rfl⟩
    rw [← hWd]
    rw [← hWd] at hS
    have hBd : Below W1.heap.size W1 Wd := hWd ▸ ext_drew _
    clear hWd
    refine take_to (i := 0) (v := ?_) 27 rfl rfl (by kernel_rfl) (by kernel_rfl) (by kernel_rfl) (fun _ _ _ h => h) (Or.inl ⟨by rfl, ?_⟩) hS ?_
    rotate_left
    · intro W hW
      obtain ⟨⟨s0, s1, s2, s3, s4, s5⟩, _⟩ := HC1.out W hW
      go_simp
      try with_reducible rfl
    simp only [List.setIfInBounds_toArray, List.set_cons_zero, List.set_cons_succ]
    refine take_to (i := 1) (v := ?_) 28 rfl rfl (by kernel_rfl) (by kernel_rfl) (by kernel_rfl) (fun _ _ _ h => h) (Or.inl ⟨by rfl, ?_⟩) hS ?_
    rotate_left
    · intro W hW
      obtain ⟨⟨s0, s1, s2, s3, s4, s5⟩, _⟩ := HC1.out W hW
      go_simp
      try with_reducible rfl
    simp only [List.setIfInBounds_toArray, List.set_cons_zero, List.set_cons_succ]
    refine take_to (i := 3) (v := ?_) 30 rfl rfl (by kernel_rfl) (by kernel_rfl) (by kernel_rfl) (fun _ _ _ h => h) (Or.inl ⟨by rfl, ?_⟩) hS ?_
    rotate_left
    · intro W hW
      obtain ⟨⟨s0, s1, s2, s3, s4, s5⟩, _⟩ := HC1.out W hW
      go_simp
      try with_reducible rfl
    simp only [List.setIfInBounds_toArray, List.set_cons_zero, List.set_cons_succ]
    refine take_to (i := 4) (v := ?_) 31 rfl rfl (by kernel_rfl) (by kernel_rfl) (by kernel_rfl) (fun _ _ _ h => h) (Or.inl ⟨by rfl, ?_⟩) hS ?_
    rotate_left
    · intro W hW
      obtain ⟨⟨s0, s1, s2, s3, s4, s5⟩, _⟩ := HC1.out W hW
      go_simp
      try with_reducible rfl
    simp only [List.setIfInBounds_toArray, List.set_cons_zero, List.set_cons_succ]
    refine wpAnyH_ready (rs := [2, 6, 7]) (by kernel_rfl) (by simp) ?_
    refine AllReadyH.cons rfl (fun K hK => ?_) (AllReadyH.cons rfl (fun K hK => ?_) (AllReadyH.cons rfl (fun K hK => ?_) AllReadyH.nil))
    · go_simp
      refine (joinL_any d1 d2 a1 a2 n1 c1 n2 c2 xs ys _ (hr.below (ext_trans hbW1 hBd)) (hs.below (ext_trans hbW1 hBd)) hlx hly (by omega)).mono ?_
      rintro e v1 ⟨soj, kj, coj, rfl, hoj, hb1⟩
      replace hb1 := ext_trans hBd hb1
      refine hK.out _ _ hb1 fun hS => ?_
      clear hK K
      refine wpAnyH_ready (rs := [5, 6, 7]) (by kernel_rfl) (by simp) ?_
      refine AllReadyH.cons rfl (fun K hK => ?_) (AllReadyH.cons rfl (fun K hK => ?_) (AllReadyH.cons rfl (fun K hK => ?_) AllReadyH.nil))
      · go_simp
        refine (meetL_any d1 d2 a1 a2 n1 c1 n2 c2 xs ys _ (hr.below (ext_trans hbW1 hb1)) (hs.below (ext_trans hbW1 hb1)) hlx hly (by omega)).mono ?_
        rintro e v2 ⟨som, km, com, rfl, hom, hb2⟩
        replace hoj := hoj.below hb2
        replace hb2 := ext_trans hb1 hb2
        refine hK.out _ _ hb2 fun hS => ?_
        clear hK K
        refine wpAnyH_ready (rs := [6, 7]) (by kernel_rfl) (by simp) ?_
        refine AllReadyH.cons rfl (fun K hK => ?_) (AllReadyH.cons rfl (fun K hK => ?_) AllReadyH.nil)
        · go_simp
          obtain ⟨v3, hv3⟩ : ∃ x, x = v2.alloc (Obj.cells #[Value.int IntKind.u8 0, Value.slice none 0 0] 24) := ⟨_, rfl⟩
          rw [← hv3]
          have Hgj : v3.heap[v2.heap.size]? = some (.cells #[.int .u8 0, .slice none 0 0] 24 (0, 0)) := hv3 ▸ heap_new_at _ _ _ rfl
          have hb3 : Below v2.heap.size v2 v3 := hv3 ▸ below_alloc _ _
          have nejgj : ∀ x, soj = some x → x.block ≠ v2.heap.size := fun x hx => by subst hx; have := (own_block hoj x.block (by simp [Value.ownBlock])).2; omega
          replace hoj := hoj.below hb3
          have nemgj : ∀ x, som = some x → x.block ≠ v2.heap.size := fun x hx => by subst hx; have := (own_block hom x.block (by simp [Value.ownBlock])).2; omega
          replace hom := hom.below hb3
          have logj : W1.heap.size ≤ v2.heap.size := hb2.size
          replace hb3 := ext_trans hb2 hb3
          refine hK.out _ _ hb3 fun hS => ?_
          clear hK K hv3
          refine wpAnyH_ready (rs := [7]) (by kernel_rfl) (by simp) ?_
          refine AllReadyH.cons rfl (fun K hK => ?_) AllReadyH.nil
          go_simp
          obtain ⟨v4, hv4⟩ : ∃ x, x = v3.alloc (Obj.cells #[Value.int IntKind.u8 0, Value.slice none 0 0] 24) := ⟨_, rfl⟩
          rw [← hv4]
          have Hgm : v4.heap[v3.heap.size]? = some (.cells #[.int .u8 0, .slice none 0 0] 24 (0, 0)) := hv4 ▸ heap_new_at _ _ _ rfl
          have hb4 : Below v3.heap.size v3 v4 := hv4 ▸ below_alloc _ _
          have nejgm : ∀ x, soj = some x → x.block ≠ v3.heap.size := fun x hx => by subst hx; have := (own_block hoj x.block (by simp [Value.ownBlock])).2; omega
          replace hoj := hoj.below hb4
          have nemgm : ∀ x, som = some x → x.block ≠ v3.heap.size := fun x hx => by subst hx; have := (own_block hom x.block (by simp [Value.ownBlock])).2; omega
          replace hom := hom.below hb4
          have gne : v2.heap.size ≠ v3.heap.size := by have := (Array.getElem?_eq_some_iff.1 Hgj).1; omega
          replace Hgj := (hb4.block _ (Array.getElem?_eq_some_iff.1 Hgj).1).trans Hgj
          have logm : W1.heap.size ≤ v3.heap.size := hb3.size
          replace hb4 := ext_trans hb3 hb4
          refine hK.out _ _ hb4 fun hS => ?_
          clear hK K hv4
          have gjm : v2.heap.size ≠ v3.heap.size := gne
          have j0 := cell_of_heap Hgj 0 _ rfl
          have j1 := cell_of_heap Hgj 1 _ rfl
          have jf0 : v4.frozen? ⟨v2.heap.size, 0, none⟩ = false := frozen_of_row v4 _ 0 _ 24 Hgj
          have jf1 : v4.frozen? ⟨v2.heap.size, 1, none⟩ = false := frozen_of_row v4 _ 1 _ 24 Hgj
          refine wpAnyH_ready (rs := [8]) (by kernel_rfl) (by simp) ?_
          refine AllReadyH.cons rfl (fun K hK => ?_) AllReadyH.nil
          go_simp
          obtain ⟨V8, hV8⟩ : ∃ x, x = (v4.setCell ⟨v2.heap.size, 0, none⟩ (.int .u8 (max d1 d2))).setCell ⟨v2.heap.size, 1, none⟩ (.slice soj kj coj) := ⟨_, rfl⟩
          rw [← hV8]
          obtain ⟨Hgj8, hg8⟩ := lab_store (D := max d1 d2) (so := soj) (k := kj) (co := coj) Hgj
          rw [← hV8] at Hgj8 hg8
          have Hgm8 := (hg8.block _ (Array.getElem?_eq_some_iff.1 Hgm).1 (by simpa using gjm.symm)).trans Hgm
          have hoj8 := hoj.grown hg8 (fun x hx e => nejgj x hx (by simpa using e.symm))
          have hom8 := hom.grown hg8 (fun x hx e => nemgj x hx (by simpa using e.symm))
          have hb8 : Below W1.heap.size W1 V8 := hb4.trans (below_of_grown hg8 hb4.size (fun x hx => by obtain rfl := Option.some.inj hx; exact logj))
          refine hK.out _ _ hb8 fun hS => ?_
          clear hK K hV8 j0 j1 jf0 jf1 Hgj hoj hom Hgm hg8
          have m0 := cell_of_heap Hgm8 0 _ rfl
          have m1 := cell_of_heap Hgm8 1 _ rfl
          have mf0 : V8.frozen? ⟨v3.heap.size, 0, none⟩ = false := frozen_of_row V8 _ 0 _ 24 Hgm8
          have mf1 : V8.frozen? ⟨v3.heap.size, 1, none⟩ = false := frozen_of_row V8 _ 1 _ 24 Hgm8
          refine wpAnyH_ready (rs := [9]) (by kernel_rfl) (by simp) ?_
          refine AllReadyH.cons rfl (fun K hK => ?_) AllReadyH.nil
          go_simp
          obtain ⟨V9, hV9⟩ : ∃ x, x = (V8.setCell ⟨v3.heap.size, 0, none⟩ (.int .u8 (min d1 d2))).setCell ⟨v3.heap.size, 1, none⟩ (.slice som km com) := ⟨_, rfl⟩
          rw [← hV9]
          obtain ⟨Hgm9, hg9⟩ := lab_store (D := min d1 d2) (so := som) (k := km) (co := com) Hgm8
          rw [← hV9] at Hgm9 hg9
          have Hgj9 := (hg9.block _ (Array.getElem?_eq_some_iff.1 Hgj8).1 (by simpa using gjm)).trans Hgj8
          have hoj9 := hoj8.grown hg9 (fun x hx e => nejgm x hx (by simpa using e.symm))
          have hom9 := hom8.grown hg9 (fun x hx e => nemgm x hx (by simpa using e.symm))
          have hb9 : Below W1.heap.size W1 V9 := hb8.trans (below_of_grown hg9 hb8.size (fun x hx => by obtain rfl := Option.some.inj hx; exact logm))
          refine hK.out _ _ hb9 fun hS => ?_
          clear hK K
          refine wpAnyH_done (by kernel_rfl) ?_ _
          refine NoPanic.normal ?_
          exact cont.out _ _ (v2.heap.size) (v3.heap.size) soj kj coj som km com rfl Hgj9 Hgm9 hoj9.row hom9.row hb9
        · go_simp
          obtain ⟨v5, hv5⟩ : ∃ x, x = v2.alloc (Obj.cells #[Value.int IntKind.u8 0, Value.slice none 0 0] 24) := ⟨_, rfl⟩
          rw [← hv5]
          have Hgm : v5.heap[v2.heap.size]? = some (.cells #[.int .u8 0, .slice none 0 0] 24 (0, 0)) := hv5 ▸ heap_new_at _ _ _ rfl
          have hb5 : Below v2.heap.size v2 v5 := hv5 ▸ below_alloc _ _
          have nejgm : ∀ x, soj = some x → x.block ≠ v2.heap.size := fun x hx => by subst hx; have := (own_block hoj x.block (by simp [Value.ownBlock])).2; omega
          replace hoj := hoj.below hb5
          have nemgm : ∀ x, som = some x → x.block ≠ v2.heap.size := fun x hx => by subst hx; have := (own_block hom x.block (by simp [Value.ownBlock])).2; omega
          replace hom := hom.below hb5
          have logm : W1.heap.size ≤ v2.heap.size := hb2.size
          replace hb5 := ext_trans hb2 hb5
          refine hK.out _ _ hb5 fun hS => ?_
          clear hK K hv5
          refine wpAnyH_ready (rs := [6]) (by kernel_rfl) (by simp) ?_
          refine AllReadyH.cons rfl (fun K hK => ?_) AllReadyH.nil
          go_simp
          obtain ⟨v6, hv6⟩ : ∃ x, x = v5.alloc (Obj.cells #[Value.int IntKind.u8 0, Value.slice none 0 0] 24) := ⟨_, rfl⟩
          rw [← hv6]
          have Hgj : v6.heap[v5.heap.size]? = some (.cells #[.int .u8 0, .slice none 0 0] 24 (0, 0)) := hv6 ▸ heap_new_at _ _ _ rfl
          have hb6 : Below v5.heap.size v5 v6 := hv6 ▸ below_alloc _ _
          have nejgj : ∀ x, soj = some x → x.block ≠ v5.heap.size := fun x hx => by subst hx; have := (own_block hoj x.block (by simp [Value.ownBlock])).2; omega
          replace hoj := hoj.below hb6
          have nemgj : ∀ x, som = some x → x.block ≠ v5.heap.size := fun x hx => by subst hx; have := (own_block hom x.block (by simp [Value.ownBlock])).2; omega
          replace hom := hom.below hb6
          have gne : v2.heap.size ≠ v5.heap.size := by have := (Array.getElem?_eq_some_iff.1 Hgm).1; omega
          replace Hgm := (hb6.block _ (Array.getElem?_eq_some_iff.1 Hgm).1).trans Hgm
          have logj : W1.heap.size ≤ v5.heap.size := hb5.size
          replace hb6 := ext_trans hb5 hb6
          refine hK.out _ _ hb6 fun hS => ?_
          clear hK K hv6
          have gjm : v5.heap.size ≠ v2.heap.size := gne.symm
          have j0 := cell_of_heap Hgj 0 _ rfl
          have j1 := cell_of_heap Hgj 1 _ rfl
          have jf0 : v6.frozen? ⟨v5.heap.size, 0, none⟩ = false := frozen_of_row v6 _ 0 _ 24 Hgj
          have jf1 : v6.frozen? ⟨v5.heap.size, 1, none⟩ = false := frozen_of_row v6 _ 1 _ 24 Hgj
          refine wpAnyH_ready (rs := [8]) (by kernel_rfl) (by simp) ?_
          refine AllReadyH.cons rfl (fun K hK => ?_) AllReadyH.nil
          go_simp
          obtain ⟨V8, hV8⟩ : ∃ x, x = (v6.setCell ⟨v5.heap.size, 0, none⟩ (.int .u8 (max d1 d2))).setCell ⟨v5.heap.size, 1, none⟩ (.slice soj kj coj) := ⟨_, rfl⟩
          rw [← hV8]
          obtain ⟨Hgj8, hg8⟩ := lab_store (D := max d1 d2) (so := soj) (k := kj) (co := coj) Hgj
          rw [← hV8] at Hgj8 hg8
          have Hgm8 := (hg8.block _ (Array.getElem?_eq_some_iff.1 Hgm).1 (by simpa using gjm.symm)).trans Hgm
          have hoj8 := hoj.grown hg8 (fun x hx e => nejgj x hx (by simpa using e.symm))
          have hom8 := hom.grown hg8 (fun x hx e => nemgj x hx (by simpa using e.symm))
          have hb8 : Below W1.heap.size W1 V8 := hb6.trans (below_of_grown hg8 hb6.size (fun x hx => by obtain rfl := Option.some.inj hx; exact logj))
          refine hK.out _ _ hb8 fun hS => ?_
          clear hK K hV8 j0 j1 jf0 jf1 Hgj hoj hom Hgm hg8
          have m0 := cell_of_heap Hgm8 0 _ rfl
          have m1 := cell_of_heap Hgm8 1 _ rfl
          have mf0 : V8.frozen? ⟨v2.heap.size, 0, none⟩ = false := frozen_of_row V8 _ 0 _ 24 Hgm8
          have mf1 : V8.frozen? ⟨v2.heap.size, 1, none⟩ = false := frozen_of_row V8 _ 1 _ 24 Hgm8
          refine wpAnyH_ready (rs := [9]) (by kernel_rfl) (by simp) ?_
          refine AllReadyH.cons rfl (fun K hK => ?_) AllReadyH.nil
          go_simp
          obtain ⟨V9, hV9⟩ : ∃ x, x = (V8.setCell ⟨v2.heap.size, 0, none⟩ (.int .u8 (min d1 d2))).setCell ⟨v2.heap.size, 1, none⟩ (.slice som km com) := ⟨_, rfl⟩
          rw [← hV9]
          obtain ⟨Hgm9, hg9⟩ := lab_store (D := min d1 d2) (so := som) (k := km) (co := com) Hgm8
          rw [← hV9] at Hgm9 hg9
          have Hgj9 := (hg9.block _ (Array.getElem?_eq_some_iff.1 Hgj8).1 (by simpa using gjm)).trans Hgj8
          have hoj9 := hoj8.grown hg9 (fun x hx e => nejgm x hx (by simpa using e.symm))
          have hom9 := hom8.grown hg9 (fun x hx e => nemgm x hx (by simpa using e.symm))
          have hb9 : Below W1.heap.size W1 V9 := hb8.trans (below_of_grown hg9 hb8.size (fun x hx => by obtain rfl := Option.some.inj hx; exact logm))
          refine hK.out _ _ hb9 fun hS => ?_
          clear hK K
          refine wpAnyH_done (by kernel_rfl) ?_ _
          refine NoPanic.normal ?_
          exact cont.out _ _ (v5.heap.size) (v2.heap.size) soj kj coj som km com rfl Hgj9 Hgm9 hoj9.row hom9.row hb9
      · go_simp
        obtain ⟨v7, hv7⟩ : ∃ x, x = v1.alloc (Obj.cells #[Value.int IntKind.u8 0, Value.slice none 0 0] 24) := ⟨_, rfl⟩
        rw [← hv7]
        have Hgj : v7.heap[v1.heap.size]? = some (.cells #[.int .u8 0, .slice none 0 0] 24 (0, 0)) := hv7 ▸ heap_new_at _ _ _ rfl
        have hb7 : Below v1.heap.size v1 v7 := hv7 ▸ below_alloc _ _
        have nejgj : ∀ x, soj = some x → x.block ≠ v1.heap.size := fun x hx => by subst hx; have := (own_block hoj x.block (by simp [Value.ownBlock])).2; omega
        replace hoj := hoj.below hb7
        have logj : W1.heap.size ≤ v1.heap.size := hb1.size
        replace hb7 := ext_trans hb1 hb7
        refine hK.out _ _ hb7 fun hS => ?_
        clear hK K hv7
        refine wpAnyH_ready (rs := [5, 7]) (by kernel_rfl) (by simp) ?_
        refine AllReadyH.cons rfl (fun K hK => ?_) (AllReadyH.cons rfl (fun K hK => ?_) AllReadyH.nil)
        · go_simp
          refine (meetL_any d1 d2 a1 a2 n1 c1 n2 c2 xs ys _ (hr.below (ext_trans hbW1 hb7)) (hs.below (ext_trans hbW1 hb7)) hlx hly (by omega)).mono ?_
          rintro e v8 ⟨som, km, com, rfl, hom, hb8⟩
          have nemgj : ∀ x, som = some x → x.block ≠ v1.heap.size := fun x hx => by subst hx; have := (own_block hom x.block (by simp [Value.ownBlock])).1; have := (Array.getElem?_eq_some_iff.1 Hgj).1; omega
          replace Hgj := (hb8.block _ (Array.getElem?_eq_some_iff.1 Hgj).1).trans Hgj
          replace hoj := hoj.below hb8
          replace hb8 := ext_trans hb7 hb8
          refine hK.out _ _ hb8 fun hS => ?_
          clear hK K
          refine wpAnyH_ready (rs := [7]) (by kernel_rfl) (by simp) ?_
          refine AllReadyH.cons rfl (fun K hK => ?_) AllReadyH.nil
          go_simp
          obtain ⟨v9, hv9⟩ : ∃ x, x = v8.alloc (Obj.cells #[Value.int IntKind.u8 0, Value.slice none 0 0] 24) := ⟨_, rfl⟩
          rw [← hv9]
          have Hgm : v9.heap[v8.heap.size]? = some (.cells #[.int .u8 0, .slice none 0 0] 24 (0, 0)) := hv9 ▸ heap_new_at _ _ _ rfl
          have hb9 : Below v8.heap.size v8 v9 := hv9 ▸ below_alloc _ _
          have nejgm : ∀ x, soj = some x → x.block ≠ v8.heap.size := fun x hx => by subst hx; have := (own_block hoj x.block (by simp [Value.ownBlock])).2; omega
          replace hoj := hoj.below hb9
          have nemgm : ∀ x, som = some x → x.block ≠ v8.heap.size := fun x hx => by subst hx; have := (own_block hom x.block (by simp [Value.ownBlock])).2; omega
          replace hom := hom.below hb9
          have gne : v1.heap.size ≠ v8.heap.size := by have := (Array.getElem?_eq_some_iff.1 Hgj).1; omega
          replace Hgj := (hb9.block _ (Array.getElem?_eq_some_iff.1 Hgj).1).trans Hgj
          have logm : W1.heap.size ≤ v8.heap.size := hb8.size
          replace hb9 := ext_trans hb8 hb9
          refine hK.out _ _ hb9 fun hS => ?_
          clear hK K hv9
          have gjm : v1.heap.size ≠ v8.heap.size := gne
          have j0 := cell_of_heap Hgj 0 _ rfl
          have j1 := cell_of_heap Hgj 1 _ rfl
          have jf0 : v9.frozen? ⟨v1.heap.size, 0, none⟩ = false := frozen_of_row v9 _ 0 _ 24 Hgj
          have jf1 : v9.frozen? ⟨v1.heap.size, 1, none⟩ = false := frozen_of_row v9 _ 1 _ 24 Hgj
          refine wpAnyH_ready (rs := [8]) (by kernel_rfl) (by simp) ?_
          refine AllReadyH.cons rfl (fun K hK => ?_) AllReadyH.nil
          go_simp
          obtain ⟨V8, hV8⟩ : ∃ x, x = (v9.setCell ⟨v1.heap.size, 0, none⟩ (.int .u8 (max d1 d2))).setCell ⟨v1.heap.size, 1, none⟩ (.slice soj kj coj) := ⟨_, rfl⟩
          rw [← hV8]
          obtain ⟨Hgj8, hg8⟩ := lab_store (D := max d1 d2) (so := soj) (k := kj) (co := coj) Hgj
          rw [← hV8] at Hgj8 hg8
          have Hgm8 := (hg8.block _ (Array.getElem?_eq_some_iff.1 Hgm).1 (by simpa using gjm.symm)).trans Hgm
          have hoj8 := hoj.grown hg8 (fun x hx e => nejgj x hx (by simpa using e.symm))
          have hom8 := hom.grown hg8 (fun x hx e => nemgj x hx (by simpa using e.symm))
          have hb8 : Below W1.heap.size W1 V8 := hb9.trans (below_of_grown hg8 hb9.size (fun x hx => by obtain rfl := Option.some.inj hx; exact logj))
          refine hK.out _ _ hb8 fun hS => ?_
          clear hK K hV8 j0 j1 jf0 jf1 Hgj hoj hom Hgm hg8
          have m0 := cell_of_heap Hgm8 0 _ rfl
          have m1 := cell_of_heap Hgm8 1 _ rfl
          have mf0 : V8.frozen? ⟨v8.heap.size, 0, none⟩ = false := frozen_of_row V8 _ 0 _ 24 Hgm8
          have mf1 : V8.frozen? ⟨v8.heap.size, 1, none⟩ = false := frozen_of_row V8 _ 1 _ 24 Hgm8
          refine wpAnyH_ready (rs := [9]) (by kernel_rfl) (by simp) ?_
          refine AllReadyH.cons rfl (fun K hK => ?_) AllReadyH.nil
          go_simp
          obtain ⟨V9, hV9⟩ : ∃ x, x = (V8.setCell ⟨v8.heap.size, 0, none⟩ (.int .u8 (min d1 d2))).setCell ⟨v8.heap.size, 1, none⟩ (.slice som km com) := ⟨_, rfl⟩
          rw [← hV9]
          obtain ⟨Hgm9, hg9⟩ := lab_store (D := min d1 d2) (so := som) (k := km) (co := com) Hgm8
          rw [← hV9] at Hgm9 hg9
          have Hgj9 := (hg9.block _ (Array.getElem?_eq_some_iff.1 Hgj8).1 (by simpa using gjm)).trans Hgj8
          have hoj9 := hoj8.grown hg9 (fun x hx e => nejgm x hx (by simpa using e.symm))
          have hom9 := hom8.grown hg9 (fun x hx e => nemgm x hx (by simpa using e.symm))
          have hb9 : Below W1.heap.size W1 V9 := hb8.trans (below_of_grown hg9 hb8.size (fun x hx => by obtain rfl := Option.some.inj hx; exact logm))
          refine hK.out _ _ hb9 fun hS => ?_
          clear hK K
          refine wpAnyH_done (by kernel_rfl) ?_ _
          refine NoPanic.normal ?_
          exact cont.out _ _ (v1.heap.size) (v8.heap.size) soj kj coj som km com rfl Hgj9 Hgm9 hoj9.row hom9.row hb9
        · go_simp
          obtain ⟨v10, hv10⟩ : ∃ x, x = v7.alloc (Obj.cells #[Value.int IntKind.u8 0, Value.slice none 0 0] 24) := ⟨_, rfl⟩
          rw [← hv10]
          have Hgm : v10.heap[v7.heap.size]? = some (.cells #[.int .u8 0, .slice none 0 0] 24 (0, 0)) := hv10 ▸ heap_new_at _ _ _ rfl
          have hb10 : Below v7.heap.size v7 v10 := hv10 ▸ below_alloc _ _
          have nejgm : ∀ x, soj = some x → x.block ≠ v7.heap.size := fun x hx => by subst hx; have := (own_block hoj x.block (by simp [Value.ownBlock])).2; omega
          replace hoj := hoj.below hb10
          have gne : v1.heap.size ≠ v7.heap.size := by have := (Array.getElem?_eq_some_iff.1 Hgj).1; omega
          replace Hgj := (hb10.block _ (Array.getElem?_eq_some_iff.1 Hgj).1).trans Hgj
          have logm : W1.heap.size ≤ v7.heap.size := hb7.size
          replace hb10 := ext_trans hb7 hb10
          refine hK.out _ _ hb10 fun hS => ?_
          clear hK K hv10
          refine wpAnyH_ready (rs := [5]) (by kernel_rfl) (by simp) ?_
          refine AllReadyH.cons rfl (fun K hK => ?_) AllReadyH.nil
          go_simp
          refine (meetL_any d1 d2 a1 a2 n1 c1 n2 c2 xs ys _ (hr.below (ext_trans hbW1 hb10)) (hs.below (ext_trans hbW1 hb10)) hlx hly (by omega)).mono ?_
          rintro e v11 ⟨som, km, com, rfl, hom, hb11⟩
          have nemgj : ∀ x, som = some x → x.block ≠ v1.heap.size := fun x hx => by subst hx; have := (own_block hom x.block (by simp [Value.ownBlock])).1; have := (Array.getElem?_eq_some_iff.1 Hgj).1; omega
          replace Hgj := (hb11.block _ (Array.getElem?_eq_some_iff.1 Hgj).1).trans Hgj
          have nemgm : ∀ x, som = some x → x.block ≠ v7.heap.size := fun x hx => by subst hx; have := (own_block hom x.block (by simp [Value.ownBlock])).1; have := (Array.getElem?_eq_some_iff.1 Hgm).1; omega
          replace Hgm := (hb11.block _ (Array.getElem?_eq_some_iff.1 Hgm).1).trans Hgm
          replace hoj := hoj.below hb11
          replace hb11 := ext_trans hb10 hb11
          refine hK.out _ _ hb11 fun hS => ?_
          clear hK K
          have gjm : v1.heap.size ≠ v7.heap.size := gne
          have j0 := cell_of_heap Hgj 0 _ rfl
          have j1 := cell_of_heap Hgj 1 _ rfl
          have jf0 : v11.frozen? ⟨v1.heap.size, 0, none⟩ = false := frozen_of_row v11 _ 0 _ 24 Hgj
          have jf1 : v11.frozen? ⟨v1.heap.size, 1, none⟩ = false := frozen_of_row v11 _ 1 _ 24 Hgj
          refine wpAnyH_ready (rs := [8]) (by kernel_rfl) (by simp) ?_
          refine AllReadyH.cons rfl (fun K hK => ?_) AllReadyH.nil
          go_simp
          obtain ⟨V8, hV8⟩ : ∃ x, x = (v11.setCell ⟨v1.heap.size, 0, none⟩ (.int .u8 (max d1 d2))).setCell ⟨v1.heap.size, 1, none⟩ (.slice soj kj coj) := ⟨_, rfl⟩
          rw [← hV8]
          obtain ⟨Hgj8, hg8⟩ := lab_store (D := max d1 d2) (so := soj) (k := kj) (co := coj) Hgj
          rw [← hV8] at Hgj8 hg8
          have Hgm8 := (hg8.block _ (Array.getElem?_eq_some_iff.1 Hgm).1 (by simpa using gjm.symm)).trans Hgm
          have hoj8 := hoj.grown hg8 (fun x hx e => nejgj x hx (by simpa using e.symm))
          have hom8 := hom.grown hg8 (fun x hx e => nemgj x hx (by simpa using e.symm))
          have hb8 : Below W1.heap.size W1 V8 := hb11.trans (below_of_grown hg8 hb11.size (fun x hx => by obtain rfl := Option.some.inj hx; exact logj))
          refine hK.out _ _ hb8 fun hS => ?_
          clear hK K hV8 j0 j1 jf0 jf1 Hgj hoj hom Hgm hg8
          have m0 := cell_of_heap Hgm8 0 _ rfl
          have m1 := cell_of_heap Hgm8 1 _ rfl
          have mf0 : V8.frozen? ⟨v7.heap.size, 0, none⟩ = false := frozen_of_row V8 _ 0 _ 24 Hgm8
          have mf1 : V8.frozen? ⟨v7.heap.size, 1, none⟩ = false := frozen_of_row V8 _ 1 _ 24 Hgm8
          refine wpAnyH_ready (rs := [9]) (by kernel_rfl) (by simp) ?_
          refine AllReadyH.cons rfl (fun K hK => ?_) AllReadyH.nil
          go_simp
          obtain ⟨V9, hV9⟩ : ∃ x, x = (V8.setCell ⟨v7.heap.size, 0, none⟩ (.int .u8 (min d1 d2))).setCell ⟨v7.heap.size, 1, none⟩ (.slice som km com) := ⟨_, rfl⟩
          rw [← hV9]
          obtain ⟨Hgm9, hg9⟩ := lab_store (D := min d1 d2) (so := som) (k := km) (co := com) Hgm8
          rw [← hV9] at Hgm9 hg9
          have Hgj9 := (hg9.block _ (Array.getElem?_eq_some_iff.1 Hgj8).1 (by simpa using gjm)).trans Hgj8
          have hoj9 := hoj8.grown hg9 (fun x hx e => nejgm x hx (by simpa using e.symm))
          have hom9 := hom8.grown hg9 (fun x hx e => nemgm x hx (by simpa using e.symm))
          have hb9 : Below W1.heap.size W1 V9 := hb8.trans (below_of_grown hg9 hb8.size (fun x hx => by obtain rfl := Option.some.inj hx; exact logm))
          refine hK.out _ _ hb9 fun hS => ?_
          clear hK K
          refine wpAnyH_done (by kernel_rfl) ?_ _
          refine NoPanic.normal ?_
          exact cont.out _ _ (v1.heap.size) (v7.heap.size) soj kj coj som km com rfl Hgj9 Hgm9 hoj9.row hom9.row hb9
      · go_simp
        obtain ⟨v12, hv12⟩ : ∃ x, x = v1.alloc (Obj.cells #[Value.int IntKind.u8 0, Value.slice none 0 0] 24) := ⟨_, rfl⟩
        rw [← hv12]
        have Hgm : v12.heap[v1.heap.size]? = some (.cells #[.int .u8 0, .slice none 0 0] 24 (0, 0)) := hv12 ▸ heap_new_at _ _ _ rfl
        have hb12 : Below v1.heap.size v1 v12 := hv12 ▸ below_alloc _ _
        have nejgm : ∀ x, soj = some x → x.block ≠ v1.heap.size := fun x hx => by subst hx; have := (own_block hoj x.block (by simp [Value.ownBlock])).2; omega
        replace hoj := hoj.below hb12
        have logm : W1.heap.size ≤ v1.heap.size := hb1.size
        replace hb12 := ext_trans hb1 hb12
        refine hK.out _ _ hb12 fun hS => ?_
        clear hK K hv12
        refine wpAnyH_ready (rs := [5, 6]) (by kernel_rfl) (by simp) ?_
        refine AllReadyH.cons rfl (fun K hK => ?_) (AllReadyH.cons rfl (fun K hK => ?_) AllReadyH.nil)
        · go_simp
          refine (meetL_any d1 d2 a1 a2 n1 c1 n2 c2 xs ys _ (hr.below (ext_trans hbW1 hb12)) (hs.below (ext_trans hbW1 hb12)) hlx hly (by omega)).mono ?_
          rintro e v13 ⟨som, km, com, rfl, hom, hb13⟩
          have nemgm : ∀ x, som = some x → x.block ≠ v1.heap.size := fun x hx => by subst hx; have := (own_block hom x.block (by simp [Value.ownBlock])).1; have := (Array.getElem?_eq_some_iff.1 Hgm).1; omega
          replace Hgm := (hb13.block _ (Array.getElem?_eq_some_iff.1 Hgm).1).trans Hgm
          replace hoj := hoj.below hb13
          replace hb13 := ext_trans hb12 hb13
          refine hK.out _ _ hb13 fun hS => ?_
          clear hK K
          refine wpAnyH_ready (rs := [6]) (by kernel_rfl) (by simp) ?_
          refine AllReadyH.cons rfl (fun K hK => ?_) AllReadyH.nil
          go_simp
          obtain ⟨v14, hv14⟩ : ∃ x, x = v13.alloc (Obj.cells #[Value.int IntKind.u8 0, Value.slice none 0 0] 24) := ⟨_, rfl⟩
          rw [← hv14]
          have Hgj : v14.heap[v13.heap.size]? = some (.cells #[.int .u8 0, .slice none 0 0] 24 (0, 0)) := hv14 ▸ heap_new_at _ _ _ rfl
          have hb14 : Below v13.heap.size v13 v14 := hv14 ▸ below_alloc _ _
          have nejgj : ∀ x, soj = some x → x.block ≠ v13.heap.size := fun x hx => by subst hx; have := (own_block hoj x.block (by simp [Value.ownBlock])).2; omega
          replace hoj := hoj.below hb14
          have nemgj : ∀ x, som = some x → x.block ≠ v13.heap.size := fun x hx => by subst hx; have := (own_block hom x.block (by simp [Value.ownBlock])).2; omega
          replace hom := hom.below hb14
          have gne : v1.heap.size ≠ v13.heap.size := by have := (Array.getElem?_eq_some_iff.1 Hgm).1; omega
          replace Hgm := (hb14.block _ (Array.getElem?_eq_some_iff.1 Hgm).1).trans Hgm
          have logj : W1.heap.size ≤ v13.heap.size := hb13.size
          replace hb14 := ext_trans hb13 hb14
          refine hK.out _ _ hb14 fun hS => ?_
          clear hK K hv14
          have gjm : v13.heap.size ≠ v1.heap.size := gne.symm
          have j0 := cell_of_heap Hgj 0 _ rfl
          have j1 := cell_of_heap Hgj 1 _ rfl
          have jf0 : v14.frozen? ⟨v13.heap.size, 0, none⟩ = false := frozen_of_row v14 _ 0 _ 24 Hgj
          have jf1 : v14.frozen? ⟨v13.heap.size, 1, none⟩ = false := frozen_of_row v14 _ 1 _ 24 Hgj
          refine wpAnyH_ready (rs := [8]) (by kernel_rfl) (by simp) ?_
          refine AllReadyH.cons rfl (fun K hK => ?_) AllReadyH.nil
          go_simp
          obtain ⟨V8, hV8⟩ : ∃ x, x = (v14.setCell ⟨v13.heap.size, 0, none⟩ (.int .u8 (max d1 d2))).setCell ⟨v13.heap.size, 1, none⟩ (.slice soj kj coj) := ⟨_, rfl⟩
          rw [← hV8]
          obtain ⟨Hgj8, hg8⟩ := lab_store (D := max d1 d2) (so := soj) (k := kj) (co := coj) Hgj
          rw [← hV8] at Hgj8 hg8
          have Hgm8 := (hg8.block _ (Array.getElem?_eq_some_iff.1 Hgm).1 (by simpa using gjm.symm)).trans Hgm
          have hoj8 := hoj.grown hg8 (fun x hx e => nejgj x hx (by simpa using e.symm))
          have hom8 := hom.grown hg8 (fun x hx e => nemgj x hx (by simpa using e.symm))
          have hb8 : Below W1.heap.size W1 V8 := hb14.trans (below_of_grown hg8 hb14.size (fun x hx => by obtain rfl := Option.some.inj hx; exact logj))
          refine hK.out _ _ hb8 fun hS => ?_
          clear hK K hV8 j0 j1 jf0 jf1 Hgj hoj hom Hgm hg8
          have m0 := cell_of_heap Hgm8 0 _ rfl
          have m1 := cell_of_heap Hgm8 1 _ rfl
          have mf0 : V8.frozen? ⟨v1.heap.size, 0, none⟩ = false := frozen_of_row V8 _ 0 _ 24 Hgm8
          have mf1 : V8.frozen? ⟨v1.heap.size, 1, none⟩ = false := frozen_of_row V8 _ 1 _ 24 Hgm8
          refine wpAnyH_ready (rs := [9]) (by kernel_rfl) (by simp) ?_
          refine AllReadyH.cons rfl (fun K hK => ?_) AllReadyH.nil
          go_simp
          obtain ⟨V9, hV9⟩ : ∃ x, x = (V8.setCell ⟨v1.heap.size, 0, none⟩ (.int .u8 (min d1 d2))).setCell ⟨v1.heap.size, 1, none⟩ (.slice som km com) := ⟨_, rfl⟩
          rw [← hV9]
          obtain ⟨Hgm9, hg9⟩ := lab_store (D := min d1 d2) (so := som) (k := km) (co := com) Hgm8
          rw [← hV9] at Hgm9 hg9
          have Hgj9 := (hg9.block _ (Array.getElem?_eq_some_iff.1 Hgj8).1 (by simpa using gjm)).trans Hgj8
          have hoj9 := hoj8.grown hg9 (fun x hx e => nejgm x hx (by simpa using e.symm))
          have hom9 := hom8.grown hg9 (fun x hx e => nemgm x hx (by simpa using e.symm))
          have hb9 : Below W1.heap.size W1 V9 := hb8.trans (below_of_grown hg9 hb8.size (fun x hx => by obtain rfl := Option.some.inj hx; exact logm))
          refine hK.out _ _ hb9 fun hS => ?_
          clear hK K
          refine wpAnyH_done (by kernel_rfl) ?_ _
          refine NoPanic.normal ?_
          exact cont.out _ _ (v13.heap.size) (v1.heap.size) soj kj coj som km com rfl Hgj9 Hgm9 hoj9.row hom9.row hb9
        · go_simp
          obtain ⟨v15, hv15⟩ : ∃ x, x = v12.alloc (Obj.cells #[Value.int IntKind.u8 0, Value.slice none 0 0] 24) := ⟨_, rfl⟩
          rw [← hv15]
          have Hgj : v15.heap[v12.heap.size]? = some (.cells #[.int .u8 0, .slice none 0 0] 24 (0, 0)) := hv15 ▸ heap_new_at _ _ _ rfl
          have hb15 : Below v12.heap.size v12 v15 := hv15 ▸ below_alloc _ _
          have nejgj : ∀ x, soj = some x → x.block ≠ v12.heap.size := fun x hx => by subst hx; have := (own_block hoj x.block (by simp [Value.ownBlock])).2; omega
          replace hoj := hoj.below hb15
          have gne : v1.heap.size ≠ v12.heap.size := by have := (Array.getElem?_eq_some_iff.1 Hgm).1; omega
          replace Hgm := (hb15.block _ (Array.getElem?_eq_some_iff.1 Hgm).1).trans Hgm
          have logj : W1.heap.size ≤ v12.heap.size := hb12.size
          replace hb15 := ext_trans hb12 hb15
          refine hK.out _ _ hb15 fun hS => ?_
          clear hK K hv15
          refine wpAnyH_ready (rs := [5]) (by kernel_rfl) (by simp) ?_
          refine AllReadyH.cons rfl (fun K hK => ?_) AllReadyH.nil
          go_simp
          refine (meetL_any d1 d2 a1 a2 n1 c1 n2 c2 xs ys _ (hr.below (ext_trans hbW1 hb15)) (hs.below (ext_trans hbW1 hb15)) hlx hly (by omega)).mono ?_
          rintro e v16 ⟨som, km, com, rfl, hom, hb16⟩
          have nemgj : ∀ x, som = some x → x.block ≠ v12.heap.size := fun x hx => by subst hx; have := (own_block hom x.block (by simp [Value.ownBlock])).1; have := (Array.getElem?_eq_some_iff.1 Hgj).1; omega
          replace Hgj := (hb16.block _ (Array.getElem?_eq_some_iff.1 Hgj).1).trans Hgj
          have nemgm : ∀ x, som = some x → x.block ≠ v1.heap.size := fun x hx => by subst hx; have := (own_block hom x.block (by simp [Value.ownBlock])).1; have := (Array.getElem?_eq_some_iff.1 Hgm).1; omega
          replace Hgm := (hb16.block _ (Array.getElem?_eq_some_iff.1 Hgm).1).trans Hgm
          replace hoj := hoj.below hb16
          replace hb16 := ext_trans hb15 hb16
          refine hK.out _ _ hb16 fun hS => ?_
          clear hK K
          have gjm : v12.heap.size ≠ v1.heap.size := gne.symm
          have j0 := cell_of_heap Hgj 0 _ rfl
          have j1 := cell_of_heap Hgj 1 _ rfl
          have jf0 : v16.frozen? ⟨v12.heap.size, 0, none⟩ = false := frozen_of_row v16 _ 0 _ 24 Hgj
          have jf1 : v16.frozen? ⟨v12.heap.size, 1, none⟩ = false := frozen_of_row v16 _ 1 _ 24 Hgj
          refine wpAnyH_ready (rs := [8]) (by kernel_rfl) (by simp) ?_
          refine AllReadyH.cons rfl (fun K hK => ?_) AllReadyH.nil
          go_simp
          obtain ⟨V8, hV8⟩ : ∃ x, x = (v16.setCell ⟨v12.heap.size, 0, none⟩ (.int .u8 (max d1 d2))).setCell ⟨v12.heap.size, 1, none⟩ (.slice soj kj coj) := ⟨_, rfl⟩
          rw [← hV8]
          obtain ⟨Hgj8, hg8⟩ := lab_store (D := max d1 d2) (so := soj) (k := kj) (co := coj) Hgj
          rw [← hV8] at Hgj8 hg8
          have Hgm8 := (hg8.block _ (Array.getElem?_eq_some_iff.1 Hgm).1 (by simpa using gjm.symm)).trans Hgm
          have hoj8 := hoj.grown hg8 (fun x hx e => nejgj x hx (by simpa using e.symm))
          have hom8 := hom.grown hg8 (fun x hx e => nemgj x hx (by simpa using e.symm))
          have hb8 : Below W1.heap.size W1 V8 := hb16.trans (below_of_grown hg8 hb16.size (fun x hx => by obtain rfl := Option.some.inj hx; exact logj))
          refine hK.out _ _ hb8 fun hS => ?_
          clear hK K hV8 j0 j1 jf0 jf1 Hgj hoj hom Hgm hg8
          have m0 := cell_of_heap Hgm8 0 _ rfl
          have m1 := cell_of_heap Hgm8 1 _ rfl
          have mf0 : V8.frozen? ⟨v1.heap.size, 0, none⟩ = false := frozen_of_row V8 _ 0 _ 24 Hgm8
          have mf1 : V8.frozen? ⟨v1.heap.size, 1, none⟩ = false := frozen_of_row V8 _ 1 _ 24 Hgm8
          refine wpAnyH_ready (rs := [9]) (by kernel_rfl) (by simp) ?_
          refine AllReadyH.cons rfl (fun K hK => ?_) AllReadyH.nil
          go_simp
          obtain ⟨V9, hV9⟩ : ∃ x, x = (V8.setCell ⟨v1.heap.size, 0, none⟩ (.int .u8 (min d1 d2))).setCell ⟨v1.heap.size, 1, none⟩ (.slice som km com) := ⟨_, rfl⟩
          rw [← hV9]
          obtain ⟨Hgm9, hg9⟩ := lab_store (D := min d1 d2) (so := som) (k := km) (co := com) Hgm8
          rw [← hV9] at Hgm9 hg9
          have Hgj9 := (hg9.block _ (Array.getElem?_eq_some_iff.1 Hgj8).1 (by simpa using gjm)).trans Hgj8
          have hoj9 := hoj8.grown hg9 (fun x hx e => nejgm x hx (by simpa using e.symm))
          have hom9 := hom8.grown hg9 (fun x hx e => nemgm x hx (by simpa using e.symm))
          have hb9 : Below W1.heap.size W1 V9 := hb8.trans (below_of_grown hg9 hb8.size (fun x hx => by obtain rfl := Option.some.inj hx; exact logm))
          refine hK.out _ _ hb9 fun hS => ?_
          clear hK K
          refine wpAnyH_done (by kernel_rfl) ?_ _
          refine NoPanic.normal ?_
          exact cont.out _ _ (v12.heap.size) (v1.heap.size) soj kj coj som km com rfl Hgj9 Hgm9 hoj9.row hom9.row hb9
    · go_simp
      obtain ⟨v17, hv17⟩ : ∃ x, x = Wd.alloc (Obj.cells #[Value.int IntKind.u8 0, Value.slice none 0 0] 24) := ⟨_, rfl⟩
      rw [← hv17]
      have Hgj : v17.heap[Wd.heap.size]? = some (.cells #[.int .u8 0, .slice none 0 0] 24 (0, 0)) := hv17 ▸ heap_new_at _ _ _ rfl
      have hb17 : Below Wd.heap.size Wd v17 := hv17 ▸ below_alloc _ _
      have logj : W1.heap.size ≤ Wd.heap.size := hBd.size
      replace hb17 := ext_trans hBd hb17
      refine hK.out _ _ hb17 fun hS => ?_
      clear hK K hv17
      refine wpAnyH_ready (rs := [2, 7]) (by kernel_rfl) (by simp) ?_
      refine AllReadyH.cons rfl (fun K hK => ?_) (AllReadyH.cons rfl (fun K hK => ?_) AllReadyH.nil)
      · go_simp
        refine (joinL_any d1 d2 a1 a2 n1 c1 n2 c2 xs ys _ (hr.below (ext_trans hbW1 hb17)) (hs.below (ext_trans hbW1 hb17)) hlx hly (by omega)).mono ?_
        rintro e v18 ⟨soj, kj, coj, rfl, hoj, hb18⟩
        have nejgj : ∀ x, soj = some x → x.block ≠ Wd.heap.size := fun x hx => by subst hx; have := (own_block hoj x.block (by simp [Value.ownBlock])).1; have := (Array.getElem?_eq_some_iff.1 Hgj).1; omega
        replace Hgj := (hb18.block _ (Array.getElem?_eq_some_iff.1 Hgj).1).trans Hgj
        replace hb18 := ext_trans hb17 hb18
        refine hK.out _ _ hb18 fun hS => ?_
        clear hK K
        refine wpAnyH_ready (rs := [5, 7]) (by kernel_rfl) (by simp) ?_
        refine AllReadyH.cons rfl (fun K hK => ?_) (AllReadyH.cons rfl (fun K hK => ?_) AllReadyH.nil)
        · go_simp
          refine (meetL_any d1 d2 a1 a2 n1 c1 n2 c2 xs ys _ (hr.below (ext_trans hbW1 hb18)) (hs.below (ext_trans hbW1 hb18)) hlx hly (by omega)).mono ?_
          rintro e v19 ⟨som, km, com, rfl, hom, hb19⟩
          have nemgj : ∀ x, som = some x → x.block ≠ Wd.heap.size := fun x hx => by subst hx; have := (own_block hom x.block (by simp [Value.ownBlock])).1; have := (Array.getElem?_eq_some_iff.1 Hgj).1; omega
          replace Hgj := (hb19.block _ (Array.getElem?_eq_some_iff.1 Hgj).1).trans Hgj
          replace hoj := hoj.below hb19
          replace hb19 := ext_trans hb18 hb19
          refine hK.out _ _ hb19 fun hS => ?_
          clear hK K
          refine wpAnyH_ready (rs := [7]) (by kernel_rfl) (by simp) ?_
          refine AllReadyH.cons rfl (fun K hK => ?_) AllReadyH.nil
          go_simp
          obtain ⟨v20, hv20⟩ : ∃ x, x = v19.alloc (Obj.cells #[Value.int IntKind.u8 0, Value.slice none 0 0] 24) := ⟨_, rfl⟩
          rw [← hv20]
          have Hgm : v20.heap[v19.heap.size]? = some (.cells #[.int .u8 0, .slice none 0 0] 24 (0, 0)) := hv20 ▸ heap_new_at _ _ _ rfl
          have hb20 : Below v19.heap.size v19 v20 := hv20 ▸ below_alloc _ _
          have nejgm : ∀ x, soj = some x → x.block ≠ v19.heap.size := fun x hx => by subst hx; have := (own_block hoj x.block (by simp [Value.ownBlock])).2; omega
          replace hoj := hoj.below hb20
          have nemgm : ∀ x, som = some x → x.block ≠ v19.heap.size := fun x hx => by subst hx; have := (own_block hom x.block (by simp [Value.ownBlock])).2; omega
          replace hom := hom.below hb20
          have gne : Wd.heap.size ≠ v19.heap.size := by have := (Array.getElem?_eq_some_iff.1 Hgj).1; omega
          replace Hgj := (hb20.block _ (Array.getElem?_eq_some_iff.1 Hgj).1).trans Hgj
          have logm : W1.heap.size ≤ v19.heap.size := hb19.size
          replace hb20 := ext_trans hb19 hb20
          refine hK.out _ _ hb20 fun hS => ?_
          clear hK K hv20
          have gjm : Wd.heap.size ≠ v19.heap.size := gne
          have j0 := cell_of_heap Hgj 0 _ rfl
          have j1 := cell_of_heap Hgj 1 _ rfl
          have jf0 : v20.frozen? ⟨Wd.heap.size, 0, none⟩ = false := frozen_of_row v20 _ 0 _ 24 Hgj
          have jf1 : v20.frozen? ⟨Wd.heap.size, 1, none⟩ = false := frozen_of_row v20 _ 1 _ 24 Hgj
          refine wpAnyH_ready (rs := [8]) (by kernel_rfl) (by simp) ?_
          refine AllReadyH.cons rfl (fun K hK => ?_) AllReadyH.nil
          go_simp
          obtain ⟨V8, hV8⟩ : ∃ x, x = (v20.setCell ⟨Wd.heap.size, 0, none⟩ (.int .u8 (max d1 d2))).setCell ⟨Wd.heap.size, 1, none⟩ (.slice soj kj coj) := ⟨_, rfl⟩
          rw [← hV8]
          obtain ⟨Hgj8, hg8⟩ := lab_store (D := max d1 d2) (so := soj) (k := kj) (co := coj) Hgj
          rw [← hV8] at Hgj8 hg8
          have Hgm8 := (hg8.block _ (Array.getElem?_eq_some_iff.1 Hgm).1 (by simpa using gjm.symm)).trans Hgm
          have hoj8 := hoj.grown hg8 (fun x hx e => nejgj x hx (by simpa using e.symm))
          have hom8 := hom.grown hg8 (fun x hx e => nemgj x hx (by simpa using e.symm))
          have hb8 : Below W1.heap.size W1 V8 := hb20.trans (below_of_grown hg8 hb20.size (fun x hx => by obtain rfl := Option.some.inj hx; exact logj))
          refine hK.out _ _ hb8 fun hS => ?_
          clear hK K hV8 j0 j1 jf0 jf1 Hgj hoj hom Hgm hg8
          have m0 := cell_of_heap Hgm8 0 _ rfl
          have m1 := cell_of_heap Hgm8 1 _ rfl
          have mf0 : V8.frozen? ⟨v19.heap.size, 0, none⟩ = false := frozen_of_row V8 _ 0 _ 24 Hgm8
          have mf1 : V8.frozen? ⟨v19.heap.size, 1, none⟩ = false := frozen_of_row V8 _ 1 _ 24 Hgm8
          refine wpAnyH_ready (rs := [9]) (by kernel_rfl) (by simp) ?_
          refine AllReadyH.cons rfl (fun K hK => ?_) AllReadyH.nil
          go_simp
          obtain ⟨V9, hV9⟩ : ∃ x, x = (V8.setCell ⟨v19.heap.size, 0, none⟩ (.int .u8 (min d1 d2))).setCell ⟨v19.heap.size, 1, none⟩ (.slice som km com) := ⟨_, rfl⟩
          rw [← hV9]
          obtain ⟨Hgm9, hg9⟩ := lab_store (D := min d1 d2) (so := som) (k := km) (co := com) Hgm8
          rw [← hV9] at Hgm9 hg9
          have Hgj9 := (hg9.block _ (Array.getElem?_eq_some_iff.1 Hgj8).1 (by simpa using gjm)).trans Hgj8
          have hoj9 := hoj8.grown hg9 (fun x hx e => nejgm x hx (by simpa using e.symm))
          have hom9 := hom8.grown hg9 (fun x hx e => nemgm x hx (by simpa using e.symm))
          have hb9 : Below W1.heap.size W1 V9 := hb8.trans (below_of_grown hg9 hb8.size (fun x hx => by obtain rfl := Option.some.inj hx; exact logm))
          refine hK.out _ _ hb9 fun hS => ?_
          clear hK K
          refine wpAnyH_done (by kernel_rfl) ?_ _
          refine NoPanic.normal ?_
          exact cont.out _ _ (Wd.heap.size) (v19.heap.size) soj kj coj som km com rfl Hgj9 Hgm9 hoj9.row hom9.row hb9
        · go_simp
          obtain ⟨v21, hv21⟩ : ∃ x, x = v18.alloc (Obj.cells #[Value.int IntKind.u8 0, Value.slice none 0 0] 24) := ⟨_, rfl⟩
          rw [← hv21]
          have Hgm : v21.heap[v18.heap.size]? = some (.cells #[.int .u8 0, .slice none 0 0] 24 (0, 0)) := hv21 ▸ heap_new_at _ _ _ rfl
          have hb21 : Below v18.heap.size v18 v21 := hv21 ▸ below_alloc _ _
          have nejgm : ∀ x, soj = some x → x.block ≠ v18.heap.size := fun x hx => by subst hx; have := (own_block hoj x.block (by simp [Value.ownBlock])).2; omega
          replace hoj := hoj.below hb21
          have gne : Wd.heap.size ≠ v18.heap.size := by have := (Array.getElem?_eq_some_iff.1 Hgj).1; omega
          replace Hgj := (hb21.block _ (Array.getElem?_eq_some_iff.1 Hgj).1).trans Hgj
          have logm : W1.heap.size ≤ v18.heap.size := hb18.size
          replace hb21 := ext_trans hb18 hb21
          refine hK.out _ _ hb21 fun hS => ?_
          clear hK K hv21
          refine wpAnyH_ready (rs := [5]) (by kernel_rfl) (by simp) ?_
          refine AllReadyH.cons rfl (fun K hK => ?_) AllReadyH.nil
          go_simp
          refine (meetL_any d1 d2 a1 a2 n1 c1 n2 c2 xs ys _ (hr.below (ext_trans hbW1 hb21)) (hs.below (ext_trans hbW1 hb21)) hlx hly (by omega)).mono ?_
          rintro e v22 ⟨som, km, com, rfl, hom, hb22⟩
          have nemgj : ∀ x, som = some x → x.block ≠ Wd.heap.size := fun x hx => by subst hx; have := (own_block hom x.block (by simp [Value.ownBlock])).1; have := (Array.getElem?_eq_some_iff.1 Hgj).1; omega
          replace Hgj := (hb22.block _ (Array.getElem?_eq_some_iff.1 Hgj).1).trans Hgj
          have nemgm : ∀ x, som = some x → x.block ≠ v18.heap.size := fun x hx => by subst hx; have := (own_block hom x.block (by simp [Value.ownBlock])).1; have := (Array.getElem?_eq_some_iff.1 Hgm).1; omega
          replace Hgm := (hb22.block _ (Array.getElem?_eq_some_iff.1 Hgm).1).trans Hgm
          replace hoj := hoj.below hb22
          replace hb22 := ext_trans hb21 hb22
          refine hK.out _ _ hb22 fun hS => ?_
          clear hK K
          have gjm : Wd.heap.size ≠ v18.heap.size := gne
          have j0 := cell_of_heap Hgj 0 _ rfl
          have j1 := cell_of_heap Hgj 1 _ rfl
          have jf0 : v22.frozen? ⟨Wd.heap.size, 0, none⟩ = false := frozen_of_row v22 _ 0 _ 24 Hgj
          have jf1 : v22.frozen? ⟨Wd.heap.size, 1, none⟩ = false := frozen_of_row v22 _ 1 _ 24 Hgj
          refine wpAnyH_ready (rs := [8]) (by kernel_rfl) (by simp) ?_
          refine AllReadyH.cons rfl (fun K hK => ?_) AllReadyH.nil
          go_simp
          obtain ⟨V8, hV8⟩ : ∃ x, x = (v22.setCell ⟨Wd.heap.size, 0, none⟩ (.int .u8 (max d1 d2))).setCell ⟨Wd.heap.size, 1, none⟩ (.slice soj kj coj) := ⟨_, rfl⟩
          rw [← hV8]
          obtain ⟨Hgj8, hg8⟩ := lab_store (D := max d1 d2) (so := soj) (k := kj) (co := coj) Hgj
          rw [← hV8] at Hgj8 hg8
          have Hgm8 := (hg8.block _ (Array.getElem?_eq_some_iff.1 Hgm).1 (by simpa using gjm.symm)).trans Hgm
          have hoj8 := hoj.grown hg8 (fun x hx e => nejgj x hx (by simpa using e.symm))
          have hom8 := hom.grown hg8 (fun x hx e => nemgj x hx (by simpa using e.symm))
          have hb8 : Below W1.heap.size W1 V8 := hb22.trans (below_of_grown hg8 hb22.size (fun x hx => by obtain rfl := Option.some.inj hx; exact logj))
          refine hK.out _ _ hb8 fun hS => ?_
          clear hK K hV8 j0 j1 jf0 jf1 Hgj hoj hom Hgm hg8
          have m0 := cell_of_heap Hgm8 0 _ rfl
          have m1 := cell_of_heap Hgm8 1 _ rfl
          have mf0 : V8.frozen? ⟨v18.heap.size, 0, none⟩ = false := frozen_of_row V8 _ 0 _ 24 Hgm8
          have mf1 : V8.frozen? ⟨v18.heap.size, 1, none⟩ = false := frozen_of_row V8 _ 1 _ 24 Hgm8
          refine wpAnyH_ready (rs := [9]) (by kernel_rfl) (by simp) ?_
          refine AllReadyH.cons rfl (fun K hK => ?_) AllReadyH.nil
          go_simp
          obtain ⟨V9, hV9⟩ : ∃ x, x = (V8.setCell ⟨v18.heap.size, 0, none⟩ (.int .u8 (min d1 d2))).setCell ⟨v18.heap.size, 1, none⟩ (.slice som km com) := ⟨_, rfl⟩
          rw [← hV9]
          obtain ⟨Hgm9, hg9⟩ := lab_store (D := min d1 d2) (so := som) (k := km) (co := com) Hgm8
          rw [← hV9] at Hgm9 hg9
          have Hgj9 := (hg9.block _ (Array.getElem?_eq_some_iff.1 Hgj8).1 (by simpa using gjm)).trans Hgj8
          have hoj9 := hoj8.grown hg9 (fun x hx e => nejgm x hx (by simpa using e.symm))
          have hom9 := hom8.grown hg9 (fun x hx e => nemgm x hx (by simpa using e.symm))
          have hb9 : Below W1.heap.size W1 V9 := hb8.trans (below_of_grown hg9 hb8.size (fun x hx => by obtain rfl := Option.some.inj hx; exact logm))
          refine hK.out _ _ hb9 fun hS => ?_
          clear hK K
          refine wpAnyH_done (by kernel_rfl) ?_ _
          refine NoPanic.normal ?_
          exact cont.out _ _ (Wd.heap.size) (v18.heap.size) soj kj coj som km com rfl Hgj9 Hgm9 hoj9.row hom9.row hb9
      · go_simp
        obtain ⟨v23, hv23⟩ : ∃ x, x = v17.alloc (Obj.cells #[Value.int IntKind.u8 0, Value.slice none 0 0] 24) := ⟨_, rfl⟩
        rw [← hv23]
        have Hgm : v23.heap[v17.heap.size]? = some (.cells #[.int .u8 0, .slice none 0 0] 24 (0, 0)) := hv23 ▸ heap_new_at _ _ _ rfl
        have hb23 : Below v17.heap.size v17 v23 := hv23 ▸ below_alloc _ _
        have gne : Wd.heap.size ≠ v17.heap.size := by have := (Array.getElem?_eq_some_iff.1 Hgj).1; omega
        replace Hgj := (hb23.block _ (Array.getElem?_eq_some_iff.1 Hgj).1).trans Hgj
        have logm : W1.heap.size ≤ v17.heap.size := hb17.size
        replace hb23 := ext_trans hb17 hb23
        refine hK.out _ _ hb23 fun hS => ?_
        clear hK K hv23
        refine wpAnyH_ready (rs := [2]) (by kernel_rfl) (by simp) ?_
        refine AllReadyH.cons rfl (fun K hK => ?_) AllReadyH.nil
        go_simp
        refine (joinL_any d1 d2 a1 a2 n1 c1 n2 c2 xs ys _ (hr.below (ext_trans hbW1 hb23)) (hs.below (ext_trans hbW1 hb23)) hlx hly (by omega)).mono ?_
        rintro e v24 ⟨soj, kj, coj, rfl, hoj, hb24⟩
        have nejgj : ∀ x, soj = some x → x.block ≠ Wd.heap.size := fun x hx => by subst hx; have := (own_block hoj x.block (by simp [Value.ownBlock])).1; have := (Array.getElem?_eq_some_iff.1 Hgj).1; omega
        replace Hgj := (hb24.block _ (Array.getElem?_eq_some_iff.1 Hgj).1).trans Hgj
        have nejgm : ∀ x, soj = some x → x.block ≠ v17.heap.size := fun x hx => by subst hx; have := (own_block hoj x.block (by simp [Value.ownBlock])).1; have := (Array.getElem?_eq_some_iff.1 Hgm).1; omega
        replace Hgm := (hb24.block _ (Array.getElem?_eq_some_iff.1 Hgm).1).trans Hgm
        replace hb24 := ext_trans hb23 hb24
        refine hK.out _ _ hb24 fun hS => ?_
        clear hK K
        refine wpAnyH_ready (rs := [5]) (by kernel_rfl) (by simp) ?_
        refine AllReadyH.cons rfl (fun K hK => ?_) AllReadyH.nil
        go_simp
        refine (meetL_any d1 d2 a1 a2 n1 c1 n2 c2 xs ys _ (hr.below (ext_trans hbW1 hb24)) (hs.below (ext_trans hbW1 hb24)) hlx hly (by omega)).mono ?_
        rintro e v25 ⟨som, km, com, rfl, hom, hb25⟩
        have nemgj : ∀ x, som = some x → x.block ≠ Wd.heap.size := fun x hx => by subst hx; have := (own_block hom x.block (by simp [Value.ownBlock])).1; have := (Array.getElem?_eq_some_iff.1 Hgj).1; omega
        replace Hgj := (hb25.block _ (Array.getElem?_eq_some_iff.1 Hgj).1).trans Hgj
        have nemgm : ∀ x, som = some x → x.block ≠ v17.heap.size := fun x hx => by subst hx; have := (own_block hom x.block (by simp [Value.ownBlock])).1; have := (Array.getElem?_eq_some_iff.1 Hgm).1; omega
        replace Hgm := (hb25.block _ (Array.getElem?_eq_some_iff.1 Hgm).1).trans Hgm
        replace hoj := hoj.below hb25
        replace hb25 := ext_trans hb24 hb25
        refine hK.out _ _ hb25 fun hS => ?_
        clear hK K
        have gjm : Wd.heap.size ≠ v17.heap.size := gne
        have j0 := cell_of_heap Hgj 0 _ rfl
        have j1 := cell_of_heap Hgj 1 _ rfl
        have jf0 : v25.frozen? ⟨Wd.heap.size, 0, none⟩ = false := frozen_of_row v25 _ 0 _ 24 Hgj
        have jf1 : v25.frozen? ⟨Wd.heap.size, 1, none⟩ = false := frozen_of_row v25 _ 1 _ 24 Hgj
        refine wpAnyH_ready (rs := [8]) (by kernel_rfl) (by simp) ?_
        refine AllReadyH.cons rfl (fun K hK => ?_) AllReadyH.nil
        go_simp
        obtain ⟨V8, hV8⟩ : ∃ x, x = (v25.setCell ⟨Wd.heap.size, 0, none⟩ (.int .u8 (max d1 d2))).setCell ⟨Wd.heap.size, 1, none⟩ (.slice soj kj coj) := ⟨_, rfl⟩
        rw [← hV8]
        obtain ⟨Hgj8, hg8⟩ := lab_store (D := max d1 d2) (so := soj) (k := kj) (co := coj) Hgj
        rw [← hV8] at Hgj8 hg8
        have Hgm8 := (hg8.block _ (Array.getElem?_eq_some_iff.1 Hgm).1 (by simpa using gjm.symm)).trans Hgm
        have hoj8 := hoj.grown hg8 (fun x hx e => nejgj x hx (by simpa using e.symm))
        have hom8 := hom.grown hg8 (fun x hx e => nemgj x hx (by simpa using e.symm))
        have hb8 : Below W1.heap.size W1 V8 := hb25.trans (below_of_grown hg8 hb25.size (fun x hx => by obtain rfl := Option.some.inj hx; exact logj))
        refine hK.out _ _ hb8 fun hS => ?_
        clear hK K hV8 j0 j1 jf0 jf1 Hgj hoj hom Hgm hg8
        have m0 := cell_of_heap Hgm8 0 _ rfl
        have m1 := cell_of_heap Hgm8 1 _ rfl
        have mf0 : V8.frozen? ⟨v17.heap.size, 0, none⟩ = false := frozen_of_row V8 _ 0 _ 24 Hgm8
        have mf1 : V8.frozen? ⟨v17.heap.size, 1, none⟩ = false := frozen_of_row V8 _ 1 _ 24 Hgm8
        refine wpAnyH_ready (rs := [9]) (by kernel_rfl) (by simp) ?_
        refine AllReadyH.cons rfl (fun K hK => ?_) AllReadyH.nil
        go_simp
        obtain ⟨V9, hV9⟩ : ∃ x, x = (V8.setCell ⟨v17.heap.size, 0, none⟩ (.int .u8 (min d1 d2))).setCell ⟨v17.heap.size, 1, none⟩ (.slice som km com) := ⟨_, rfl⟩
        rw [← hV9]
        obtain ⟨Hgm9, hg9⟩ := lab_store (D := min d1 d2) (so := som) (k := km) (co := com) Hgm8
        rw [← hV9] at Hgm9 hg9
        have Hgj9 := (hg9.block _ (Array.getElem?_eq_some_iff.1 Hgj8).1 (by simpa using gjm)).trans Hgj8
        have hoj9 := hoj8.grown hg9 (fun x hx e => nejgm x hx (by simpa using e.symm))
        have hom9 := hom8.grown hg9 (fun x hx e => nemgm x hx (by simpa using e.symm))
        have hb9 : Below W1.heap.size W1 V9 := hb8.trans (below_of_grown hg9 hb8.size (fun x hx => by obtain rfl := Option.some.inj hx; exact logm))
        refine hK.out _ _ hb9 fun hS => ?_
        clear hK K
        refine wpAnyH_done (by kernel_rfl) ?_ _
        refine NoPanic.normal ?_
        exact cont.out _ _ (Wd.heap.size) (v17.heap.size) soj kj coj som km com rfl Hgj9 Hgm9 hoj9.row hom9.row hb9
    · go_simp
      obtain ⟨v26, hv26⟩ : ∃ x, x = Wd.alloc (Obj.cells #[Value.int IntKind.u8 0, Value.slice none 0 0] 24) := ⟨_, rfl⟩
      rw [← hv26]
      have Hgm : v26.heap[Wd.heap.size]? = some (.cells #[.int .u8 0, .slice none 0 0] 24 (0, 0)) := hv26 ▸ heap_new_at _ _ _ rfl
      have hb26 : Below Wd.heap.size Wd v26 := hv26 ▸ below_alloc _ _
      have logm : W1.heap.size ≤ Wd.heap.size := hBd.size
      replace hb26 := ext_trans hBd hb26
      refine hK.out _ _ hb26 fun hS => ?_
      clear hK K hv26
      refine wpAnyH_ready (rs := [2, 6]) (by kernel_rfl) (by simp) ?_
      refine AllReadyH.cons rfl (fun K hK => ?_) (AllReadyH.cons rfl (fun K hK => ?_) AllReadyH.nil)
      · go_simp
        refine (joinL_any d1 d2 a1 a2 n1 c1 n2 c2 xs ys _ (hr.below (ext_trans hbW1 hb26)) (hs.below (ext_trans hbW1 hb26)) hlx hly (by omega)).mono ?_
        rintro e v27 ⟨soj, kj, coj, rfl, hoj, hb27⟩
        have nejgm : ∀ x, soj = some x → x.block ≠ Wd.heap.size := fun x hx => by subst hx; have := (own_block hoj x.block (by simp [Value.ownBlock])).1; have := (Array.getElem?_eq_some_iff.1 Hgm).1; omega
        replace Hgm := (hb27.block _ (Array.getElem?_eq_some_iff.1 Hgm).1).trans Hgm
        replace hb27 := ext_trans hb26 hb27
        refine hK.out _ _ hb27 fun hS => ?_
        clear hK K
        refine wpAnyH_ready (rs := [5, 6]) (by kernel_rfl) (by simp) ?_
        refine AllReadyH.cons rfl (fun K hK => ?_) (AllReadyH.cons rfl (fun K hK => ?_) AllReadyH.nil)
        · go_simp
          refine (meetL_any d1 d2 a1 a2 n1 c1 n2 c2 xs ys _ (hr.below (ext_trans hbW1 hb27)) (hs.below (ext_trans hbW1 hb27)) hlx hly (by omega)).mono ?_
          rintro e v28 ⟨som, km, com, rfl, hom, hb28⟩
          have nemgm : ∀ x, som = some x → x.block ≠ Wd.heap.size := fun x hx => by subst hx; have := (own_block hom x.block (by simp [Value.ownBlock])).1; have := (Array.getElem?_eq_some_iff.1 Hgm).1; omega
          replace Hgm := (hb28.block _ (Array.getElem?_eq_some_iff.1 Hgm).1).trans Hgm
          replace hoj := hoj.below hb28
          replace hb28 := ext_trans hb27 hb28
          refine hK.out _ _ hb28 fun hS => ?_
          clear hK K
          refine wpAnyH_ready (rs := [6]) (by kernel_rfl) (by simp) ?_
          refine AllReadyH.cons rfl (fun K hK => ?_) AllReadyH.nil
          go_simp
          obtain ⟨v29, hv29⟩ : ∃ x, x = v28.alloc (Obj.cells #[Value.int IntKind.u8 0, Value.slice none 0 0] 24) := ⟨_, rfl⟩
          rw [← hv29]
          have Hgj : v29.heap[v28.heap.size]? = some (.cells #[.int .u8 0, .slice none 0 0] 24 (0, 0)) := hv29 ▸ heap_new_at _ _ _ rfl
          have hb29 : Below v28.heap.size v28 v29 := hv29 ▸ below_alloc _ _
          have nejgj : ∀ x, soj = some x → x.block ≠ v28.heap.size := fun x hx => by subst hx; have := (own_block hoj x.block (by simp [Value.ownBlock])).2; omega
          replace hoj := hoj.below hb29
          have nemgj : ∀ x, som = some x → x.block ≠ v28.heap.size := fun x hx => by subst hx; have := (own_block hom x.block (by simp [Value.ownBlock])).2; omega
          replace hom := hom.below hb29
          have gne : Wd.heap.size ≠ v28.heap.size := by have := (Array.getElem?_eq_some_iff.1 Hgm).1; omega
          replace Hgm := (hb29.block _ (Array.getElem?_eq_some_iff.1 Hgm).1).trans Hgm
          have logj : W1.heap.size ≤ v28.heap.size := hb28.size
          replace hb29 := ext_trans hb28 hb29
          refine hK.out _ _ hb29 fun hS => ?_
          clear hK K hv29
          have gjm : v28.heap.size ≠ Wd.heap.size := gne.symm
          have j0 := cell_of_heap Hgj 0 _ rfl
          have j1 := cell_of_heap Hgj 1 _ rfl
          have jf0 : v29.frozen? ⟨v28.heap.size, 0, none⟩ = false := frozen_of_row v29 _ 0 _ 24 Hgj
          have jf1 : v29.frozen? ⟨v28.heap.size, 1, none⟩ = false := frozen_of_row v29 _ 1 _ 24 Hgj
          refine wpAnyH_ready (rs := [8]) (by kernel_rfl) (by simp) ?_
          refine AllReadyH.cons rfl (fun K hK => ?_) AllReadyH.nil
          go_simp
          obtain ⟨V8, hV8⟩ : ∃ x, x = (v29.setCell ⟨v28.heap.size, 0, none⟩ (.int .u8 (max d1 d2))).setCell ⟨v28.heap.size, 1, none⟩ (.slice soj kj coj) := ⟨_, rfl⟩
          rw [← hV8]
          obtain ⟨Hgj8, hg8⟩ := lab_store (D := max d1 d2) (so := soj) (k := kj) (co := coj) Hgj
          rw [← hV8] at Hgj8 hg8
          have Hgm8 := (hg8.block _ (Array.getElem?_eq_some_iff.1 Hgm).1 (by simpa using gjm.symm)).trans Hgm
          have hoj8 := hoj.grown hg8 (fun x hx e => nejgj x hx (by simpa using e.symm))
          have hom8 := hom.grown hg8 (fun x hx e => nemgj x hx (by simpa using e.symm))
          have hb8 : Below W1.heap.size W1 V8 := hb29.trans (below_of_grown hg8 hb29.size (fun x hx => by obtain rfl := Option.some.inj hx; exact logj))
          refine hK.out _ _ hb8 fun hS => ?_
          clear hK K hV8 j0 j1 jf0 jf1 Hgj hoj hom Hgm hg8
          have m0 := cell_of_heap Hgm8 0 _ rfl
          have m1 := cell_of_heap Hgm8 1 _ rfl
          have mf0 : V8.frozen? ⟨Wd.heap.size, 0, none⟩ = false := frozen_of_row V8 _ 0 _ 24 Hgm8
          have mf1 : V8.frozen? ⟨Wd.heap.size, 1, none⟩ = false := frozen_of_row V8 _ 1 _ 24 Hgm8
          refine wpAnyH_ready (rs := [9]) (by kernel_rfl) (by simp) ?_
          refine AllReadyH.cons rfl (fun K hK => ?_) AllReadyH.nil
          go_simp
          obtain ⟨V9, hV9⟩ : ∃ x, x = (V8.setCell ⟨Wd.heap.size, 0, none⟩ (.int .u8 (min d1 d2))).setCell ⟨Wd.heap.size, 1, none⟩ (.slice som km com) := ⟨_, rfl⟩
          rw [← hV9]
          obtain ⟨Hgm9, hg9⟩ := lab_store (D := min d1 d2) (so := som) (k := km) (co := com) Hgm8
          rw [← hV9] at Hgm9 hg9
          have Hgj9 := (hg9.block _ (Array.getElem?_eq_some_iff.1 Hgj8).1 (by simpa using gjm)).trans Hgj8
          have hoj9 := hoj8.grown hg9 (fun x hx e => nejgm x hx (by simpa using e.symm))
          have hom9 := hom8.grown hg9 (fun x hx e => nemgm x hx (by simpa using e.symm))
          have hb9 : Below W1.heap.size W1 V9 := hb8.trans (below_of_grown hg9 hb8.size (fun x hx => by obtain rfl := Option.some.inj hx; exact logm))
          refine hK.out _ _ hb9 fun hS => ?_
          clear hK K
          refine wpAnyH_done (by kernel_rfl) ?_ _
          refine NoPanic.normal ?_
          exact cont.out _ _ (v28.heap.size) (Wd.heap.size) soj kj coj som km com rfl Hgj9 Hgm9 hoj9.row hom9.row hb9
        · go_simp
          obtain ⟨v30, hv30⟩ : ∃ x, x = v27.alloc (Obj.cells #[Value.int IntKind.u8 0, Value.slice none 0 0] 24) := ⟨_, rfl⟩
          rw [← hv30]
          have Hgj : v30.heap[v27.heap.size]? = some (.cells #[.int .u8 0, .slice none 0 0] 24 (0, 0)) := hv30 ▸ heap_new_at _ _ _ rfl
          have hb30 : Below v27.heap.size v27 v30 := hv30 ▸ below_alloc _ _
          have nejgj : ∀ x, soj = some x → x.block ≠ v27.heap.size := fun x hx => by subst hx; have := (own_block hoj x.block (by simp [Value.ownBlock])).2; omega
          replace hoj := hoj.below hb30
          have gne : Wd.heap.size ≠ v27.heap.size := by have := (Array.getElem?_eq_some_iff.1 Hgm).1; omega
          replace Hgm := (hb30.block _ (Array.getElem?_eq_some_iff.1 Hgm).1).trans Hgm
          have logj : W1.heap.size ≤ v27.heap.size := hb27.size
          replace hb30 := ext_trans hb27 hb30
          refine hK.out _ _ hb30 fun hS => ?_
          clear hK K hv30
          refine wpAnyH_ready (rs := [5]) (by kernel_rfl) (by simp) ?_
          refine AllReadyH.cons rfl (fun K hK => ?_) AllReadyH.nil
          go_simp
          refine (meetL_any d1 d2 a1 a2 n1 c1 n2 c2 xs ys _ (hr.below (ext_trans hbW1 hb30)) (hs.below (ext_trans hbW1 hb30)) hlx hly (by omega)).mono ?_
          rintro e v31 ⟨som, km, com, rfl, hom, hb31⟩
          have nemgj : ∀ x, som = some x → x.block ≠ v27.heap.size := fun x hx => by subst hx; have := (own_block hom x.block (by simp [Value.ownBlock])).1; have := (Array.getElem?_eq_some_iff.1 Hgj).1; omega
          replace Hgj := (hb31.block _ (Array.getElem?_eq_some_iff.1 Hgj).1).trans Hgj
          have nemgm : ∀ x, som = some x → x.block ≠ Wd.heap.size := fun x hx => by subst hx; have := (own_block hom x.block (by simp [Value.ownBlock])).1; have := (Array.getElem?_eq_some_iff.1 Hgm).1; omega
          replace Hgm := (hb31.block _ (Array.getElem?_eq_some_iff.1 Hgm).1).trans Hgm
          replace hoj := hoj.below hb31
          replace hb31 := ext_trans hb30 hb31
          refine hK.out _ _ hb31 fun hS => ?_
          clear hK K
          have gjm : v27.heap.size ≠ Wd.heap.size := gne.symm
          have j0 := cell_of_heap Hgj 0 _ rfl
          have j1 := cell_of_heap Hgj 1 _ rfl
          have jf0 : v31.frozen? ⟨v27.heap.size, 0, none⟩ = false := frozen_of_row v31 _ 0 _ 24 Hgj
          have jf1 : v31.frozen? ⟨v27.heap.size, 1, none⟩ = false := frozen_of_row v31 _ 1 _ 24 Hgj
          refine wpAnyH_ready (rs := [8]) (by kernel_rfl) (by simp) ?_
          refine AllReadyH.cons rfl (fun K hK => ?_) AllReadyH.nil
          go_simp
          obtain ⟨V8, hV8⟩ : ∃ x, x = (v31.setCell ⟨v27.heap.size, 0, none⟩ (.int .u8 (max d1 d2))).setCell ⟨v27.heap.size, 1, none⟩ (.slice soj kj coj) := ⟨_, rfl⟩
          rw [← hV8]
          obtain ⟨Hgj8, hg8⟩ := lab_store (D := max d1 d2) (so := soj) (k := kj) (co := coj) Hgj
          rw [← hV8] at Hgj8 hg8
          have Hgm8 := (hg8.block _ (Array.getElem?_eq_some_iff.1 Hgm).1 (by simpa using gjm.symm)).trans Hgm
          have hoj8 := hoj.grown hg8 (fun x hx e => nejgj x hx (by simpa using e.symm))
          have hom8 := hom.grown hg8 (fun x hx e => nemgj x hx (by simpa using e.symm))
          have hb8 : Below W1.heap.size W1 V8 := hb31.trans (below_of_grown hg8 hb31.size (fun x hx => by obtain rfl := Option.some.inj hx; exact logj))
          refine hK.out _ _ hb8 fun hS => ?_
          clear hK K hV8 j0 j1 jf0 jf1 Hgj hoj hom Hgm hg8
          have m0 := cell_of_heap Hgm8 0 _ rfl
          have m1 := cell_of_heap Hgm8 1 _ rfl
          have mf0 : V8.frozen? ⟨Wd.heap.size, 0, none⟩ = false := frozen_of_row V8 _ 0 _ 24 Hgm8
          have mf1 : V8.frozen? ⟨Wd.heap.size, 1, none⟩ = false := frozen_of_row V8 _ 1 _ 24 Hgm8
          refine wpAnyH_ready (rs := [9]) (by kernel_rfl) (by simp) ?_
          refine AllReadyH.cons rfl (fun K hK => ?_) AllReadyH.nil
          go_simp
          obtain ⟨V9, hV9⟩ : ∃ x, x = (V8.setCell ⟨Wd.heap.size, 0, none⟩ (.int .u8 (min d1 d2))).setCell ⟨Wd.heap.size, 1, none⟩ (.slice som km com) := ⟨_, rfl⟩
          rw [← hV9]
          obtain ⟨Hgm9, hg9⟩ := lab_store (D := min d1 d2) (so := som) (k := km) (co := com) Hgm8
          rw [← hV9] at Hgm9 hg9
          have Hgj9 := (hg9.block _ (Array.getElem?_eq_some_iff.1 Hgj8).1 (by simpa using gjm)).trans Hgj8
          have hoj9 := hoj8.grown hg9 (fun x hx e => nejgm x hx (by simpa using e.symm))
          have hom9 := hom8.grown hg9 (fun x hx e => nemgm x hx (by simpa using e.symm))
          have hb9 : Below W1.heap.size W1 V9 := hb8.trans (below_of_grown hg9 hb8.size (fun x hx => by obtain rfl := Option.some.inj hx; exact logm))
          refine hK.out _ _ hb9 fun hS => ?_
          clear hK K
          refine wpAnyH_done (by kernel_rfl) ?_ _
          refine NoPanic.normal ?_
          exact cont.out _ _ (v27.heap.size) (Wd.heap.size) soj kj coj som km com rfl Hgj9 Hgm9 hoj9.row hom9.row hb9
      · go_simp
        obtain ⟨v32, hv32⟩ : ∃ x, x = v26.alloc (Obj.cells #[Value.int IntKind.u8 0, Value.slice none 0 0] 24) := ⟨_, rfl⟩
        rw [← hv32]
        have Hgj : v32.heap[v26.heap.size]? = some (.cells #[.int .u8 0, .slice none 0 0] 24 (0, 0)) := hv32 ▸ heap_new_at _ _ _ rfl
        have hb32 : Below v26.heap.size v26 v32 := hv32 ▸ below_alloc _ _
        have gne : Wd.heap.size ≠ v26.heap.size := by have := (Array.getElem?_eq_some_iff.1 Hgm).1; omega
        replace Hgm := (hb32.block _ (Array.getElem?_eq_some_iff.1 Hgm).1).trans Hgm
        have logj : W1.heap.size ≤ v26.heap.size := hb26.size
        replace hb32 := ext_trans hb26 hb32
        refine hK.out _ _ hb32 fun hS => ?_
        clear hK K hv32
        refine wpAnyH_ready (rs := [2]) (by kernel_rfl) (by simp) ?_
        refine AllReadyH.cons rfl (fun K hK => ?_) AllReadyH.nil
        go_simp
        refine (joinL_any d1 d2 a1 a2 n1 c1 n2 c2 xs ys _ (hr.below (ext_trans hbW1 hb32)) (hs.below (ext_trans hbW1 hb32)) hlx hly (by omega)).mono ?_
        rintro e v33 ⟨soj, kj, coj, rfl, hoj, hb33⟩
        have nejgj : ∀ x, soj = some x → x.block ≠ v26.heap.size := fun x hx => by subst hx; have := (own_block hoj x.block (by simp [Value.ownBlock])).1; have := (Array.getElem?_eq_some_iff.1 Hgj).1; omega
        replace Hgj := (hb33.block _ (Array.getElem?_eq_some_iff.1 Hgj).1).trans Hgj
        have nejgm : ∀ x, soj = some x → x.block ≠ Wd.heap.size := fun x hx => by subst hx; have := (own_block hoj x.block (by simp [Value.ownBlock])).1; have := (Array.getElem?_eq_some_iff.1 Hgm).1; omega
        replace Hgm := (hb33.block _ (Array.getElem?_eq_some_iff.1 Hgm).1).trans Hgm
        replace hb33 := ext_trans hb32 hb33
        refine hK.out _ _ hb33 fun hS => ?_
        clear hK K
        refine wpAnyH_ready (rs := [5]) (by kernel_rfl) (by simp) ?_
        refine AllReadyH.cons rfl (fun K hK => ?_) AllReadyH.nil
        go_simp
        refine (meetL_any d1 d2 a1 a2 n1 c1 n2 c2 xs ys _ (hr.below (ext_trans hbW1 hb33)) (hs.below (ext_trans hbW1 hb33)) hlx hly (by omega)).mono ?_
        rintro e v34 ⟨som, km, com, rfl, hom, hb34⟩
        have nemgj : ∀ x, som = some x → x.block ≠ v26.heap.size := fun x hx => by subst hx; have := (own_block hom x.block (by simp [Value.ownBlock])).1; have := (Array.getElem?_eq_some_iff.1 Hgj).1; omega
        replace Hgj := (hb34.block _ (Array.getElem?_eq_some_iff.1 Hgj).1).trans Hgj
        have nemgm : ∀ x, som = some x → x.block ≠ Wd.heap.size := fun x hx => by subst hx; have := (own_block hom x.block (by simp [Value.ownBlock])).1; have := (Array.getElem?_eq_some_iff.1 Hgm).1; omega
        replace Hgm := (hb34.block _ (Array.getElem?_eq_some_iff.1 Hgm).1).trans Hgm
        replace hoj := hoj.below hb34
        replace hb34 := ext_trans hb33 hb34
        refine hK.out _ _ hb34 fun hS => ?_
        clear hK K
        have gjm : v26.heap.size ≠ Wd.heap.size := gne.symm
        have j0 := cell_of_heap Hgj 0 _ rfl
        have j1 := cell_of_heap Hgj 1 _ rfl
        have jf0 : v34.frozen? ⟨v26.heap.size, 0, none⟩ = false := frozen_of_row v34 _ 0 _ 24 Hgj
        have jf1 : v34.frozen? ⟨v26.heap.size, 1, none⟩ = false := frozen_of_row v34 _ 1 _ 24 Hgj
        refine wpAnyH_ready (rs := [8]) (by kernel_rfl) (by simp) ?_
        refine AllReadyH.cons rfl (fun K hK => ?_) AllReadyH.nil
        go_simp
        obtain ⟨V8, hV8⟩ : ∃ x, x = (v34.setCell ⟨v26.heap.size, 0, none⟩ (.int .u8 (max d1 d2))).setCell ⟨v26.heap.size, 1, none⟩ (.slice soj kj coj) := ⟨_, rfl⟩
        rw [← hV8]
        obtain ⟨Hgj8, hg8⟩ := lab_store (D := max d1 d2) (so := soj) (k := kj) (co := coj) Hgj
        rw [← hV8] at Hgj8 hg8
        have Hgm8 := (hg8.block _ (Array.getElem?_eq_some_iff.1 Hgm).1 (by simpa using gjm.symm)).trans Hgm
        have hoj8 := hoj.grown hg8 (fun x hx e => nejgj x hx (by simpa using e.symm))
        have hom8 := hom.grown hg8 (fun x hx e => nemgj x hx (by simpa using e.symm))
        have hb8 : Below W1.heap.size W1 V8 := hb34.trans (below_of_grown hg8 hb34.size (fun x hx => by obtain rfl := Option.some.inj hx; exact logj))
        refine hK.out _ _ hb8 fun hS => ?_
        clear hK K hV8 j0 j1 jf0 jf1 Hgj hoj hom Hgm hg8
        have m0 := cell_of_heap Hgm8 0 _ rfl
        have m1 := cell_of_heap Hgm8 1 _ rfl
        have mf0 : V8.frozen? ⟨Wd.heap.size, 0, none⟩ = false := frozen_of_row V8 _ 0 _ 24 Hgm8
        have mf1 : V8.frozen? ⟨Wd.heap.size, 1, none⟩ = false := frozen_of_row V8 _ 1 _ 24 Hgm8
        refine wpAnyH_ready (rs := [9]) (by kernel_rfl) (by simp) ?_
        refine AllReadyH.cons rfl (fun K hK => ?_) AllReadyH.nil
        go_simp
        obtain ⟨V9, hV9⟩ : ∃ x, x = (V8.setCell ⟨Wd.heap.size, 0, none⟩ (.int .u8 (min d1 d2))).setCell ⟨Wd.heap.size, 1, none⟩ (.slice som km com) := ⟨_, rfl⟩
        rw [← hV9]
        obtain ⟨Hgm9, hg9⟩ := lab_store (D := min d1 d2) (so := som) (k := km) (co := com) Hgm8
        rw [← hV9] at Hgm9 hg9
        have Hgj9 := (hg9.block _ (Array.getElem?_eq_some_iff.1 Hgj8).1 (by simpa using gjm)).trans Hgj8
        have hoj9 := hoj8.grown hg9 (fun x hx e => nejgm x hx (by simpa using e.symm))
        have hom9 := hom8.grown hg9 (fun x hx e => nemgm x hx (by simpa using e.symm))
        have hb9 : Below W1.heap.size W1 V9 := hb8.trans (below_of_grown hg9 hb8.size (fun x hx => by obtain rfl := Option.some.inj hx; exact logm))
        refine hK.out _ _ hb9 fun hS => ?_
        clear hK K
        refine wpAnyH_done (by kernel_rfl) ?_ _
        refine NoPanic.normal ?_
        exact cont.out _ _ (v26.heap.size) (Wd.heap.size) soj kj coj som km com rfl Hgj9 Hgm9 hoj9.row hom9.row hb9
end Go.Proofs.Ytgpndbfefbdibaa
