/- 'FrameAll' answers true: in any run of up to 60 operations the memory tells what an array of slices tells. -/
import Derived.Test.YtdnlldmpigfadaaFrRound
import Derived.Deep.CutRange
import Derived.BigQuiet
namespace Go.Proofs.Ytdnlldmpigfadaa
open Go.RowKit

set_option maxHeartbeats 4000000 in
set_option maxRecDepth 100000 in
theorem frameAll_all (n : Int) (a : Option Addr) (len cap : Nat) (K F O B : Nat → Int) (W : World) (hr : OpsIn W a len cap K F O B) :
    Calls Try.prog 3 #[.int .i64 n, .slice a len cap] W fun e w' => e = .returned (.bool true) ∧ Below W.heap.size W w' := by
  obtain ⟨k, hk⟩ : ∃ k : Nat, min (max n 0) 512 = (k : Int) := ⟨(min (max n 0) 512).toNat, by omega⟩
  have hk5 : k ≤ 512 := by omega
  have hlid := hr.lid
  obtain ⟨Z, hZ, hZ2, hz27⟩ := zero27
  by_cases hl : len ≤ 60
  · have hz : decide ((60 : Int) < (len : Int)) = false := by simp; omega
    go_enter Try.func3, Try.ntmps3
    go_wp2_with fail
    refine (begun12_true _).mono ?_
    rintro e w1 ⟨rfl, hb1⟩
    go_wp2_with fail
    refine (new_any n k hk _).mono ?_
    rintro e w2 ⟨p, g, b, S, rfl, hM, hb2, hS⟩
    have hst := st_start hM (hb1.trans (hb2.mono hb1.size)) (fun x hx => Nat.le_trans hb1.size (hS x hx)) Z hZ hZ2
    clear hM hb2 hS hb1 hZ hZ2 hz
    obtain ⟨h, hh⟩ : ∃ h, h = w2.heap.size := ⟨_, rfl⟩
    rw [← hh] at hst
    go_wp2_with fail
    rw [← hh]
    clear hh hz27
    go_loopw [8, 9] (fun u i wr => ∃ (j c : Nat) (A : Mm), j ≤ len ∧ u = .int .i64 c ∧ i = .int .i64 j ∧ Hid (cnt A k = c) ∧ St W wr p k h A A) (fun _ i _ => len - (intOf i).toNat)
    case atStart => exact ⟨0, 0, _, by omega, rfl, rfl, cnt_none (fun _ _ => rfl), hst⟩
    case round =>
      obtain ⟨j, c, A, hj, rfl, rfl, hcn, hs⟩ := hrel
      clear hst
      by_cases e : j < len
      · have hp : (j : Int) < (len : Int) := by omega
        obtain ⟨bb, off, rfl, hc⟩ := (hr.below hs.below).spot (by omega)
        obtain ⟨c0, c1, c2, c3⟩ := hc j e
        obtain ⟨bk, bf, bo, bB⟩ := hr.bd j e
        clear hc
        generalize K j = K' at *
        generalize F j = F' at *
        generalize O j = O' at *
        generalize B j = B' at *
        go_upto_region 13 with fail
        rename_i K1 hK1 K13 hK13
        have hrd := hs.round K' F' O' B'
        obtain ⟨v, hv⟩ : ∃ v, v = wr.heap.size := ⟨_, rfl⟩
        obtain ⟨w3, hw3⟩ : ∃ w3, w3 = wr.alloc (.cells #[.int .i64 K', .int .i64 F', .int .i64 O', .int .u8 B'] 29) := ⟨_, rfl⟩
        rw [← hv, ← hw3] at hrd
        rw [← hv, ← hw3]
        clear hv hw3 hs c0 c1 c2 c3
        have hs := hrd.st
        obtain ⟨o0, o1, o2, o3⟩ := hrd.cells
        have HR : Hid (Rd W w3 p k h v A A K' F' O' B') := hrd
        clear hrd
        go_cut [11] from 36 to 211 (fun s11 wc => ∃ q : Bool, s11 = .bool q ∧ Hid (q = true ↔ at_ A F' ≠ none) ∧ wc = w3)
        case first =>
          by_cases f0 : F' < 0
          · have hA : at_ A F' = none := if_pos f0
            have f1 : decide (0 ≤ F') = false := by simpa using f0
            go_wp2_with fail
            go_meet
            case rel => exact ⟨false, rfl, ⟨fun h => (by cases h), fun h => absurd hA h⟩, rfl⟩
          · obtain ⟨i, rfl⟩ := Int.eq_ofNat_of_zero_le (show 0 ≤ F' by omega)
            by_cases f2 : i < k
            · have f3 : (i : Int) < (k : Int) := by omega
              have f4 : (i : Int) < 512 := by omega
              have f5 : min (i : Int) 511 = (i : Int) := by omega
              have f6 : max (i : Int) 0 = (i : Int) := by omega
              cases hf : A i with
              | none =>
                have cz := hs.cell_none i (by omega) hf
                have hA : at_ A (i : Int) = none := by rw [at_nat]; exact hf
                clear hf
                go_wp2_with fail
                go_meet
                case rel => exact ⟨false, rfl, ⟨fun h => (by cases h), fun h => absurd hA h⟩, rfl⟩
              | some f =>
                obtain ⟨q0, cz, _⟩ := hs.cell_some i f hf
                have hA : at_ A (i : Int) ≠ none := by rw [at_nat, hf]; simp
                clear hf
                go_wp2_with fail
                go_meet
                case rel => exact ⟨true, rfl, ⟨fun _ => hA, fun _ => rfl⟩, rfl⟩
            · have hA : at_ A (i : Int) = none := by rw [at_nat]; exact hs.top i (by omega)
              have f3 : decide ((i : Int) < (k : Int)) = false := by simp; omega
              go_wp2_with fail
              go_meet
              case rel => exact ⟨false, rfl, ⟨fun h => (by cases h), fun h => absurd hA h⟩, rfl⟩
        case rest =>
          obtain ⟨q, rfl, hq, rfl⟩ := hcut
          go_upto_region 14 with fail
          go_cut [12] from 36 to 211 (fun s12 wc' => ∃ q2 : Bool, s12 = .bool q2 ∧ Hid (q2 = true ↔ (0 ≤ O' ∧ O' < 16)) ∧ wc' = wc)
          case first =>
            by_cases f0 : O' < 0
            · have f1 : decide (0 ≤ O') = false := by simpa using f0
              go_wp2_with fail
              go_meet
              case rel => exact ⟨false, rfl, ⟨fun h => (by cases h), fun h => by omega⟩, rfl⟩
            · have f1 : decide (0 ≤ O') = true := by simpa using f0
              by_cases f2 : O' < 16
              · have f3 : decide (O' < 16) = true := by simpa using f2
                go_wp2_with fail
                go_meet
                case rel => exact ⟨true, rfl, ⟨fun _ => by omega, fun _ => rfl⟩, rfl⟩
              · have f3 : decide (O' < 16) = false := by simpa using f2
                go_wp2_with fail
                go_meet
                case rel => exact ⟨false, rfl, ⟨fun h => (by cases h), fun h => by omega⟩, rfl⟩
          case rest =>
            obtain ⟨q2, rfl, hq2, rfl⟩ := hcut
            have hrd := HR.out
            clear HR
            rename_i K0 hK0
            have hc5 : c ≤ 512 := by have := hcn.out; have := cnt_le A k; omega
            have hnext : Hid (∀ (c2 : Nat) (A2 : Mm) (w2 : World) (z : Int), z = (c2 : Int) → Hid (cnt A2 k = c2) → St W w2 p k h A2 A2 → ∀ (u4 u10 u11 u12 u13 u14 u15 u16 u17 u18 u19 u20 u36 u37 u38 u39 u40 u41 u42 u43 u44 u45 u46 u47 u48 u49 u50 u51 u52 u53 u54 u55 u56 u57 u58 u59 u60 u61 u62 u63 u64 u65 u66 u67 u68 u69 u70 u71 u72 u73 u74 u75 u76 u77 u78 u79 u80 u81 u82 u83 u84 u85 u86 u87 u88 u89 u90 u91 u92 u93 u94 u95 u96 u97 u98 u99 u100 u101 u102 u103 u104 u105 u106 u107 u108 u109 u110 u111 u112 u113 u114 u115 u116 u117 u118 u119 u120 u121 u122 u123 u124 u125 u126 u127 u128 u129 u130 u131 u132 u133 u134 u135 u136 u137 u138 u139 u140 u141 u142 u143 u144 u145 u146 u147 u148 u149 u150 u151 u152 u153 u154 u155 u156 u157 u158 u159 u160 u161 u162 u163 u164 u165 u166 u167 u168 u169 u170 u171 u172 u173 u174 u175 u176 u177 u178 u179 u180 u181 u182 u183 u184 u185 u186 u187 u188 u189 u190 u191 u192 u193 u194 u195 u196 u197 u198 u199 u200 u201 u202 u203 u204 u205 u206 u207 u208 u209 u210 u211 : Value), K1 { tmps := #[.int .i64 n, .slice (some ⟨bb, off, none⟩) len cap, undef, undef, u4, .pointer (some ⟨p, 0, none⟩), .int .i64 k, .pointer (some ⟨h, 0, none⟩), .int .i64 z, .int .i64 j, u10, u11, u12, u13, u14, u15, u16, u17, u18, u19, u20, undef, undef, undef, undef, undef, .bool true, .bool false, .slice (some ⟨bb, off, none⟩) len cap, .int .i64 len, .bool false, .int .i64 n, .pointer (some ⟨p, 0, none⟩), .int .i64 n, .int .i64 (max n 0), .int .i64 k, u36, u37, u38, u39, u40, u41, u42, u43, u44, u45, u46, u47, u48, u49, u50, u51, u52, u53, u54, u55, u56, u57, u58, u59, u60, u61, u62, u63, u64, u65, u66, u67, u68, u69, u70, u71, u72, u73, u74, u75, u76, u77, u78, u79, u80, u81, u82, u83, u84, u85, u86, u87, u88, u89, u90, u91, u92, u93, u94, u95, u96, u97, u98, u99, u100, u101, u102, u103, u104, u105, u106, u107, u108, u109, u110, u111, u112, u113, u114, u115, u116, u117, u118, u119, u120, u121, u122, u123, u124, u125, u126, u127, u128, u129, u130, u131, u132, u133, u134, u135, u136, u137, u138, u139, u140, u141, u142, u143, u144, u145, u146, u147, u148, u149, u150, u151, u152, u153, u154, u155, u156, u157, u158, u159, u160, u161, u162, u163, u164, u165, u166, u167, u168, u169, u170, u171, u172, u173, u174, u175, u176, u177, u178, u179, u180, u181, u182, u183, u184, u185, u186, u187, u188, u189, u190, u191, u192, u193, u194, u195, u196, u197, u198, u199, u200, u201, u202, u203, u204, u205, u206, u207, u208, u209, u210, u211, undef, undef, undef, undef, undef, undef, undef, undef, undef, undef, undef, undef, undef, undef, undef, undef, undef, undef, undef, undef, undef, undef, undef, undef, undef, undef, undef, undef, undef, undef, undef], defers := [] } w2) := by
              intro c2 A2 w2 z hz2 hcn2 hst2 u4 u10 u11 u12 u13 u14 u15 u16 u17 u18 u19 u20 u36 u37 u38 u39 u40 u41 u42 u43 u44 u45 u46 u47 u48 u49 u50 u51 u52 u53 u54 u55 u56 u57 u58 u59 u60 u61 u62 u63 u64 u65 u66 u67 u68 u69 u70 u71 u72 u73 u74 u75 u76 u77 u78 u79 u80 u81 u82 u83 u84 u85 u86 u87 u88 u89 u90 u91 u92 u93 u94 u95 u96 u97 u98 u99 u100 u101 u102 u103 u104 u105 u106 u107 u108 u109 u110 u111 u112 u113 u114 u115 u116 u117 u118 u119 u120 u121 u122 u123 u124 u125 u126 u127 u128 u129 u130 u131 u132 u133 u134 u135 u136 u137 u138 u139 u140 u141 u142 u143 u144 u145 u146 u147 u148 u149 u150 u151 u152 u153 u154 u155 u156 u157 u158 u159 u160 u161 u162 u163 u164 u165 u166 u167 u168 u169 u170 u171 u172 u173 u174 u175 u176 u177 u178 u179 u180 u181 u182 u183 u184 u185 u186 u187 u188 u189 u190 u191 u192 u193 u194 u195 u196 u197 u198 u199 u200 u201 u202 u203 u204 u205 u206 u207 u208 u209 u210 u211
              apply hK1
              clear hK0 hK1 hrd hs o0 o1 o2 o3 hq hq2 hcn
              subst hz2
              go_wp2_with fail
              go_roundw
              case rel => exact ⟨j + 1, c2, A2, by omega, rfl, by go_num, hcn2, hst2⟩
              case measure => simp [intOf]; omega
            apply hK0
            clear hK0 hK1
            show Code.wp Try.prog (part Try.f3 15) (Exit.inBlock 1 (Exit.then K1 _)) _ _
            exact round_rest F' O' q q2 hq hq2 hk5 hc5 hcn hrd bB hnext
      · obtain rfl : j = len := by omega
        clear hr
        have hb := hs.below
        clear hs hcn
        go_wp2_with fail
        refine (take_nil _).mono ?_
        rintro e w3 ⟨rfl, rfl⟩
        go_wp2_with fail
        refine (load_nil 0 0 _).mono ?_
        rintro e w3 ⟨rfl, rfl⟩
        go_wp2_with fail
        refine (free_nil 0 _).mono ?_
        rintro e w3 ⟨rfl, rfl⟩
        go_wp2_with fail
        refine (store_nil 0 0 1 _).mono ?_
        rintro e w3 ⟨rfl, rfl⟩
        go_wp2_with fail
        refine (used_nil _).mono ?_
        rintro e w3 ⟨rfl, rfl⟩
        go_wp2_with fail
        go_ret
        exact ⟨rfl, hb⟩
  · have hz : (60 : Int) < (len : Int) := by omega
    go_enter Try.func3, Try.ntmps3
    go_wp2_with fail
    refine (begun12_true _).mono ?_
    rintro e w1 ⟨rfl, hb1⟩
    go_wp2_with fail
    go_ret
    exact ⟨rfl, hb1⟩
end Go.Proofs.Ytdnlldmpigfadaa
