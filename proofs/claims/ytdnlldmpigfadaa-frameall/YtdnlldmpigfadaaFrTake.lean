/- One round of the law, take: what stands behind the two tests of the operation, walked by itself. -/
import Derived.Test.YtdnlldmpigfadaaFrRd
import Derived.Test.YtdnlldmpigfadaaParts
import Derived.Deep.CutRange
import Derived.BigQuiet
namespace Go.Proofs.Ytdnlldmpigfadaa
open Go.RowKit

set_option linter.unusedVariables false
set_option maxHeartbeats 4000000 in
set_option maxRecDepth 100000 in
theorem leaf_take_none {K1 : Act → World → Prop} {Q1 : Exit → Act → World → Prop} {W w3 : World} {p k h c j v : Nat} {q2 : Bool} {A : Mm} {K' B' t X : Int} {x0 x1 x2 x3 x21 x22 x23 x24 x25 x26 x27 x28 x29 x30 x31 x32 x33 x34 x35 x212 x213 x214 x215 x216 x217 x218 x219 x220 x221 x222 x223 x224 x225 x226 x227 x228 x229 x230 x231 x232 x233 x234 x235 x236 x237 x238 x239 x240 x241 x242 u4 u13 u14 u15 u16 u17 u18 u19 u20 u36 u37 u38 u39 u40 u41 u42 u43 u44 u45 u46 u47 u48 u49 u50 u51 u52 u53 u54 u55 u56 u57 u58 u59 u60 u61 u62 u63 u64 u65 u66 u67 u68 u69 u70 u71 u72 u73 u74 u75 u76 u77 u78 u79 u80 u81 u82 u83 u84 u85 u86 u87 u88 u89 u90 u91 u92 u93 u94 u95 u96 u97 u98 u99 u100 u101 u102 u103 u104 u105 u106 u107 u108 u109 u110 u111 u112 u113 u114 u115 u116 u117 u118 u119 u120 u121 u122 u123 u124 u125 u126 u127 u128 u129 u130 u131 u132 u133 u134 u135 u136 u137 u138 u139 u140 u141 u142 u143 u144 u145 u146 u147 u148 u149 u150 u151 u152 u153 u154 u155 u156 u157 u158 u159 u160 u161 u162 u163 u164 u165 u166 u167 u168 u169 u170 u171 u172 u173 u174 u175 u176 u177 u178 u179 u180 u181 u182 u183 u184 u185 u186 u187 u188 u189 u190 u191 u192 u193 u194 u195 u196 u197 u198 u199 u200 u201 u202 u203 u204 u205 u206 u207 u208 u209 u210 u211 : Value} (F' O' : Int)
    (hk5 : k ≤ 512) (hc5 : c ≤ 512) (hcn : Hid (cnt A k = c)) (hrd : Rd W w3 p k h v A A K' F' O' B') (bB : 0 ≤ B' ∧ B' < 256) (ht : K'.tmod 10 = t) (t1 : -10 < t ∧ t < 10) (hX : (t + 10).tmod 10 = X) (t2 : -10 < X ∧ X < 10) (y4 : decide (X < 4) = true) (hA : at_ A F' = none)
    (hnext : Hid (∀ (c2 : Nat) (A2 : Mm) (w2 : World) (z : Int), z = (c2 : Int) → Hid (cnt A2 k = c2) → St W w2 p k h A2 A2 → ∀ (u4 u10 u11 u12 u13 u14 u15 u16 u17 u18 u19 u20 u36 u37 u38 u39 u40 u41 u42 u43 u44 u45 u46 u47 u48 u49 u50 u51 u52 u53 u54 u55 u56 u57 u58 u59 u60 u61 u62 u63 u64 u65 u66 u67 u68 u69 u70 u71 u72 u73 u74 u75 u76 u77 u78 u79 u80 u81 u82 u83 u84 u85 u86 u87 u88 u89 u90 u91 u92 u93 u94 u95 u96 u97 u98 u99 u100 u101 u102 u103 u104 u105 u106 u107 u108 u109 u110 u111 u112 u113 u114 u115 u116 u117 u118 u119 u120 u121 u122 u123 u124 u125 u126 u127 u128 u129 u130 u131 u132 u133 u134 u135 u136 u137 u138 u139 u140 u141 u142 u143 u144 u145 u146 u147 u148 u149 u150 u151 u152 u153 u154 u155 u156 u157 u158 u159 u160 u161 u162 u163 u164 u165 u166 u167 u168 u169 u170 u171 u172 u173 u174 u175 u176 u177 u178 u179 u180 u181 u182 u183 u184 u185 u186 u187 u188 u189 u190 u191 u192 u193 u194 u195 u196 u197 u198 u199 u200 u201 u202 u203 u204 u205 u206 u207 u208 u209 u210 u211 : Value), K1 { tmps := #[x0, x1, x2, x3, u4, .pointer (some ⟨p, 0, none⟩), .int .i64 k, .pointer (some ⟨h, 0, none⟩), .int .i64 z, .int .i64 j, u10, u11, u12, u13, u14, u15, u16, u17, u18, u19, u20, x21, x22, x23, x24, x25, x26, x27, x28, x29, x30, x31, x32, x33, x34, x35, u36, u37, u38, u39, u40, u41, u42, u43, u44, u45, u46, u47, u48, u49, u50, u51, u52, u53, u54, u55, u56, u57, u58, u59, u60, u61, u62, u63, u64, u65, u66, u67, u68, u69, u70, u71, u72, u73, u74, u75, u76, u77, u78, u79, u80, u81, u82, u83, u84, u85, u86, u87, u88, u89, u90, u91, u92, u93, u94, u95, u96, u97, u98, u99, u100, u101, u102, u103, u104, u105, u106, u107, u108, u109, u110, u111, u112, u113, u114, u115, u116, u117, u118, u119, u120, u121, u122, u123, u124, u125, u126, u127, u128, u129, u130, u131, u132, u133, u134, u135, u136, u137, u138, u139, u140, u141, u142, u143, u144, u145, u146, u147, u148, u149, u150, u151, u152, u153, u154, u155, u156, u157, u158, u159, u160, u161, u162, u163, u164, u165, u166, u167, u168, u169, u170, u171, u172, u173, u174, u175, u176, u177, u178, u179, u180, u181, u182, u183, u184, u185, u186, u187, u188, u189, u190, u191, u192, u193, u194, u195, u196, u197, u198, u199, u200, u201, u202, u203, u204, u205, u206, u207, u208, u209, u210, u211, x212, x213, x214, x215, x216, x217, x218, x219, x220, x221, x222, x223, x224, x225, x226, x227, x228, x229, x230, x231, x232, x233, x234, x235, x236, x237, x238, x239, x240, x241, x242], defers := [] } w2)) :
    Code.wp Try.prog (part Try.f3 15) (Exit.inBlock 1 (Exit.then K1 Q1)) { tmps := #[x0, x1, x2, x3, u4, .pointer (some ⟨p, 0, none⟩), .int .i64 k, .pointer (some ⟨h, 0, none⟩), .int .i64 c, .int .i64 j, .pointer (some ⟨v, 0, none⟩), .bool false, .bool q2, u13, u14, u15, u16, u17, u18, u19, u20, x21, x22, x23, x24, x25, x26, x27, x28, x29, x30, x31, x32, x33, x34, x35, u36, u37, u38, u39, u40, u41, u42, u43, u44, u45, u46, u47, u48, u49, u50, u51, u52, u53, u54, u55, u56, u57, u58, u59, u60, u61, u62, u63, u64, u65, u66, u67, u68, u69, u70, u71, u72, u73, u74, u75, u76, u77, u78, u79, u80, u81, u82, u83, u84, u85, u86, u87, u88, u89, u90, u91, u92, u93, u94, u95, u96, u97, u98, u99, u100, u101, u102, u103, u104, u105, u106, u107, u108, u109, u110, u111, u112, u113, u114, u115, u116, u117, u118, u119, u120, u121, u122, u123, u124, u125, u126, u127, u128, u129, u130, u131, u132, u133, u134, u135, u136, u137, u138, u139, u140, u141, u142, u143, u144, u145, u146, u147, u148, u149, u150, u151, u152, u153, u154, u155, u156, u157, u158, u159, u160, u161, u162, u163, u164, u165, u166, u167, u168, u169, u170, u171, u172, u173, u174, u175, u176, u177, u178, u179, u180, u181, u182, u183, u184, u185, u186, u187, u188, u189, u190, u191, u192, u193, u194, u195, u196, u197, u198, u199, u200, u201, u202, u203, u204, u205, u206, u207, u208, u209, u210, u211, x212, x213, x214, x215, x216, x217, x218, x219, x220, x221, x222, x223, x224, x225, x226, x227, x228, x229, x230, x231, x232, x233, x234, x235, x236, x237, x238, x239, x240, x241, x242], defers := [] } w3 := by
  conv => arg 2; whnf
  have hs := hrd.st
  obtain ⟨o0, o1, o2, o3⟩ := hrd.cells

  obtain ⟨m, hm1, hm2, hm3⟩ := least A k
  go_wp2_with fail
  by_cases hmk : m < k
  · have hm4 := hm3 hmk
    have hcn2 : Hid (cnt (upd A m (some fun _ => 0)) k = c + 1) := by show _ = _; rw [cnt_take hmk hm4, hcn.out]
    clear hm3
    refine (rd_take hrd m hmk hm2 hm4).mono ?_
    rintro e w4 ⟨rfl, hr4⟩
    clear hrd
    go_wp2_with fail
    go_loopw [17] (fun i wr' => ∃ l : Nat, l ≤ m ∧ i = .int .i64 l ∧ wr' = w4) (fun i _ => m - (intOf i).toNat)
    case atStart => exact ⟨0, by omega, rfl, rfl⟩
    case round =>
      obtain ⟨l, hl6, rfl, rfl⟩ := hrel
      have hpl : (l : Int) < (k : Int) := by omega
      have hpl5 : (l : Int) < 512 := by omega
      by_cases el : l < m
      · obtain ⟨f0, hf0⟩ := Option.ne_none_iff_exists'.1 (hm2 l el)
        obtain ⟨q0, cq, _⟩ := hr4.st.cell_some l f0 hf0
        clear hf0 hm2
        go_wp2_with fail
        go_roundw
        case rel => exact ⟨l + 1, by omega, by go_num, by trivial⟩
        case measure => simp [intOf]; omega
      · obtain rfl : l = m := by omega
        have cz := hr4.st.cell_none l (by omega) hm4
        have fz := hr4.st.frozen l
        have hsz := hr4.st.size
        have hmk2 := make_bytes
        have hne : ((l : Int) == (k : Int)) = false := by rw [beq_eq_false_iff_ne]; intro h; omega
        have hr5 := hr4.tab_take l (by omega) hm4
        clear hm2
        go_wp2_with fail
        refine (rd_used hr5 (c + 1) hcn2).mono ?_
        rintro e w9 ⟨rfl, rfl⟩
        go_wp2_with fail
        exact hnext.out (c + 1) _ _ _ (by omega) hcn2 hr5.st _ _ _ _ _ _ _ _ _ _ _ _ _ _ _ _ _ _ _ _ _ _ _ _ _ _ _ _ _ _ _ _ _ _ _ _ _ _ _ _ _ _ _ _ _ _ _ _ _ _ _ _ _ _ _ _ _ _ _ _ _ _ _ _ _ _ _ _ _ _ _ _ _ _ _ _ _ _ _ _ _ _ _ _ _ _ _ _ _ _ _ _ _ _ _ _ _ _ _ _ _ _ _ _ _ _ _ _ _ _ _ _ _ _ _ _ _ _ _ _ _ _ _ _ _ _ _ _ _ _ _ _ _ _ _ _ _ _ _ _ _ _ _ _ _ _ _ _ _ _ _ _ _ _ _ _ _ _ _ _ _ _ _ _ _ _ _ _ _ _ _ _ _ _ _ _ _ _ _ _ _ _ _ _ _ _ _ _
  · obtain rfl : m = k := by omega
    clear hm3 hm1 hmk
    refine (rd_full hrd hm2).mono ?_
    rintro e w4 ⟨rfl, rfl⟩
    go_wp2_with fail
    go_loopw [17] (fun i wr' => ∃ l : Nat, l ≤ m ∧ i = .int .i64 l ∧ wr' = w4) (fun i _ => m - (intOf i).toNat)
    case atStart => exact ⟨0, by omega, rfl, rfl⟩
    case round =>
      obtain ⟨l, hl6, rfl, rfl⟩ := hrel
      by_cases el : l < m
      · have hpl : (l : Int) < (m : Int) := by omega
        have hpl5 : (l : Int) < 512 := by omega
        obtain ⟨f0, hf0⟩ := Option.ne_none_iff_exists'.1 (hm2 l el)
        obtain ⟨q0, cq, _⟩ := hrd.st.cell_some l f0 hf0
        clear hf0 hm2
        go_wp2_with fail
        go_roundw
        case rel => exact ⟨l + 1, by omega, by go_num, by trivial⟩
        case measure => simp [intOf]; omega
      · obtain rfl : l = m := by omega
        clear hm2
        go_wp2_with fail
        exact hnext.out (c) _ _ _ rfl hcn hrd.st _ _ _ _ _ _ _ _ _ _ _ _ _ _ _ _ _ _ _ _ _ _ _ _ _ _ _ _ _ _ _ _ _ _ _ _ _ _ _ _ _ _ _ _ _ _ _ _ _ _ _ _ _ _ _ _ _ _ _ _ _ _ _ _ _ _ _ _ _ _ _ _ _ _ _ _ _ _ _ _ _ _ _ _ _ _ _ _ _ _ _ _ _ _ _ _ _ _ _ _ _ _ _ _ _ _ _ _ _ _ _ _ _ _ _ _ _ _ _ _ _ _ _ _ _ _ _ _ _ _ _ _ _ _ _ _ _ _ _ _ _ _ _ _ _ _ _ _ _ _ _ _ _ _ _ _ _ _ _ _ _ _ _ _ _ _ _ _ _ _ _ _ _ _ _ _ _ _ _ _ _ _ _ _ _ _ _ _

set_option maxHeartbeats 4000000 in
set_option maxRecDepth 100000 in
theorem leaf_take_range {K1 : Act → World → Prop} {Q1 : Exit → Act → World → Prop} {W w3 : World} {p k h c j v : Nat} {A : Mm} {K' B' t X : Int} {x0 x1 x2 x3 x21 x22 x23 x24 x25 x26 x27 x28 x29 x30 x31 x32 x33 x34 x35 x212 x213 x214 x215 x216 x217 x218 x219 x220 x221 x222 x223 x224 x225 x226 x227 x228 x229 x230 x231 x232 x233 x234 x235 x236 x237 x238 x239 x240 x241 x242 u4 u13 u14 u15 u16 u17 u18 u19 u20 u36 u37 u38 u39 u40 u41 u42 u43 u44 u45 u46 u47 u48 u49 u50 u51 u52 u53 u54 u55 u56 u57 u58 u59 u60 u61 u62 u63 u64 u65 u66 u67 u68 u69 u70 u71 u72 u73 u74 u75 u76 u77 u78 u79 u80 u81 u82 u83 u84 u85 u86 u87 u88 u89 u90 u91 u92 u93 u94 u95 u96 u97 u98 u99 u100 u101 u102 u103 u104 u105 u106 u107 u108 u109 u110 u111 u112 u113 u114 u115 u116 u117 u118 u119 u120 u121 u122 u123 u124 u125 u126 u127 u128 u129 u130 u131 u132 u133 u134 u135 u136 u137 u138 u139 u140 u141 u142 u143 u144 u145 u146 u147 u148 u149 u150 u151 u152 u153 u154 u155 u156 u157 u158 u159 u160 u161 u162 u163 u164 u165 u166 u167 u168 u169 u170 u171 u172 u173 u174 u175 u176 u177 u178 u179 u180 u181 u182 u183 u184 u185 u186 u187 u188 u189 u190 u191 u192 u193 u194 u195 u196 u197 u198 u199 u200 u201 u202 u203 u204 u205 u206 u207 u208 u209 u210 u211 : Value} (i : Nat) (f : Fr) (O' : Int)
    (hk5 : k ≤ 512) (hc5 : c ≤ 512) (hcn : Hid (cnt A k = c)) (hrd : Rd W w3 p k h v A A K' (i : Int) O' B') (bB : 0 ≤ B' ∧ B' < 256) (ht : K'.tmod 10 = t) (t1 : -10 < t ∧ t < 10) (hX : (t + 10).tmod 10 = X) (t2 : -10 < X ∧ X < 10) (y4 : decide (X < 4) = true) (hA : A i = some f) (ho : O' < 0 ∨ 16 ≤ O')
    (hnext : Hid (∀ (c2 : Nat) (A2 : Mm) (w2 : World) (z : Int), z = (c2 : Int) → Hid (cnt A2 k = c2) → St W w2 p k h A2 A2 → ∀ (u4 u10 u11 u12 u13 u14 u15 u16 u17 u18 u19 u20 u36 u37 u38 u39 u40 u41 u42 u43 u44 u45 u46 u47 u48 u49 u50 u51 u52 u53 u54 u55 u56 u57 u58 u59 u60 u61 u62 u63 u64 u65 u66 u67 u68 u69 u70 u71 u72 u73 u74 u75 u76 u77 u78 u79 u80 u81 u82 u83 u84 u85 u86 u87 u88 u89 u90 u91 u92 u93 u94 u95 u96 u97 u98 u99 u100 u101 u102 u103 u104 u105 u106 u107 u108 u109 u110 u111 u112 u113 u114 u115 u116 u117 u118 u119 u120 u121 u122 u123 u124 u125 u126 u127 u128 u129 u130 u131 u132 u133 u134 u135 u136 u137 u138 u139 u140 u141 u142 u143 u144 u145 u146 u147 u148 u149 u150 u151 u152 u153 u154 u155 u156 u157 u158 u159 u160 u161 u162 u163 u164 u165 u166 u167 u168 u169 u170 u171 u172 u173 u174 u175 u176 u177 u178 u179 u180 u181 u182 u183 u184 u185 u186 u187 u188 u189 u190 u191 u192 u193 u194 u195 u196 u197 u198 u199 u200 u201 u202 u203 u204 u205 u206 u207 u208 u209 u210 u211 : Value), K1 { tmps := #[x0, x1, x2, x3, u4, .pointer (some ⟨p, 0, none⟩), .int .i64 k, .pointer (some ⟨h, 0, none⟩), .int .i64 z, .int .i64 j, u10, u11, u12, u13, u14, u15, u16, u17, u18, u19, u20, x21, x22, x23, x24, x25, x26, x27, x28, x29, x30, x31, x32, x33, x34, x35, u36, u37, u38, u39, u40, u41, u42, u43, u44, u45, u46, u47, u48, u49, u50, u51, u52, u53, u54, u55, u56, u57, u58, u59, u60, u61, u62, u63, u64, u65, u66, u67, u68, u69, u70, u71, u72, u73, u74, u75, u76, u77, u78, u79, u80, u81, u82, u83, u84, u85, u86, u87, u88, u89, u90, u91, u92, u93, u94, u95, u96, u97, u98, u99, u100, u101, u102, u103, u104, u105, u106, u107, u108, u109, u110, u111, u112, u113, u114, u115, u116, u117, u118, u119, u120, u121, u122, u123, u124, u125, u126, u127, u128, u129, u130, u131, u132, u133, u134, u135, u136, u137, u138, u139, u140, u141, u142, u143, u144, u145, u146, u147, u148, u149, u150, u151, u152, u153, u154, u155, u156, u157, u158, u159, u160, u161, u162, u163, u164, u165, u166, u167, u168, u169, u170, u171, u172, u173, u174, u175, u176, u177, u178, u179, u180, u181, u182, u183, u184, u185, u186, u187, u188, u189, u190, u191, u192, u193, u194, u195, u196, u197, u198, u199, u200, u201, u202, u203, u204, u205, u206, u207, u208, u209, u210, u211, x212, x213, x214, x215, x216, x217, x218, x219, x220, x221, x222, x223, x224, x225, x226, x227, x228, x229, x230, x231, x232, x233, x234, x235, x236, x237, x238, x239, x240, x241, x242], defers := [] } w2)) :
    Code.wp Try.prog (part Try.f3 15) (Exit.inBlock 1 (Exit.then K1 Q1)) { tmps := #[x0, x1, x2, x3, u4, .pointer (some ⟨p, 0, none⟩), .int .i64 k, .pointer (some ⟨h, 0, none⟩), .int .i64 c, .int .i64 j, .pointer (some ⟨v, 0, none⟩), .bool true, .bool false, u13, u14, u15, u16, u17, u18, u19, u20, x21, x22, x23, x24, x25, x26, x27, x28, x29, x30, x31, x32, x33, x34, x35, u36, u37, u38, u39, u40, u41, u42, u43, u44, u45, u46, u47, u48, u49, u50, u51, u52, u53, u54, u55, u56, u57, u58, u59, u60, u61, u62, u63, u64, u65, u66, u67, u68, u69, u70, u71, u72, u73, u74, u75, u76, u77, u78, u79, u80, u81, u82, u83, u84, u85, u86, u87, u88, u89, u90, u91, u92, u93, u94, u95, u96, u97, u98, u99, u100, u101, u102, u103, u104, u105, u106, u107, u108, u109, u110, u111, u112, u113, u114, u115, u116, u117, u118, u119, u120, u121, u122, u123, u124, u125, u126, u127, u128, u129, u130, u131, u132, u133, u134, u135, u136, u137, u138, u139, u140, u141, u142, u143, u144, u145, u146, u147, u148, u149, u150, u151, u152, u153, u154, u155, u156, u157, u158, u159, u160, u161, u162, u163, u164, u165, u166, u167, u168, u169, u170, u171, u172, u173, u174, u175, u176, u177, u178, u179, u180, u181, u182, u183, u184, u185, u186, u187, u188, u189, u190, u191, u192, u193, u194, u195, u196, u197, u198, u199, u200, u201, u202, u203, u204, u205, u206, u207, u208, u209, u210, u211, x212, x213, x214, x215, x216, x217, x218, x219, x220, x221, x222, x223, x224, x225, x226, x227, x228, x229, x230, x231, x232, x233, x234, x235, x236, x237, x238, x239, x240, x241, x242], defers := [] } w3 := by
  conv => arg 2; whnf
  have hs := hrd.st
  obtain ⟨o0, o1, o2, o3⟩ := hrd.cells
  have hik : i < k := hs.lt hA
  have hpk : (i : Int) < (k : Int) := by omega
  have hp5 : (i : Int) < 512 := by omega
  obtain ⟨m, hm1, hm2, hm3⟩ := least A k
  go_wp2_with fail
  by_cases hmk : m < k
  · have hm4 := hm3 hmk
    have hcn2 : Hid (cnt (upd A m (some fun _ => 0)) k = c + 1) := by show _ = _; rw [cnt_take hmk hm4, hcn.out]
    clear hm3
    refine (rd_take hrd m hmk hm2 hm4).mono ?_
    rintro e w4 ⟨rfl, hr4⟩
    clear hrd
    go_wp2_with fail
    go_loopw [17] (fun i wr' => ∃ l : Nat, l ≤ m ∧ i = .int .i64 l ∧ wr' = w4) (fun i _ => m - (intOf i).toNat)
    case atStart => exact ⟨0, by omega, rfl, rfl⟩
    case round =>
      obtain ⟨l, hl6, rfl, rfl⟩ := hrel
      have hpl : (l : Int) < (k : Int) := by omega
      have hpl5 : (l : Int) < 512 := by omega
      by_cases el : l < m
      · obtain ⟨f0, hf0⟩ := Option.ne_none_iff_exists'.1 (hm2 l el)
        obtain ⟨q0, cq, _⟩ := hr4.st.cell_some l f0 hf0
        clear hf0 hm2
        go_wp2_with fail
        go_roundw
        case rel => exact ⟨l + 1, by omega, by go_num, by trivial⟩
        case measure => simp [intOf]; omega
      · obtain rfl : l = m := by omega
        have cz := hr4.st.cell_none l (by omega) hm4
        have fz := hr4.st.frozen l
        have hsz := hr4.st.size
        have hmk2 := make_bytes
        have hne : ((l : Int) == (k : Int)) = false := by rw [beq_eq_false_iff_ne]; intro h; omega
        have hr5 := hr4.tab_take l (by omega) hm4
        clear hm2
        go_wp2_with fail
        refine (rd_used hr5 (c + 1) hcn2).mono ?_
        rintro e w9 ⟨rfl, rfl⟩
        go_wp2_with fail
        exact hnext.out (c + 1) _ _ _ (by omega) hcn2 hr5.st _ _ _ _ _ _ _ _ _ _ _ _ _ _ _ _ _ _ _ _ _ _ _ _ _ _ _ _ _ _ _ _ _ _ _ _ _ _ _ _ _ _ _ _ _ _ _ _ _ _ _ _ _ _ _ _ _ _ _ _ _ _ _ _ _ _ _ _ _ _ _ _ _ _ _ _ _ _ _ _ _ _ _ _ _ _ _ _ _ _ _ _ _ _ _ _ _ _ _ _ _ _ _ _ _ _ _ _ _ _ _ _ _ _ _ _ _ _ _ _ _ _ _ _ _ _ _ _ _ _ _ _ _ _ _ _ _ _ _ _ _ _ _ _ _ _ _ _ _ _ _ _ _ _ _ _ _ _ _ _ _ _ _ _ _ _ _ _ _ _ _ _ _ _ _ _ _ _ _ _ _ _ _ _ _ _ _ _
  · obtain rfl : m = k := by omega
    clear hm3 hm1 hmk
    refine (rd_full hrd hm2).mono ?_
    rintro e w4 ⟨rfl, rfl⟩
    go_wp2_with fail
    go_loopw [17] (fun i wr' => ∃ l : Nat, l ≤ m ∧ i = .int .i64 l ∧ wr' = w4) (fun i _ => m - (intOf i).toNat)
    case atStart => exact ⟨0, by omega, rfl, rfl⟩
    case round =>
      obtain ⟨l, hl6, rfl, rfl⟩ := hrel
      by_cases el : l < m
      · have hpl : (l : Int) < (m : Int) := by omega
        have hpl5 : (l : Int) < 512 := by omega
        obtain ⟨f0, hf0⟩ := Option.ne_none_iff_exists'.1 (hm2 l el)
        obtain ⟨q0, cq, _⟩ := hrd.st.cell_some l f0 hf0
        clear hf0 hm2
        go_wp2_with fail
        go_roundw
        case rel => exact ⟨l + 1, by omega, by go_num, by trivial⟩
        case measure => simp [intOf]; omega
      · obtain rfl : l = m := by omega
        clear hm2
        go_wp2_with fail
        exact hnext.out (c) _ _ _ rfl hcn hrd.st _ _ _ _ _ _ _ _ _ _ _ _ _ _ _ _ _ _ _ _ _ _ _ _ _ _ _ _ _ _ _ _ _ _ _ _ _ _ _ _ _ _ _ _ _ _ _ _ _ _ _ _ _ _ _ _ _ _ _ _ _ _ _ _ _ _ _ _ _ _ _ _ _ _ _ _ _ _ _ _ _ _ _ _ _ _ _ _ _ _ _ _ _ _ _ _ _ _ _ _ _ _ _ _ _ _ _ _ _ _ _ _ _ _ _ _ _ _ _ _ _ _ _ _ _ _ _ _ _ _ _ _ _ _ _ _ _ _ _ _ _ _ _ _ _ _ _ _ _ _ _ _ _ _ _ _ _ _ _ _ _ _ _ _ _ _ _ _ _ _ _ _ _ _ _ _ _ _ _ _ _ _ _ _ _ _ _ _

set_option maxHeartbeats 4000000 in
set_option maxRecDepth 100000 in
theorem leaf_take_ok {K1 : Act → World → Prop} {Q1 : Exit → Act → World → Prop} {W w3 : World} {p k h c j v : Nat} {A : Mm} {K' B' t X : Int} {x0 x1 x2 x3 x21 x22 x23 x24 x25 x26 x27 x28 x29 x30 x31 x32 x33 x34 x35 x212 x213 x214 x215 x216 x217 x218 x219 x220 x221 x222 x223 x224 x225 x226 x227 x228 x229 x230 x231 x232 x233 x234 x235 x236 x237 x238 x239 x240 x241 x242 u4 u13 u14 u15 u16 u17 u18 u19 u20 u36 u37 u38 u39 u40 u41 u42 u43 u44 u45 u46 u47 u48 u49 u50 u51 u52 u53 u54 u55 u56 u57 u58 u59 u60 u61 u62 u63 u64 u65 u66 u67 u68 u69 u70 u71 u72 u73 u74 u75 u76 u77 u78 u79 u80 u81 u82 u83 u84 u85 u86 u87 u88 u89 u90 u91 u92 u93 u94 u95 u96 u97 u98 u99 u100 u101 u102 u103 u104 u105 u106 u107 u108 u109 u110 u111 u112 u113 u114 u115 u116 u117 u118 u119 u120 u121 u122 u123 u124 u125 u126 u127 u128 u129 u130 u131 u132 u133 u134 u135 u136 u137 u138 u139 u140 u141 u142 u143 u144 u145 u146 u147 u148 u149 u150 u151 u152 u153 u154 u155 u156 u157 u158 u159 u160 u161 u162 u163 u164 u165 u166 u167 u168 u169 u170 u171 u172 u173 u174 u175 u176 u177 u178 u179 u180 u181 u182 u183 u184 u185 u186 u187 u188 u189 u190 u191 u192 u193 u194 u195 u196 u197 u198 u199 u200 u201 u202 u203 u204 u205 u206 u207 u208 u209 u210 u211 : Value} (i l : Nat) (f : Fr)
    (hk5 : k ≤ 512) (hc5 : c ≤ 512) (hcn : Hid (cnt A k = c)) (hrd : Rd W w3 p k h v A A K' (i : Int) (l : Int) B') (bB : 0 ≤ B' ∧ B' < 256) (ht : K'.tmod 10 = t) (t1 : -10 < t ∧ t < 10) (hX : (t + 10).tmod 10 = X) (t2 : -10 < X ∧ X < 10) (y4 : decide (X < 4) = true) (hA : A i = some f) (hl16 : l < 16)
    (hnext : Hid (∀ (c2 : Nat) (A2 : Mm) (w2 : World) (z : Int), z = (c2 : Int) → Hid (cnt A2 k = c2) → St W w2 p k h A2 A2 → ∀ (u4 u10 u11 u12 u13 u14 u15 u16 u17 u18 u19 u20 u36 u37 u38 u39 u40 u41 u42 u43 u44 u45 u46 u47 u48 u49 u50 u51 u52 u53 u54 u55 u56 u57 u58 u59 u60 u61 u62 u63 u64 u65 u66 u67 u68 u69 u70 u71 u72 u73 u74 u75 u76 u77 u78 u79 u80 u81 u82 u83 u84 u85 u86 u87 u88 u89 u90 u91 u92 u93 u94 u95 u96 u97 u98 u99 u100 u101 u102 u103 u104 u105 u106 u107 u108 u109 u110 u111 u112 u113 u114 u115 u116 u117 u118 u119 u120 u121 u122 u123 u124 u125 u126 u127 u128 u129 u130 u131 u132 u133 u134 u135 u136 u137 u138 u139 u140 u141 u142 u143 u144 u145 u146 u147 u148 u149 u150 u151 u152 u153 u154 u155 u156 u157 u158 u159 u160 u161 u162 u163 u164 u165 u166 u167 u168 u169 u170 u171 u172 u173 u174 u175 u176 u177 u178 u179 u180 u181 u182 u183 u184 u185 u186 u187 u188 u189 u190 u191 u192 u193 u194 u195 u196 u197 u198 u199 u200 u201 u202 u203 u204 u205 u206 u207 u208 u209 u210 u211 : Value), K1 { tmps := #[x0, x1, x2, x3, u4, .pointer (some ⟨p, 0, none⟩), .int .i64 k, .pointer (some ⟨h, 0, none⟩), .int .i64 z, .int .i64 j, u10, u11, u12, u13, u14, u15, u16, u17, u18, u19, u20, x21, x22, x23, x24, x25, x26, x27, x28, x29, x30, x31, x32, x33, x34, x35, u36, u37, u38, u39, u40, u41, u42, u43, u44, u45, u46, u47, u48, u49, u50, u51, u52, u53, u54, u55, u56, u57, u58, u59, u60, u61, u62, u63, u64, u65, u66, u67, u68, u69, u70, u71, u72, u73, u74, u75, u76, u77, u78, u79, u80, u81, u82, u83, u84, u85, u86, u87, u88, u89, u90, u91, u92, u93, u94, u95, u96, u97, u98, u99, u100, u101, u102, u103, u104, u105, u106, u107, u108, u109, u110, u111, u112, u113, u114, u115, u116, u117, u118, u119, u120, u121, u122, u123, u124, u125, u126, u127, u128, u129, u130, u131, u132, u133, u134, u135, u136, u137, u138, u139, u140, u141, u142, u143, u144, u145, u146, u147, u148, u149, u150, u151, u152, u153, u154, u155, u156, u157, u158, u159, u160, u161, u162, u163, u164, u165, u166, u167, u168, u169, u170, u171, u172, u173, u174, u175, u176, u177, u178, u179, u180, u181, u182, u183, u184, u185, u186, u187, u188, u189, u190, u191, u192, u193, u194, u195, u196, u197, u198, u199, u200, u201, u202, u203, u204, u205, u206, u207, u208, u209, u210, u211, x212, x213, x214, x215, x216, x217, x218, x219, x220, x221, x222, x223, x224, x225, x226, x227, x228, x229, x230, x231, x232, x233, x234, x235, x236, x237, x238, x239, x240, x241, x242], defers := [] } w2)) :
    Code.wp Try.prog (part Try.f3 15) (Exit.inBlock 1 (Exit.then K1 Q1)) { tmps := #[x0, x1, x2, x3, u4, .pointer (some ⟨p, 0, none⟩), .int .i64 k, .pointer (some ⟨h, 0, none⟩), .int .i64 c, .int .i64 j, .pointer (some ⟨v, 0, none⟩), .bool true, .bool true, u13, u14, u15, u16, u17, u18, u19, u20, x21, x22, x23, x24, x25, x26, x27, x28, x29, x30, x31, x32, x33, x34, x35, u36, u37, u38, u39, u40, u41, u42, u43, u44, u45, u46, u47, u48, u49, u50, u51, u52, u53, u54, u55, u56, u57, u58, u59, u60, u61, u62, u63, u64, u65, u66, u67, u68, u69, u70, u71, u72, u73, u74, u75, u76, u77, u78, u79, u80, u81, u82, u83, u84, u85, u86, u87, u88, u89, u90, u91, u92, u93, u94, u95, u96, u97, u98, u99, u100, u101, u102, u103, u104, u105, u106, u107, u108, u109, u110, u111, u112, u113, u114, u115, u116, u117, u118, u119, u120, u121, u122, u123, u124, u125, u126, u127, u128, u129, u130, u131, u132, u133, u134, u135, u136, u137, u138, u139, u140, u141, u142, u143, u144, u145, u146, u147, u148, u149, u150, u151, u152, u153, u154, u155, u156, u157, u158, u159, u160, u161, u162, u163, u164, u165, u166, u167, u168, u169, u170, u171, u172, u173, u174, u175, u176, u177, u178, u179, u180, u181, u182, u183, u184, u185, u186, u187, u188, u189, u190, u191, u192, u193, u194, u195, u196, u197, u198, u199, u200, u201, u202, u203, u204, u205, u206, u207, u208, u209, u210, u211, x212, x213, x214, x215, x216, x217, x218, x219, x220, x221, x222, x223, x224, x225, x226, x227, x228, x229, x230, x231, x232, x233, x234, x235, x236, x237, x238, x239, x240, x241, x242], defers := [] } w3 := by
  conv => arg 2; whnf
  have hs := hrd.st
  obtain ⟨o0, o1, o2, o3⟩ := hrd.cells
  have hik : i < k := hs.lt hA
  have hpk : (i : Int) < (k : Int) := by omega
  have hp5 : (i : Int) < 512 := by omega
  have hp16 : (l : Int) < 16 := by omega
  obtain ⟨m, hm1, hm2, hm3⟩ := least A k
  go_wp2_with fail
  by_cases hmk : m < k
  · have hm4 := hm3 hmk
    have hcn2 : Hid (cnt (upd A m (some fun _ => 0)) k = c + 1) := by show _ = _; rw [cnt_take hmk hm4, hcn.out]
    clear hm3
    refine (rd_take hrd m hmk hm2 hm4).mono ?_
    rintro e w4 ⟨rfl, hr4⟩
    clear hrd
    go_wp2_with fail
    go_loopw [17] (fun i wr' => ∃ l : Nat, l ≤ m ∧ i = .int .i64 l ∧ wr' = w4) (fun i _ => m - (intOf i).toNat)
    case atStart => exact ⟨0, by omega, rfl, rfl⟩
    case round =>
      obtain ⟨l, hl6, rfl, rfl⟩ := hrel
      have hpl : (l : Int) < (k : Int) := by omega
      have hpl5 : (l : Int) < 512 := by omega
      by_cases el : l < m
      · obtain ⟨f0, hf0⟩ := Option.ne_none_iff_exists'.1 (hm2 l el)
        obtain ⟨q0, cq, _⟩ := hr4.st.cell_some l f0 hf0
        clear hf0 hm2
        go_wp2_with fail
        go_roundw
        case rel => exact ⟨l + 1, by omega, by go_num, by trivial⟩
        case measure => simp [intOf]; omega
      · obtain rfl : l = m := by omega
        have cz := hr4.st.cell_none l (by omega) hm4
        have fz := hr4.st.frozen l
        have hsz := hr4.st.size
        have hmk2 := make_bytes
        have hne : ((l : Int) == (k : Int)) = false := by rw [beq_eq_false_iff_ne]; intro h; omega
        have hr5 := hr4.tab_take l (by omega) hm4
        clear hm2
        go_wp2_with fail
        refine (rd_used hr5 (c + 1) hcn2).mono ?_
        rintro e w9 ⟨rfl, rfl⟩
        go_wp2_with fail
        exact hnext.out (c + 1) _ _ _ (by omega) hcn2 hr5.st _ _ _ _ _ _ _ _ _ _ _ _ _ _ _ _ _ _ _ _ _ _ _ _ _ _ _ _ _ _ _ _ _ _ _ _ _ _ _ _ _ _ _ _ _ _ _ _ _ _ _ _ _ _ _ _ _ _ _ _ _ _ _ _ _ _ _ _ _ _ _ _ _ _ _ _ _ _ _ _ _ _ _ _ _ _ _ _ _ _ _ _ _ _ _ _ _ _ _ _ _ _ _ _ _ _ _ _ _ _ _ _ _ _ _ _ _ _ _ _ _ _ _ _ _ _ _ _ _ _ _ _ _ _ _ _ _ _ _ _ _ _ _ _ _ _ _ _ _ _ _ _ _ _ _ _ _ _ _ _ _ _ _ _ _ _ _ _ _ _ _ _ _ _ _ _ _ _ _ _ _ _ _ _ _ _ _ _
  · obtain rfl : m = k := by omega
    clear hm3 hm1 hmk
    refine (rd_full hrd hm2).mono ?_
    rintro e w4 ⟨rfl, rfl⟩
    go_wp2_with fail
    go_loopw [17] (fun i wr' => ∃ l : Nat, l ≤ m ∧ i = .int .i64 l ∧ wr' = w4) (fun i _ => m - (intOf i).toNat)
    case atStart => exact ⟨0, by omega, rfl, rfl⟩
    case round =>
      obtain ⟨l, hl6, rfl, rfl⟩ := hrel
      by_cases el : l < m
      · have hpl : (l : Int) < (m : Int) := by omega
        have hpl5 : (l : Int) < 512 := by omega
        obtain ⟨f0, hf0⟩ := Option.ne_none_iff_exists'.1 (hm2 l el)
        obtain ⟨q0, cq, _⟩ := hrd.st.cell_some l f0 hf0
        clear hf0 hm2
        go_wp2_with fail
        go_roundw
        case rel => exact ⟨l + 1, by omega, by go_num, by trivial⟩
        case measure => simp [intOf]; omega
      · obtain rfl : l = m := by omega
        clear hm2
        go_wp2_with fail
        exact hnext.out (c) _ _ _ rfl hcn hrd.st _ _ _ _ _ _ _ _ _ _ _ _ _ _ _ _ _ _ _ _ _ _ _ _ _ _ _ _ _ _ _ _ _ _ _ _ _ _ _ _ _ _ _ _ _ _ _ _ _ _ _ _ _ _ _ _ _ _ _ _ _ _ _ _ _ _ _ _ _ _ _ _ _ _ _ _ _ _ _ _ _ _ _ _ _ _ _ _ _ _ _ _ _ _ _ _ _ _ _ _ _ _ _ _ _ _ _ _ _ _ _ _ _ _ _ _ _ _ _ _ _ _ _ _ _ _ _ _ _ _ _ _ _ _ _ _ _ _ _ _ _ _ _ _ _ _ _ _ _ _ _ _ _ _ _ _ _ _ _ _ _ _ _ _ _ _ _ _ _ _ _ _ _ _ _ _ _ _ _ _ _ _ _ _ _ _ _ _
end Go.Proofs.Ytdnlldmpigfadaa
