/- A round of the law, way by way: which way. -/
import Derived.Test.YtdmdamidknbjoaaPgAllUn
import Derived.Test.YtdmdamidknbjoaaPgAllRd
import Derived.Test.YtdmdamidknbjoaaPgAllWr
namespace Go.Proofs.Ytdmdamidknbjoaa
open Go.RowKit
set_option maxRecDepth 100000
set_option linter.unusedVariables false

set_option maxHeartbeats 4000000 in
set_option maxRecDepth 100000 in
theorem round_rest {K1 : Act → World → Prop} {Q1 : Exit → Act → World → Prop} {W w : World} {S : Nat → Prop} {q k c fr j v : Nat} {T : Txt} {ls : List Nm} {ia da : Option Addr} {ic dc : Nat} {K' F' O' X : Int} {B' : Ob} {x0 x1 x2 x3 x22 x23 x24 x25 x26 x27 x28 x29 x30 x31 x32 x33 x34 x35 x36 x263 x264 x265 x266 x267 x268 x269 x270 x271 x272 x273 x274 x275 x276 x277 x278 x279 x280 x281 x282 x283 x284 x285 x286 x287 x288 x289 x290 x291 x292 x293 x294 x295 x296 x297 x298 u4 u12 u14 u15 u16 u17 u18 u19 u20 u21 u37 u38 u39 u40 u41 u42 u43 u44 u45 u46 u47 u48 u49 u50 u51 u52 u53 u54 u55 u56 u57 u58 u59 u60 u61 u62 u63 u64 u65 u66 u67 u68 u69 u70 u71 u72 u73 u74 u75 u76 u77 u78 u79 u80 u81 u82 u83 u84 u85 u86 u87 u88 u89 u90 u91 u92 u93 u94 u95 u96 u97 u98 u99 u100 u101 u102 u103 u104 u105 u106 u107 u108 u109 u110 u111 u112 u113 u114 u115 u116 u117 u118 u119 u120 u121 u122 u123 u124 u125 u126 u127 u128 u129 u130 u131 u132 u133 u134 u135 u136 u137 u138 u139 u140 u141 u142 u143 u144 u145 u146 u147 u148 u149 u150 u151 u152 u153 u154 u155 u156 u157 u158 u159 u160 u161 u162 u163 u164 u165 u166 u167 u168 u169 u170 u171 u172 u173 u174 u175 u176 u177 u178 u179 u180 u181 u182 u183 u184 u185 u186 u187 u188 u189 u190 u191 u192 u193 u194 u195 u196 u197 u198 u199 u200 u201 u202 u203 u204 u205 u206 u207 u208 u209 u210 u211 u212 u213 u214 u215 u216 u217 u218 u219 u220 u221 u222 u223 u224 u225 u226 u227 u228 u229 u230 u231 u232 u233 u234 u235 u236 u237 u238 u239 u240 u241 u242 u243 u244 u245 u246 u247 u248 u249 u250 u251 u252 u253 u254 u255 u256 u257 u258 u259 u260 u261 u262 : Value} {z : Int}
    (hfr : fr ≤ 512) (hj : j < 50) (hcj : Hid (c ≤ j ∧ ls.length ≤ j)) (hx : Mdx W w S q k c fr T (ls.map Nm.id) (ls.map fun e => (e.db, e.n)) ls ia da ic dc ls.length ls.length v #[.int .i64 K', .int .i64 F', .int .i64 O', .int .u64 B'.id, .slice B'.a B'.n B'.c]) (hsay : Says T ls) (hu : U B'.id) (hO : -9223372036854775808 ≤ O' ∧ O' < 9223372036854775808) (hF : -9223372036854775808 ≤ F' ∧ F' < 9223372036854775808) (hrow : Row W B'.a B'.n B'.c B'.xs) (hBn : B'.n ≤ 100) (hz : Hid ((z = -1 ∧ ∀ e ∈ ls, e.id ≠ B'.id) ∨ ∃ (i : Nat) (e0 : Nm), z = (i : Int) ∧ ls[i]? = some e0 ∧ e0.id = B'.id))
    (hnext : Hid (∀ (f2 c2 : Nat) (l2 : List Nm) (i2 d2 : Option Addr) (ic2 dc2 : Nat) (w2 : World), Hid (c2 ≤ j + 1 ∧ l2.length ≤ j + 1) → Md W w2 q k c2 f2 l2 i2 d2 ic2 dc2 → ∀ (u4 u10 u11 u12 u13 u14 u15 u16 u17 u18 u19 u20 u21 u37 u38 u39 u40 u41 u42 u43 u44 u45 u46 u47 u48 u49 u50 u51 u52 u53 u54 u55 u56 u57 u58 u59 u60 u61 u62 u63 u64 u65 u66 u67 u68 u69 u70 u71 u72 u73 u74 u75 u76 u77 u78 u79 u80 u81 u82 u83 u84 u85 u86 u87 u88 u89 u90 u91 u92 u93 u94 u95 u96 u97 u98 u99 u100 u101 u102 u103 u104 u105 u106 u107 u108 u109 u110 u111 u112 u113 u114 u115 u116 u117 u118 u119 u120 u121 u122 u123 u124 u125 u126 u127 u128 u129 u130 u131 u132 u133 u134 u135 u136 u137 u138 u139 u140 u141 u142 u143 u144 u145 u146 u147 u148 u149 u150 u151 u152 u153 u154 u155 u156 u157 u158 u159 u160 u161 u162 u163 u164 u165 u166 u167 u168 u169 u170 u171 u172 u173 u174 u175 u176 u177 u178 u179 u180 u181 u182 u183 u184 u185 u186 u187 u188 u189 u190 u191 u192 u193 u194 u195 u196 u197 u198 u199 u200 u201 u202 u203 u204 u205 u206 u207 u208 u209 u210 u211 u212 u213 u214 u215 u216 u217 u218 u219 u220 u221 u222 u223 u224 u225 u226 u227 u228 u229 u230 u231 u232 u233 u234 u235 u236 u237 u238 u239 u240 u241 u242 u243 u244 u245 u246 u247 u248 u249 u250 u251 u252 u253 u254 u255 u256 u257 u258 u259 u260 u261 u262 : Value), K1 { tmps := #[x0, x1, x2, x3, u4, .pointer (some ⟨q, 0, none⟩), .int .i64 f2, .slice i2 l2.length ic2, .slice d2 l2.length dc2, .int .i64 j, u10, u11, u12, u13, u14, u15, u16, u17, u18, u19, u20, u21, x22, x23, x24, x25, x26, x27, x28, x29, x30, x31, x32, x33, x34, x35, x36, u37, u38, u39, u40, u41, u42, u43, u44, u45, u46, u47, u48, u49, u50, u51, u52, u53, u54, u55, u56, u57, u58, u59, u60, u61, u62, u63, u64, u65, u66, u67, u68, u69, u70, u71, u72, u73, u74, u75, u76, u77, u78, u79, u80, u81, u82, u83, u84, u85, u86, u87, u88, u89, u90, u91, u92, u93, u94, u95, u96, u97, u98, u99, u100, u101, u102, u103, u104, u105, u106, u107, u108, u109, u110, u111, u112, u113, u114, u115, u116, u117, u118, u119, u120, u121, u122, u123, u124, u125, u126, u127, u128, u129, u130, u131, u132, u133, u134, u135, u136, u137, u138, u139, u140, u141, u142, u143, u144, u145, u146, u147, u148, u149, u150, u151, u152, u153, u154, u155, u156, u157, u158, u159, u160, u161, u162, u163, u164, u165, u166, u167, u168, u169, u170, u171, u172, u173, u174, u175, u176, u177, u178, u179, u180, u181, u182, u183, u184, u185, u186, u187, u188, u189, u190, u191, u192, u193, u194, u195, u196, u197, u198, u199, u200, u201, u202, u203, u204, u205, u206, u207, u208, u209, u210, u211, u212, u213, u214, u215, u216, u217, u218, u219, u220, u221, u222, u223, u224, u225, u226, u227, u228, u229, u230, u231, u232, u233, u234, u235, u236, u237, u238, u239, u240, u241, u242, u243, u244, u245, u246, u247, u248, u249, u250, u251, u252, u253, u254, u255, u256, u257, u258, u259, u260, u261, u262, x263, x264, x265, x266, x267, x268, x269, x270, x271, x272, x273, x274, x275, x276, x277, x278, x279, x280, x281, x282, x283, x284, x285, x286, x287, x288, x289, x290, x291, x292, x293, x294, x295, x296, x297, x298], defers := [] } w2)) :
    Code.wp Try.prog (part Try.f3 26) (Exit.inBlock 4 (Exit.then K1 Q1)) { tmps := #[x0, x1, x2, x3, u4, .pointer (some ⟨q, 0, none⟩), .int .i64 fr, .slice ia ls.length ic, .slice da ls.length dc, .int .i64 j, .pointer (some ⟨v, 0, none⟩), .int .i64 z, u12, .int .i64 X, u14, u15, u16, u17, u18, u19, u20, u21, x22, x23, x24, x25, x26, x27, x28, x29, x30, x31, x32, x33, x34, x35, x36, u37, u38, u39, u40, u41, u42, u43, u44, u45, u46, u47, u48, u49, u50, u51, u52, u53, u54, u55, u56, u57, u58, u59, u60, u61, u62, u63, u64, u65, u66, u67, u68, u69, u70, u71, u72, u73, u74, u75, u76, u77, u78, u79, u80, u81, u82, u83, u84, u85, u86, u87, u88, u89, u90, u91, u92, u93, u94, u95, u96, u97, u98, u99, u100, u101, u102, u103, u104, u105, u106, u107, u108, u109, u110, u111, u112, u113, u114, u115, u116, u117, u118, u119, u120, u121, u122, u123, u124, u125, u126, u127, u128, u129, u130, u131, u132, u133, u134, u135, u136, u137, u138, u139, u140, u141, u142, u143, u144, u145, u146, u147, u148, u149, u150, u151, u152, u153, u154, u155, u156, u157, u158, u159, u160, u161, u162, u163, u164, u165, u166, u167, u168, u169, u170, u171, u172, u173, u174, u175, u176, u177, u178, u179, u180, u181, u182, u183, u184, u185, u186, u187, u188, u189, u190, u191, u192, u193, u194, u195, u196, u197, u198, u199, u200, u201, u202, u203, u204, u205, u206, u207, u208, u209, u210, u211, u212, u213, u214, u215, u216, u217, u218, u219, u220, u221, u222, u223, u224, u225, u226, u227, u228, u229, u230, u231, u232, u233, u234, u235, u236, u237, u238, u239, u240, u241, u242, u243, u244, u245, u246, u247, u248, u249, u250, u251, u252, u253, u254, u255, u256, u257, u258, u259, u260, u261, u262, x263, x264, x265, x266, x267, x268, x269, x270, x271, x272, x273, x274, x275, x276, x277, x278, x279, x280, x281, x282, x283, x284, x285, x286, x287, x288, x289, x290, x291, x292, x293, x294, x295, x296, x297, x298], defers := [] } w := by
  rcases hz.out with ⟨rfl, h0⟩ | ⟨i, e0, rfl, h2, h3⟩
  · by_cases hX : X < 2
    · by_cases g1 : O' < 0
      · exact leaf_map_arg1 hfr hj hcj hx hsay hu hO hF hrow hBn hX g1 hnext
      by_cases g2 : 64 < O'
      · exact leaf_map_arg2 hfr hj hcj hx hsay hu hO hF hrow hBn hX g2 hnext
      obtain ⟨N, hN⟩ := Int.eq_ofNat_of_zero_le (show 0 ≤ O' by omega)
      by_cases g3 : fr < pg N
      · exact leaf_map_full hfr hj hcj hx hsay hu hO hF hrow hBn hX hN (by omega) h0 g3 hnext
      · exact leaf_map_ok hfr hj hcj hx hsay hu hO hF hrow hBn hX hN (by omega) h0 (by omega) hnext
    by_cases hX2 : X = 2
    · exact leaf_unmap_none hfr hj hcj hx hsay hu hO hF hrow hBn hX2 h0 hnext
    have y1 : decide (X < 2) = false := by simpa using hX
    have y2 : (X == 2) = false := by simpa using hX2
    by_cases hX3 : X < 7
    · exact leaf_write_none hfr hj hcj hx hsay hu hO hF hrow hBn y1 y2 hX3 h0 hnext
    · exact leaf_read_none hfr hj hcj hx hsay hu hO hF hrow hBn y1 y2 (by simpa using hX3) h0 hnext
  · by_cases hX : X < 2
    · by_cases g1 : O' < 0
      · exact leaf_map_arg1 hfr hj hcj hx hsay hu hO hF hrow hBn hX g1 hnext
      by_cases g2 : 64 < O'
      · exact leaf_map_arg2 hfr hj hcj hx hsay hu hO hF hrow hBn hX g2 hnext
      · exact leaf_map_arg3 hfr hj hcj hx hsay hu hO hF hrow hBn hX (by omega) h2 h3 hnext
    by_cases hX2 : X = 2
    · exact leaf_unmap_ok hfr hj hcj hx hsay hu hO hF hrow hBn hX2 h2 h3 hnext
    have y1 : decide (X < 2) = false := by simpa using hX
    have y2 : (X == 2) = false := by simpa using hX2
    by_cases hX3 : X < 7
    · by_cases g1 : F' < 0 ∨ (e0.n : Int) < F' + B'.n
      · exact leaf_write_range hfr hj hcj hx hsay hu hO hF hrow hBn y1 y2 hX3 h2 h3 g1 hnext
      · obtain ⟨off, hN⟩ := Int.eq_ofNat_of_zero_le (show 0 ≤ F' by omega)
        exact leaf_write_ok hfr hj hcj hx hsay hu hO hF hrow hBn y1 y2 hX3 h2 h3 hN (by omega) hnext
    · have y3 : decide (X < 7) = false := by simpa using hX3
      by_cases g1 : F' < 0 ∨ O' < 0 ∨ (e0.n : Int) < F' + O'
      · exact leaf_read_range hfr hj hcj hx hsay hu hO hF hrow hBn y1 y2 y3 h2 h3 g1 hnext
      · obtain ⟨off, hN⟩ := Int.eq_ofNat_of_zero_le (show 0 ≤ F' by omega)
        obtain ⟨m, hM⟩ := Int.eq_ofNat_of_zero_le (show 0 ≤ O' by omega)
        exact leaf_read_ok hfr hj hcj hx hsay hu hO hF hrow hBn y1 y2 y3 h2 h3 hN hM (by omega) hnext

end Go.Proofs.Ytdmdamidknbjoaa
