/- A round of the law, way by way: Read that is fine. -/
import Derived.Test.YtdmdamidknbjoaaPgAllErr
namespace Go.Proofs.Ytdmdamidknbjoaa
open Go.RowKit
set_option maxRecDepth 100000
set_option linter.unusedVariables false

set_option maxHeartbeats 4000000 in
set_option maxRecDepth 100000 in
theorem leaf_read_ok {K1 : Act → World → Prop} {Q1 : Exit → Act → World → Prop} {W w : World} {S : Nat → Prop} {q k c fr j v : Nat} {T : Txt} {ls : List Nm} {ia da : Option Addr} {ic dc : Nat} {K' F' O' X : Int} {B' : Ob} {x0 x1 x2 x3 x22 x23 x24 x25 x26 x27 x28 x29 x30 x31 x32 x33 x34 x35 x36 x263 x264 x265 x266 x267 x268 x269 x270 x271 x272 x273 x274 x275 x276 x277 x278 x279 x280 x281 x282 x283 x284 x285 x286 x287 x288 x289 x290 x291 x292 x293 x294 x295 x296 x297 x298 u4 u12 u14 u15 u16 u17 u18 u19 u20 u21 u37 u38 u39 u40 u41 u42 u43 u44 u45 u46 u47 u48 u49 u50 u51 u52 u53 u54 u55 u56 u57 u58 u59 u60 u61 u62 u63 u64 u65 u66 u67 u68 u69 u70 u71 u72 u73 u74 u75 u76 u77 u78 u79 u80 u81 u82 u83 u84 u85 u86 u87 u88 u89 u90 u91 u92 u93 u94 u95 u96 u97 u98 u99 u100 u101 u102 u103 u104 u105 u106 u107 u108 u109 u110 u111 u112 u113 u114 u115 u116 u117 u118 u119 u120 u121 u122 u123 u124 u125 u126 u127 u128 u129 u130 u131 u132 u133 u134 u135 u136 u137 u138 u139 u140 u141 u142 u143 u144 u145 u146 u147 u148 u149 u150 u151 u152 u153 u154 u155 u156 u157 u158 u159 u160 u161 u162 u163 u164 u165 u166 u167 u168 u169 u170 u171 u172 u173 u174 u175 u176 u177 u178 u179 u180 u181 u182 u183 u184 u185 u186 u187 u188 u189 u190 u191 u192 u193 u194 u195 u196 u197 u198 u199 u200 u201 u202 u203 u204 u205 u206 u207 u208 u209 u210 u211 u212 u213 u214 u215 u216 u217 u218 u219 u220 u221 u222 u223 u224 u225 u226 u227 u228 u229 u230 u231 u232 u233 u234 u235 u236 u237 u238 u239 u240 u241 u242 u243 u244 u245 u246 u247 u248 u249 u250 u251 u252 u253 u254 u255 u256 u257 u258 u259 u260 u261 u262 : Value} {i off n : Nat} {e0 : Nm}
    (hfr : fr ≤ 512) (hj : j < 50) (hcj : Hid (c ≤ j ∧ ls.length ≤ j)) (hx : Mdx W w S q k c fr T (ls.map Nm.id) (ls.map fun e => (e.db, e.n)) ls ia da ic dc ls.length ls.length v #[.int .i64 K', .int .i64 F', .int .i64 O', .int .u64 B'.id, .slice B'.a B'.n B'.c]) (hsay : Says T ls) (hu : U B'.id) (hO : -9223372036854775808 ≤ O' ∧ O' < 9223372036854775808) (hF : -9223372036854775808 ≤ F' ∧ F' < 9223372036854775808) (hrow : Row W B'.a B'.n B'.c B'.xs) (hBn : B'.n ≤ 100) (hX1 : decide (X < 2) = false) (hX2 : (X == 2) = false) (hX3 : decide (X < 7) = false) (h2 : ls[i]? = some e0) (h3 : e0.id = B'.id) (hN : F' = (off : Int)) (hM : O' = (n : Int)) (hn : off + n ≤ e0.n)
    (hnext : Hid (∀ (f2 c2 : Nat) (l2 : List Nm) (i2 d2 : Option Addr) (ic2 dc2 : Nat) (w2 : World), Hid (c2 ≤ j + 1 ∧ l2.length ≤ j + 1) → Md W w2 q k c2 f2 l2 i2 d2 ic2 dc2 → ∀ (u4 u10 u11 u12 u13 u14 u15 u16 u17 u18 u19 u20 u21 u37 u38 u39 u40 u41 u42 u43 u44 u45 u46 u47 u48 u49 u50 u51 u52 u53 u54 u55 u56 u57 u58 u59 u60 u61 u62 u63 u64 u65 u66 u67 u68 u69 u70 u71 u72 u73 u74 u75 u76 u77 u78 u79 u80 u81 u82 u83 u84 u85 u86 u87 u88 u89 u90 u91 u92 u93 u94 u95 u96 u97 u98 u99 u100 u101 u102 u103 u104 u105 u106 u107 u108 u109 u110 u111 u112 u113 u114 u115 u116 u117 u118 u119 u120 u121 u122 u123 u124 u125 u126 u127 u128 u129 u130 u131 u132 u133 u134 u135 u136 u137 u138 u139 u140 u141 u142 u143 u144 u145 u146 u147 u148 u149 u150 u151 u152 u153 u154 u155 u156 u157 u158 u159 u160 u161 u162 u163 u164 u165 u166 u167 u168 u169 u170 u171 u172 u173 u174 u175 u176 u177 u178 u179 u180 u181 u182 u183 u184 u185 u186 u187 u188 u189 u190 u191 u192 u193 u194 u195 u196 u197 u198 u199 u200 u201 u202 u203 u204 u205 u206 u207 u208 u209 u210 u211 u212 u213 u214 u215 u216 u217 u218 u219 u220 u221 u222 u223 u224 u225 u226 u227 u228 u229 u230 u231 u232 u233 u234 u235 u236 u237 u238 u239 u240 u241 u242 u243 u244 u245 u246 u247 u248 u249 u250 u251 u252 u253 u254 u255 u256 u257 u258 u259 u260 u261 u262 : Value), K1 { tmps := #[x0, x1, x2, x3, u4, .pointer (some ⟨q, 0, none⟩), .int .i64 f2, .slice i2 l2.length ic2, .slice d2 l2.length dc2, .int .i64 j, u10, u11, u12, u13, u14, u15, u16, u17, u18, u19, u20, u21, x22, x23, x24, x25, x26, x27, x28, x29, x30, x31, x32, x33, x34, x35, x36, u37, u38, u39, u40, u41, u42, u43, u44, u45, u46, u47, u48, u49, u50, u51, u52, u53, u54, u55, u56, u57, u58, u59, u60, u61, u62, u63, u64, u65, u66, u67, u68, u69, u70, u71, u72, u73, u74, u75, u76, u77, u78, u79, u80, u81, u82, u83, u84, u85, u86, u87, u88, u89, u90, u91, u92, u93, u94, u95, u96, u97, u98, u99, u100, u101, u102, u103, u104, u105, u106, u107, u108, u109, u110, u111, u112, u113, u114, u115, u116, u117, u118, u119, u120, u121, u122, u123, u124, u125, u126, u127, u128, u129, u130, u131, u132, u133, u134, u135, u136, u137, u138, u139, u140, u141, u142, u143, u144, u145, u146, u147, u148, u149, u150, u151, u152, u153, u154, u155, u156, u157, u158, u159, u160, u161, u162, u163, u164, u165, u166, u167, u168, u169, u170, u171, u172, u173, u174, u175, u176, u177, u178, u179, u180, u181, u182, u183, u184, u185, u186, u187, u188, u189, u190, u191, u192, u193, u194, u195, u196, u197, u198, u199, u200, u201, u202, u203, u204, u205, u206, u207, u208, u209, u210, u211, u212, u213, u214, u215, u216, u217, u218, u219, u220, u221, u222, u223, u224, u225, u226, u227, u228, u229, u230, u231, u232, u233, u234, u235, u236, u237, u238, u239, u240, u241, u242, u243, u244, u245, u246, u247, u248, u249, u250, u251, u252, u253, u254, u255, u256, u257, u258, u259, u260, u261, u262, x263, x264, x265, x266, x267, x268, x269, x270, x271, x272, x273, x274, x275, x276, x277, x278, x279, x280, x281, x282, x283, x284, x285, x286, x287, x288, x289, x290, x291, x292, x293, x294, x295, x296, x297, x298], defers := [] } w2)) :
    Code.wp Try.prog (part Try.f3 26) (Exit.inBlock 4 (Exit.then K1 Q1)) { tmps := #[x0, x1, x2, x3, u4, .pointer (some ⟨q, 0, none⟩), .int .i64 fr, .slice ia ls.length ic, .slice da ls.length dc, .int .i64 j, .pointer (some ⟨v, 0, none⟩), .int .i64 (i : Nat), u12, .int .i64 X, u14, u15, u16, u17, u18, u19, u20, u21, x22, x23, x24, x25, x26, x27, x28, x29, x30, x31, x32, x33, x34, x35, x36, u37, u38, u39, u40, u41, u42, u43, u44, u45, u46, u47, u48, u49, u50, u51, u52, u53, u54, u55, u56, u57, u58, u59, u60, u61, u62, u63, u64, u65, u66, u67, u68, u69, u70, u71, u72, u73, u74, u75, u76, u77, u78, u79, u80, u81, u82, u83, u84, u85, u86, u87, u88, u89, u90, u91, u92, u93, u94, u95, u96, u97, u98, u99, u100, u101, u102, u103, u104, u105, u106, u107, u108, u109, u110, u111, u112, u113, u114, u115, u116, u117, u118, u119, u120, u121, u122, u123, u124, u125, u126, u127, u128, u129, u130, u131, u132, u133, u134, u135, u136, u137, u138, u139, u140, u141, u142, u143, u144, u145, u146, u147, u148, u149, u150, u151, u152, u153, u154, u155, u156, u157, u158, u159, u160, u161, u162, u163, u164, u165, u166, u167, u168, u169, u170, u171, u172, u173, u174, u175, u176, u177, u178, u179, u180, u181, u182, u183, u184, u185, u186, u187, u188, u189, u190, u191, u192, u193, u194, u195, u196, u197, u198, u199, u200, u201, u202, u203, u204, u205, u206, u207, u208, u209, u210, u211, u212, u213, u214, u215, u216, u217, u218, u219, u220, u221, u222, u223, u224, u225, u226, u227, u228, u229, u230, u231, u232, u233, u234, u235, u236, u237, u238, u239, u240, u241, u242, u243, u244, u245, u246, u247, u248, u249, u250, u251, u252, u253, u254, u255, u256, u257, u258, u259, u260, u261, u262, x263, x264, x265, x266, x267, x268, x269, x270, x271, x272, x273, x274, x275, x276, x277, x278, x279, x280, x281, x282, x283, x284, x285, x286, x287, x288, x289, x290, x291, x292, x293, x294, x295, x296, x297, x298], defers := [] } w := by
  conv => arg 2; whnf
  have hmd := hx.md hsay
  obtain ⟨hll1, hll2⟩ := hmd.len
  have hlen50 : ls.length ≤ 50 := by have := hcj.out; omega
  obtain ⟨o0, o1, o2, o3, o4⟩ := var5 hx.var.1
  subst hN hM
  have he0 := List.mem_of_getElem? h2
  obtain ⟨hrw0, e64, hbyt⟩ := hmd.row he0
  obtain ⟨gi0, gio, gd, god, -, hda, -, cd⟩ := hmd.at h2
  subst hda
  have hil : i < ls.length := (List.getElem?_eq_some_iff.1 h2).1
  have hw := md_read hmd he0 off n hn
  rw [h3] at hw
  go_wp2_with fail
  refine hw.mono ?_
  rintro e w1 ⟨r, rfl, hrow1, _, hb1⟩
  dsimp only
  obtain ⟨p0, p1, p2, p3, p4⟩ := var5 ((hx.below hb1).var.1)
  have hm1 := hmd.below hb1
  have cd1 := (hb1.cell (lt_of_cell cd)).trans cd
  have hrw1 := hrw0.of_block (hb1.block _ (row_lt hrw0))
  clear hmd hx o0 o1 o2 o3 o4 hw cd hrw0
  go_wp2_with fail
  refine (within_ok hm1 h2 off n hn).mono ?_
  rintro e w2 ⟨rfl, rfl⟩
  dsimp only
  obtain ⟨u, hu1⟩ : ∃ u, u = off + n := ⟨_, rfl⟩
  have eu : (off : Int) + (n : Int) = (u : Int) := by omega
  have ewu : IntKind.i64.wrap (u : Int) = (u : Int) := by rw [IntKind.wrap_i64]; omega
  have hu2 : u - off = n := by omega
  have hu3 : off ≤ u := by omega
  have hu4 : u ≤ e0.n := by omega
  have hilI : (i : Int) < (ls.length : Int) := by omega
  obtain ⟨LB, hLB⟩ : ∃ LB, LB = (List.range n).map (fun j => e0.d (off + j)) := ⟨_, rfl⟩
  have hq1 := row_of_bytes hrow1 (by omega) (fun j hj => hbyt _ (by omega))
  have hqa := row_of_bytes hrw1 (by omega) hbyt
  rw [← hLB] at hq1
  have s1 : ∀ m, (convert 29 9 (.slice (some ⟨r, 0, none⟩) n n)).run Try.prog (w2.drewN m) = .ok (.string (strOfNums LB)) (w2.drewN m) := fun m => strB.out _ _ _ _ _ (hq1.below (below_drewN (Below.refl _ _) m))
  have hsub := hqa.sub off n (by omega)
  have hLB2 : (((List.range e0.n).map e0.d).drop off).take n = LB := by
    rw [hLB]
    apply List.ext_getElem?
    intro t
    by_cases ht : t < n
    · simp [ht, show off + t < e0.n by omega]
    · rw [List.getElem?_eq_none (by simp; omega), List.getElem?_eq_none (by simp; omega)]
  rw [hLB2, Nat.zero_add] at hsub
  clear hu1 hLB hLB2 hrow1 hrw1 hqa hq1 hbyt
  by_cases hend : e0.n = off
  · have hn0 : n = 0 := by omega
    have s2 : ∀ m, (convert 29 9 (.slice (some ⟨e0.db, 0, none⟩) n 0)).run Try.prog (w2.drewN m) = .ok (.string (strOfNums LB)) (w2.drewN m) := fun m => by
      have hL0 := hsub.len
      rw [hn0] at hL0
      have hL1 := List.eq_nil_of_length_eq_zero hL0
      subst hn0
      rw [hL1]
      exact strB.out _ _ _ _ _ (Row.none_of _ _ _ (by omega))
    clear hn0 hsub
    go_upto_region 24 with fail
    go_quiet (fail)
    have hm2 := hm1.below (below_drewN (Below.refl _ _) nq)
    go_wp2_with fail
    exact hnext.out _ _ _ _ _ _ _ _ ⟨by have := hcj.out; omega, by have := hcj.out; omega⟩ hm2 _ _ _ _ _ _ _ _ _ _ _ _ _ _ _ _ _ _ _ _ _ _ _ _ _ _ _ _ _ _ _ _ _ _ _ _ _ _ _ _ _ _ _ _ _ _ _ _ _ _ _ _ _ _ _ _ _ _ _ _ _ _ _ _ _ _ _ _ _ _ _ _ _ _ _ _ _ _ _ _ _ _ _ _ _ _ _ _ _ _ _ _ _ _ _ _ _ _ _ _ _ _ _ _ _ _ _ _ _ _ _ _ _ _ _ _ _ _ _ _ _ _ _ _ _ _ _ _ _ _ _ _ _ _ _ _ _ _ _ _ _ _ _ _ _ _ _ _ _ _ _ _ _ _ _ _ _ _ _ _ _ _ _ _ _ _ _ _ _ _ _ _ _ _ _ _ _ _ _ _ _ _ _ _ _ _ _ _ _ _ _ _ _ _ _ _ _ _ _ _ _ _ _ _ _ _ _ _ _ _ _ _ _ _ _ _ _ _ _ _ _ _ _ _ _ _ _ _ _ _ _ _ _ _ _ _ _ _ _
  · have s2 : ∀ m, (convert 29 9 (.slice (some ⟨e0.db, off, none⟩) n (e0.n - off))).run Try.prog (w2.drewN m) = .ok (.string (strOfNums LB)) (w2.drewN m) := fun m => strB.out _ _ _ _ _ (hsub.below (below_drewN (Below.refl _ _) m))
    clear hsub
    go_upto_region 24 with fail
    go_quiet (fail)
    have hm2 := hm1.below (below_drewN (Below.refl _ _) nq)
    go_wp2_with fail
    exact hnext.out _ _ _ _ _ _ _ _ ⟨by have := hcj.out; omega, by have := hcj.out; omega⟩ hm2 _ _ _ _ _ _ _ _ _ _ _ _ _ _ _ _ _ _ _ _ _ _ _ _ _ _ _ _ _ _ _ _ _ _ _ _ _ _ _ _ _ _ _ _ _ _ _ _ _ _ _ _ _ _ _ _ _ _ _ _ _ _ _ _ _ _ _ _ _ _ _ _ _ _ _ _ _ _ _ _ _ _ _ _ _ _ _ _ _ _ _ _ _ _ _ _ _ _ _ _ _ _ _ _ _ _ _ _ _ _ _ _ _ _ _ _ _ _ _ _ _ _ _ _ _ _ _ _ _ _ _ _ _ _ _ _ _ _ _ _ _ _ _ _ _ _ _ _ _ _ _ _ _ _ _ _ _ _ _ _ _ _ _ _ _ _ _ _ _ _ _ _ _ _ _ _ _ _ _ _ _ _ _ _ _ _ _ _ _ _ _ _ _ _ _ _ _ _ _ _ _ _ _ _ _ _ _ _ _ _ _ _ _ _ _ _ _ _ _ _ _ _ _ _ _ _ _ _ _ _ _ _ _ _ _ _ _ _ _

end Go.Proofs.Ytdmdamidknbjoaa
