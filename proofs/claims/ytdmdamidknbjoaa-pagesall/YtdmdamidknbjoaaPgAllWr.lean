/- A round of the law, way by way: Write that is fine. -/
import Derived.Test.YtdmdamidknbjoaaPgCopy
namespace Go.Proofs.Ytdmdamidknbjoaa
open Go.RowKit
set_option maxRecDepth 100000
set_option linter.unusedVariables false

set_option maxHeartbeats 4000000 in
set_option maxRecDepth 100000 in
theorem leaf_write_ok {K1 : Act → World → Prop} {Q1 : Exit → Act → World → Prop} {W w : World} {S : Nat → Prop} {q k c fr j v : Nat} {T : Txt} {ls : List Nm} {ia da : Option Addr} {ic dc : Nat} {K' F' O' X : Int} {B' : Ob} {x0 x1 x2 x3 x22 x23 x24 x25 x26 x27 x28 x29 x30 x31 x32 x33 x34 x35 x36 x263 x264 x265 x266 x267 x268 x269 x270 x271 x272 x273 x274 x275 x276 x277 x278 x279 x280 x281 x282 x283 x284 x285 x286 x287 x288 x289 x290 x291 x292 x293 x294 x295 x296 x297 x298 u4 u12 u14 u15 u16 u17 u18 u19 u20 u21 u37 u38 u39 u40 u41 u42 u43 u44 u45 u46 u47 u48 u49 u50 u51 u52 u53 u54 u55 u56 u57 u58 u59 u60 u61 u62 u63 u64 u65 u66 u67 u68 u69 u70 u71 u72 u73 u74 u75 u76 u77 u78 u79 u80 u81 u82 u83 u84 u85 u86 u87 u88 u89 u90 u91 u92 u93 u94 u95 u96 u97 u98 u99 u100 u101 u102 u103 u104 u105 u106 u107 u108 u109 u110 u111 u112 u113 u114 u115 u116 u117 u118 u119 u120 u121 u122 u123 u124 u125 u126 u127 u128 u129 u130 u131 u132 u133 u134 u135 u136 u137 u138 u139 u140 u141 u142 u143 u144 u145 u146 u147 u148 u149 u150 u151 u152 u153 u154 u155 u156 u157 u158 u159 u160 u161 u162 u163 u164 u165 u166 u167 u168 u169 u170 u171 u172 u173 u174 u175 u176 u177 u178 u179 u180 u181 u182 u183 u184 u185 u186 u187 u188 u189 u190 u191 u192 u193 u194 u195 u196 u197 u198 u199 u200 u201 u202 u203 u204 u205 u206 u207 u208 u209 u210 u211 u212 u213 u214 u215 u216 u217 u218 u219 u220 u221 u222 u223 u224 u225 u226 u227 u228 u229 u230 u231 u232 u233 u234 u235 u236 u237 u238 u239 u240 u241 u242 u243 u244 u245 u246 u247 u248 u249 u250 u251 u252 u253 u254 u255 u256 u257 u258 u259 u260 u261 u262 : Value} {i off : Nat} {e0 : Nm}
    (hfr : fr ≤ 512) (hj : j < 50) (hcj : Hid (c ≤ j ∧ ls.length ≤ j)) (hx : Mdx W w S q k c fr T (ls.map Nm.id) (ls.map fun e => (e.db, e.n)) ls ia da ic dc ls.length ls.length v #[.int .i64 K', .int .i64 F', .int .i64 O', .int .u64 B'.id, .slice B'.a B'.n B'.c]) (hsay : Says T ls) (hu : U B'.id) (hO : -9223372036854775808 ≤ O' ∧ O' < 9223372036854775808) (hF : -9223372036854775808 ≤ F' ∧ F' < 9223372036854775808) (hrow : Row W B'.a B'.n B'.c B'.xs) (hBn : B'.n ≤ 100) (hX1 : decide (X < 2) = false) (hX2 : (X == 2) = false) (hX3 : X < 7) (h2 : ls[i]? = some e0) (h3 : e0.id = B'.id) (hN : F' = (off : Int)) (hn : off + B'.n ≤ e0.n)
    (hnext : Hid (∀ (f2 c2 : Nat) (l2 : List Nm) (i2 d2 : Option Addr) (ic2 dc2 : Nat) (w2 : World), Hid (c2 ≤ j + 1 ∧ l2.length ≤ j + 1) → Md W w2 q k c2 f2 l2 i2 d2 ic2 dc2 → ∀ (u4 u10 u11 u12 u13 u14 u15 u16 u17 u18 u19 u20 u21 u37 u38 u39 u40 u41 u42 u43 u44 u45 u46 u47 u48 u49 u50 u51 u52 u53 u54 u55 u56 u57 u58 u59 u60 u61 u62 u63 u64 u65 u66 u67 u68 u69 u70 u71 u72 u73 u74 u75 u76 u77 u78 u79 u80 u81 u82 u83 u84 u85 u86 u87 u88 u89 u90 u91 u92 u93 u94 u95 u96 u97 u98 u99 u100 u101 u102 u103 u104 u105 u106 u107 u108 u109 u110 u111 u112 u113 u114 u115 u116 u117 u118 u119 u120 u121 u122 u123 u124 u125 u126 u127 u128 u129 u130 u131 u132 u133 u134 u135 u136 u137 u138 u139 u140 u141 u142 u143 u144 u145 u146 u147 u148 u149 u150 u151 u152 u153 u154 u155 u156 u157 u158 u159 u160 u161 u162 u163 u164 u165 u166 u167 u168 u169 u170 u171 u172 u173 u174 u175 u176 u177 u178 u179 u180 u181 u182 u183 u184 u185 u186 u187 u188 u189 u190 u191 u192 u193 u194 u195 u196 u197 u198 u199 u200 u201 u202 u203 u204 u205 u206 u207 u208 u209 u210 u211 u212 u213 u214 u215 u216 u217 u218 u219 u220 u221 u222 u223 u224 u225 u226 u227 u228 u229 u230 u231 u232 u233 u234 u235 u236 u237 u238 u239 u240 u241 u242 u243 u244 u245 u246 u247 u248 u249 u250 u251 u252 u253 u254 u255 u256 u257 u258 u259 u260 u261 u262 : Value), K1 { tmps := #[x0, x1, x2, x3, u4, .pointer (some ⟨q, 0, none⟩), .int .i64 f2, .slice i2 l2.length ic2, .slice d2 l2.length dc2, .int .i64 j, u10, u11, u12, u13, u14, u15, u16, u17, u18, u19, u20, u21, x22, x23, x24, x25, x26, x27, x28, x29, x30, x31, x32, x33, x34, x35, x36, u37, u38, u39, u40, u41, u42, u43, u44, u45, u46, u47, u48, u49, u50, u51, u52, u53, u54, u55, u56, u57, u58, u59, u60, u61, u62, u63, u64, u65, u66, u67, u68, u69, u70, u71, u72, u73, u74, u75, u76, u77, u78, u79, u80, u81, u82, u83, u84, u85, u86, u87, u88, u89, u90, u91, u92, u93, u94, u95, u96, u97, u98, u99, u100, u101, u102, u103, u104, u105, u106, u107, u108, u109, u110, u111, u112, u113, u114, u115, u116, u117, u118, u119, u120, u121, u122, u123, u124, u125, u126, u127, u128, u129, u130, u131, u132, u133, u134, u135, u136, u137, u138, u139, u140, u141, u142, u143, u144, u145, u146, u147, u148, u149, u150, u151, u152, u153, u154, u155, u156, u157, u158, u159, u160, u161, u162, u163, u164, u165, u166, u167, u168, u169, u170, u171, u172, u173, u174, u175, u176, u177, u178, u179, u180, u181, u182, u183, u184, u185, u186, u187, u188, u189, u190, u191, u192, u193, u194, u195, u196, u197, u198, u199, u200, u201, u202, u203, u204, u205, u206, u207, u208, u209, u210, u211, u212, u213, u214, u215, u216, u217, u218, u219, u220, u221, u222, u223, u224, u225, u226, u227, u228, u229, u230, u231, u232, u233, u234, u235, u236, u237, u238, u239, u240, u241, u242, u243, u244, u245, u246, u247, u248, u249, u250, u251, u252, u253, u254, u255, u256, u257, u258, u259, u260, u261, u262, x263, x264, x265, x266, x267, x268, x269, x270, x271, x272, x273, x274, x275, x276, x277, x278, x279, x280, x281, x282, x283, x284, x285, x286, x287, x288, x289, x290, x291, x292, x293, x294, x295, x296, x297, x298], defers := [] } w2)) :
    Code.wp Try.prog (part Try.f3 26) (Exit.inBlock 4 (Exit.then K1 Q1)) { tmps := #[x0, x1, x2, x3, u4, .pointer (some ⟨q, 0, none⟩), .int .i64 fr, .slice ia ls.length ic, .slice da ls.length dc, .int .i64 j, .pointer (some ⟨v, 0, none⟩), .int .i64 (i : Nat), u12, .int .i64 X, u14, u15, u16, u17, u18, u19, u20, u21, x22, x23, x24, x25, x26, x27, x28, x29, x30, x31, x32, x33, x34, x35, x36, u37, u38, u39, u40, u41, u42, u43, u44, u45, u46, u47, u48, u49, u50, u51, u52, u53, u54, u55, u56, u57, u58, u59, u60, u61, u62, u63, u64, u65, u66, u67, u68, u69, u70, u71, u72, u73, u74, u75, u76, u77, u78, u79, u80, u81, u82, u83, u84, u85, u86, u87, u88, u89, u90, u91, u92, u93, u94, u95, u96, u97, u98, u99, u100, u101, u102, u103, u104, u105, u106, u107, u108, u109, u110, u111, u112, u113, u114, u115, u116, u117, u118, u119, u120, u121, u122, u123, u124, u125, u126, u127, u128, u129, u130, u131, u132, u133, u134, u135, u136, u137, u138, u139, u140, u141, u142, u143, u144, u145, u146, u147, u148, u149, u150, u151, u152, u153, u154, u155, u156, u157, u158, u159, u160, u161, u162, u163, u164, u165, u166, u167, u168, u169, u170, u171, u172, u173, u174, u175, u176, u177, u178, u179, u180, u181, u182, u183, u184, u185, u186, u187, u188, u189, u190, u191, u192, u193, u194, u195, u196, u197, u198, u199, u200, u201, u202, u203, u204, u205, u206, u207, u208, u209, u210, u211, u212, u213, u214, u215, u216, u217, u218, u219, u220, u221, u222, u223, u224, u225, u226, u227, u228, u229, u230, u231, u232, u233, u234, u235, u236, u237, u238, u239, u240, u241, u242, u243, u244, u245, u246, u247, u248, u249, u250, u251, u252, u253, u254, u255, u256, u257, u258, u259, u260, u261, u262, x263, x264, x265, x266, x267, x268, x269, x270, x271, x272, x273, x274, x275, x276, x277, x278, x279, x280, x281, x282, x283, x284, x285, x286, x287, x288, x289, x290, x291, x292, x293, x294, x295, x296, x297, x298], defers := [] } w := by
  conv => arg 2; whnf
  have hmd := hx.md hsay
  obtain ⟨hll1, hll2⟩ := hmd.len
  have hlen50 : ls.length ≤ 50 := by have := hcj.out; omega
  obtain ⟨o0, o1, o2, o3, o4⟩ := var5 hx.var.1
  subst hN
  have he0 := List.mem_of_getElem? h2
  obtain ⟨f, hTf, hfd⟩ := hsay.has e0 he0
  obtain ⟨_, e64, hbyt⟩ := hmd.row he0
  have hil : i < ls.length := (List.getElem?_eq_some_iff.1 h2).1
  obtain ⟨gd, hgd⟩ : ∃ gd, da = some ⟨gd, 0, none⟩ := by
    rcases hx.dat.cases with ⟨_, h', _⟩ | ⟨g2, _, h', _⟩
    · omega
    · exact ⟨g2, h'⟩
  subst hgd
  have hrl := hrow.cap_le
  have hfW : ∀ j, j < e0.n → fW f off B'.xs B'.n j = fW e0.d off B'.xs B'.n j := fun j hj => by
    unfold fW
    by_cases hh : off ≤ j ∧ j < off + B'.n
    · rw [if_pos hh, if_pos hh]
    · rw [if_neg hh, if_neg hh]; exact hfd j hj
  have hbW : ∀ j, j < e0.n → 0 ≤ fW e0.d off B'.xs B'.n j ∧ fW e0.d off B'.xs B'.n j < 256 := fun j hj => by
    unfold fW
    by_cases hh : off ≤ j ∧ j < off + B'.n
    · rw [if_pos hh]
      have hl : j - off < B'.xs.length := by rw [hrow.len]; omega
      rw [show B'.xs.getD (j - off) 0 = B'.xs[j - off] by simp [List.getD, hl]]
      exact hrow.byt _ (List.getElem_mem hl)
    · rw [if_neg hh]; exact hbyt j hj
  have hwr := write_ok hx.spc e0.id (by rw [h3]; exact hu) e0.n f hTf B'.a B'.n B'.c B'.xs (hrow.below hx.bel) (fun y hy h0 hs => by
    obtain ⟨b9, o9, hb9, hc9⟩ := hrow.at h0
    rw [hb9] at hy
    obtain rfl := Option.some.inj hy
    have h8 : b9 < W.heap.size := lt_of_cell (hc9 0 h0)
    have h7 : W.heap.size ≤ b9 := hx.sS _ hs
    omega) off hn
  rw [h3] at hwr
  go_wp2_with fail
  refine hwr.mono ?_
  rintro e w1 ⟨rfl, hs1, hc1⟩
  dsimp only
  have hx1 := hx.step hs1 hc1 (fun x hx => .inl hx)
  rw [← h3] at hx1
  have cd1 : w1.cell? ⟨gd, i, none⟩ = some (.slice (some ⟨e0.db, 0, none⟩) e0.n e0.n) := by
    have := hx1.dat.row.cells i (e0.db, e0.n) (by simp [h2]) 0 (.slice (some ⟨e0.db, 0, none⟩) e0.n e0.n) rfl
    simpa [ED] using this
  have hgdb : ¬ gd = e0.db := fun hh => by
    obtain ⟨cur, hk⟩ := hx1.dat.spot rfl
    obtain ⟨cs, g1, _⟩ := (hx1.txs.row e0 he0).1
    exact cells_ne hk g1 (by decide) hh
  obtain ⟨p0, p1, p2, p3, p4⟩ := var5 hx1.var.1
  clear hmd hx hs1 hc1 o0 o1 o2 o3 o4 hwr hbyt hTf hfd
  go_wp2_with fail
  refine (within_cell cd1 hil hll2 e64 off B'.n hn).mono ?_
  rintro e w2 ⟨rfl, rfl⟩
  dsimp only
  have hilI : (i : Int) < (ls.length : Int) := by omega
  have hoff : off ≤ e0.n := by omega
  have h3' : Hid (e0.id = B'.id) := h3
  clear h3 p0 p1 p2 p3 p4
  go_upto_region 51 with fail
  by_cases hend : e0.n = off
  · refine wp_region_noPanic ?_
    refine wp_region_held_drew (S := fun W' => W'.heap[v]? = some (.cells #[.int .i64 K', .int .i64 off, .int .i64 O', .int .u64 e0.id, .slice B'.a B'.n B'.c] 31 (0, 0)) ∧ W'.cell? ⟨gd, i, none⟩ = some (.slice (some ⟨e0.db, 0, none⟩) e0.n e0.n)) (by kernel_rfl) ⟨hx1.var.1, cd1⟩ fun hS => ?_
    refine take_to (i := 0) (v := ?_) 247 rfl rfl (by kernel_rfl) (by kernel_rfl) (by kernel_rfl) (fun _ _ _ h => h) (Or.inl ⟨by rfl, ?_⟩) hS ?_
    rotate_left
    · intro W hW
      obtain ⟨⟨s0, s1, s2, s3, s4⟩, s5⟩ := (⟨var5 hW.1, hW.2⟩ : _ ∧ _)
      go_simp
      try with_reducible rfl
    simp only [List.setIfInBounds_toArray, List.set_cons_zero, List.set_cons_succ]
    refine take_to (i := 1) (v := ?_) 248 rfl rfl (by kernel_rfl) (by kernel_rfl) (by kernel_rfl) (fun _ _ _ h => h) (Or.inl ⟨by rfl, ?_⟩) hS ?_
    rotate_left
    · intro W hW
      obtain ⟨⟨s0, s1, s2, s3, s4⟩, s5⟩ := (⟨var5 hW.1, hW.2⟩ : _ ∧ _)
      go_simp
      try with_reducible rfl
    simp only [List.setIfInBounds_toArray, List.set_cons_zero, List.set_cons_succ]
    refine take_to (i := 2) (v := ?_) 249 rfl rfl (by kernel_rfl) (by kernel_rfl) (by kernel_rfl) (fun _ _ _ h => h) (Or.inl ⟨by rfl, ?_⟩) hS ?_
    rotate_left
    · intro W hW
      obtain ⟨⟨s0, s1, s2, s3, s4⟩, s5⟩ := (⟨var5 hW.1, hW.2⟩ : _ ∧ _)
      go_simp
      try with_reducible rfl
    simp only [List.setIfInBounds_toArray, List.set_cons_zero, List.set_cons_succ]
    refine take_to (i := 3) (v := ?_) 250 rfl rfl (by kernel_rfl) (by kernel_rfl) (by kernel_rfl) (fun _ _ _ h => h) (Or.inl ⟨by rfl, ?_⟩) hS ?_
    rotate_left
    · intro W hW
      obtain ⟨⟨s0, s1, s2, s3, s4⟩, s5⟩ := (⟨var5 hW.1, hW.2⟩ : _ ∧ _)
      go_simp
      try with_reducible rfl
    simp only [List.setIfInBounds_toArray, List.set_cons_zero, List.set_cons_succ]
    refine take_to (i := 4) (v := ?_) 251 rfl rfl (by kernel_rfl) (by kernel_rfl) (by kernel_rfl) (fun _ _ _ h => h) (Or.inl ⟨by rfl, ?_⟩) hS ?_
    rotate_left
    · intro W hW
      obtain ⟨⟨s0, s1, s2, s3, s4⟩, s5⟩ := (⟨var5 hW.1, hW.2⟩ : _ ∧ _)
      go_simp
      try with_reducible rfl
    simp only [List.setIfInBounds_toArray, List.set_cons_zero, List.set_cons_succ]
    refine take_to (i := 5) (v := ?_) 252 rfl rfl (by kernel_rfl) (by kernel_rfl) (by kernel_rfl) (fun _ _ _ h => h) (Or.inl ⟨by rfl, ?_⟩) hS ?_
    rotate_left
    · intro W hW
      obtain ⟨⟨s0, s1, s2, s3, s4⟩, s5⟩ := (⟨var5 hW.1, hW.2⟩ : _ ∧ _)
      go_simp
      try with_reducible rfl
    simp only [List.setIfInBounds_toArray, List.set_cons_zero, List.set_cons_succ]
    refine take_to (i := 6) (v := ?_) 253 rfl rfl (by kernel_rfl) (by kernel_rfl) (by kernel_rfl) (fun _ _ _ h => h) (Or.inl ⟨by rfl, ?_⟩) hS ?_
    rotate_left
    · intro W hW
      obtain ⟨⟨s0, s1, s2, s3, s4⟩, s5⟩ := (⟨var5 hW.1, hW.2⟩ : _ ∧ _)
      go_simp
      try with_reducible rfl
    simp only [List.setIfInBounds_toArray, List.set_cons_zero, List.set_cons_succ]
    refine take_to (i := 7) (v := ?_) 254 rfl rfl (by kernel_rfl) (by kernel_rfl) (by kernel_rfl) (fun _ _ _ h => h) (Or.inl ⟨by rfl, ?_⟩) hS ?_
    rotate_left
    · intro W hW
      obtain ⟨⟨s0, s1, s2, s3, s4⟩, s5⟩ := (⟨var5 hW.1, hW.2⟩ : _ ∧ _)
      go_simp
      try with_reducible rfl
    simp only [List.setIfInBounds_toArray, List.set_cons_zero, List.set_cons_succ]
    refine take_to (i := 8) (v := ?_) 255 rfl rfl (by kernel_rfl) (by kernel_rfl) (by kernel_rfl) (fun _ _ _ h => h) (Or.inl ⟨by rfl, ?_⟩) hS ?_
    rotate_left
    · intro W hW
      obtain ⟨⟨s0, s1, s2, s3, s4⟩, s5⟩ := (⟨var5 hW.1, hW.2⟩ : _ ∧ _)
      go_simp
      try with_reducible rfl
    simp only [List.setIfInBounds_toArray, List.set_cons_zero, List.set_cons_succ]
    have hx1 := hx1.below (ext_drew w2)
    replace cd1 : w2.drew.cell? ⟨gd, i, none⟩ = some (.slice (some ⟨e0.db, 0, none⟩) e0.n e0.n) := cd1
    generalize w2.drew = wA at *
    obtain ⟨x9, w9, hrun9, hr9, hc9⟩ := copy_bytes (hx1.txs.row e0 he0).1 (hrow.below hx1.bel) hn (some ⟨e0.db, 0, none⟩) 0 0 (.inr (by omega)) 3
    have hm9 := write_done hx1 hsay h2 hfW hbW hr9 hc9
    have hv9 : w9.heap[v]? = wA.heap[v]? := hc9.block _ (Array.getElem?_eq_some_iff.1 hx1.var.1).1 (fun hh => by obtain ⟨cs, g1, _⟩ := (hx1.txs.row e0 he0).1; exact cells_ne hx1.var.1 g1 (by decide) hh)
    have hd9 : w9.cell? ⟨gd, i, none⟩ = wA.cell? ⟨gd, i, none⟩ := by
      unfold World.cell?
      rw [hc9.block gd (lt_of_cell cd1) (fun hh => hgdb hh)]
    refine wpAnyH_ready (rs := [9]) (by kernel_rfl) (by simp) ?_
    refine AllReadyH.cons rfl (fun K hK => ?_) AllReadyH.nil
    go_simp
    refine hK.out _ _ ⟨hv9.trans hx1.var.1, hd9.trans cd1⟩ fun hS => ?_
    clear hK K
    refine wpAnyH_done (by kernel_rfl) ?_ _
    refine NoPanic.normal ?_
    clear hx1 hrun9 hr9 hc9 hv9 hd9 hS
    go_wp2_with fail
    have hN := hnext.out fr c _ _ _ _ _ _ ⟨by have := hcj.out; omega, by have := hcj.out; rw [List.length_set]; omega⟩ hm9
    rw [List.length_set] at hN
    exact hN _ _ _ _ _ _ _ _ _ _ _ _ _ _ _ _ _ _ _ _ _ _ _ _ _ _ _ _ _ _ _ _ _ _ _ _ _ _ _ _ _ _ _ _ _ _ _ _ _ _ _ _ _ _ _ _ _ _ _ _ _ _ _ _ _ _ _ _ _ _ _ _ _ _ _ _ _ _ _ _ _ _ _ _ _ _ _ _ _ _ _ _ _ _ _ _ _ _ _ _ _ _ _ _ _ _ _ _ _ _ _ _ _ _ _ _ _ _ _ _ _ _ _ _ _ _ _ _ _ _ _ _ _ _ _ _ _ _ _ _ _ _ _ _ _ _ _ _ _ _ _ _ _ _ _ _ _ _ _ _ _ _ _ _ _ _ _ _ _ _ _ _ _ _ _ _ _ _ _ _ _ _ _ _ _ _ _ _ _ _ _ _ _ _ _ _ _ _ _ _ _ _ _ _ _ _ _ _ _ _ _ _ _ _ _ _ _ _ _ _ _ _ _ _ _ _ _ _ _ _ _ _ _ _ _ _ _ _ _
  · refine wp_region_noPanic ?_
    refine wp_region_held_drew (S := fun W' => W'.heap[v]? = some (.cells #[.int .i64 K', .int .i64 off, .int .i64 O', .int .u64 e0.id, .slice B'.a B'.n B'.c] 31 (0, 0)) ∧ W'.cell? ⟨gd, i, none⟩ = some (.slice (some ⟨e0.db, 0, none⟩) e0.n e0.n)) (by kernel_rfl) ⟨hx1.var.1, cd1⟩ fun hS => ?_
    refine take_to (i := 0) (v := ?_) 247 rfl rfl (by kernel_rfl) (by kernel_rfl) (by kernel_rfl) (fun _ _ _ h => h) (Or.inl ⟨by rfl, ?_⟩) hS ?_
    rotate_left
    · intro W hW
      obtain ⟨⟨s0, s1, s2, s3, s4⟩, s5⟩ := (⟨var5 hW.1, hW.2⟩ : _ ∧ _)
      go_simp
      try with_reducible rfl
    simp only [List.setIfInBounds_toArray, List.set_cons_zero, List.set_cons_succ]
    refine take_to (i := 1) (v := ?_) 248 rfl rfl (by kernel_rfl) (by kernel_rfl) (by kernel_rfl) (fun _ _ _ h => h) (Or.inl ⟨by rfl, ?_⟩) hS ?_
    rotate_left
    · intro W hW
      obtain ⟨⟨s0, s1, s2, s3, s4⟩, s5⟩ := (⟨var5 hW.1, hW.2⟩ : _ ∧ _)
      go_simp
      try with_reducible rfl
    simp only [List.setIfInBounds_toArray, List.set_cons_zero, List.set_cons_succ]
    refine take_to (i := 2) (v := ?_) 249 rfl rfl (by kernel_rfl) (by kernel_rfl) (by kernel_rfl) (fun _ _ _ h => h) (Or.inl ⟨by rfl, ?_⟩) hS ?_
    rotate_left
    · intro W hW
      obtain ⟨⟨s0, s1, s2, s3, s4⟩, s5⟩ := (⟨var5 hW.1, hW.2⟩ : _ ∧ _)
      go_simp
      try with_reducible rfl
    simp only [List.setIfInBounds_toArray, List.set_cons_zero, List.set_cons_succ]
    refine take_to (i := 3) (v := ?_) 250 rfl rfl (by kernel_rfl) (by kernel_rfl) (by kernel_rfl) (fun _ _ _ h => h) (Or.inl ⟨by rfl, ?_⟩) hS ?_
    rotate_left
    · intro W hW
      obtain ⟨⟨s0, s1, s2, s3, s4⟩, s5⟩ := (⟨var5 hW.1, hW.2⟩ : _ ∧ _)
      go_simp
      try with_reducible rfl
    simp only [List.setIfInBounds_toArray, List.set_cons_zero, List.set_cons_succ]
    refine take_to (i := 4) (v := ?_) 251 rfl rfl (by kernel_rfl) (by kernel_rfl) (by kernel_rfl) (fun _ _ _ h => h) (Or.inl ⟨by rfl, ?_⟩) hS ?_
    rotate_left
    · intro W hW
      obtain ⟨⟨s0, s1, s2, s3, s4⟩, s5⟩ := (⟨var5 hW.1, hW.2⟩ : _ ∧ _)
      go_simp
      try with_reducible rfl
    simp only [List.setIfInBounds_toArray, List.set_cons_zero, List.set_cons_succ]
    refine take_to (i := 5) (v := ?_) 252 rfl rfl (by kernel_rfl) (by kernel_rfl) (by kernel_rfl) (fun _ _ _ h => h) (Or.inl ⟨by rfl, ?_⟩) hS ?_
    rotate_left
    · intro W hW
      obtain ⟨⟨s0, s1, s2, s3, s4⟩, s5⟩ := (⟨var5 hW.1, hW.2⟩ : _ ∧ _)
      go_simp
      try with_reducible rfl
    simp only [List.setIfInBounds_toArray, List.set_cons_zero, List.set_cons_succ]
    refine take_to (i := 6) (v := ?_) 253 rfl rfl (by kernel_rfl) (by kernel_rfl) (by kernel_rfl) (fun _ _ _ h => h) (Or.inl ⟨by rfl, ?_⟩) hS ?_
    rotate_left
    · intro W hW
      obtain ⟨⟨s0, s1, s2, s3, s4⟩, s5⟩ := (⟨var5 hW.1, hW.2⟩ : _ ∧ _)
      go_simp
      try with_reducible rfl
    simp only [List.setIfInBounds_toArray, List.set_cons_zero, List.set_cons_succ]
    refine take_to (i := 7) (v := ?_) 254 rfl rfl (by kernel_rfl) (by kernel_rfl) (by kernel_rfl) (fun _ _ _ h => h) (Or.inl ⟨by rfl, ?_⟩) hS ?_
    rotate_left
    · intro W hW
      obtain ⟨⟨s0, s1, s2, s3, s4⟩, s5⟩ := (⟨var5 hW.1, hW.2⟩ : _ ∧ _)
      go_simp
      try with_reducible rfl
    simp only [List.setIfInBounds_toArray, List.set_cons_zero, List.set_cons_succ]
    refine take_to (i := 8) (v := ?_) 255 rfl rfl (by kernel_rfl) (by kernel_rfl) (by kernel_rfl) (fun _ _ _ h => h) (Or.inl ⟨by rfl, ?_⟩) hS ?_
    rotate_left
    · intro W hW
      obtain ⟨⟨s0, s1, s2, s3, s4⟩, s5⟩ := (⟨var5 hW.1, hW.2⟩ : _ ∧ _)
      go_simp
      try with_reducible rfl
    simp only [List.setIfInBounds_toArray, List.set_cons_zero, List.set_cons_succ]
    have hx1 := hx1.below (ext_drew w2)
    replace cd1 : w2.drew.cell? ⟨gd, i, none⟩ = some (.slice (some ⟨e0.db, 0, none⟩) e0.n e0.n) := cd1
    generalize w2.drew = wA at *
    obtain ⟨x9, w9, hrun9, hr9, hc9⟩ := copy_bytes (hx1.txs.row e0 he0).1 (hrow.below hx1.bel) hn (some ⟨e0.db, off, none⟩) (e0.n - off) (e0.n - off) (.inl ⟨rfl, rfl⟩) 3
    have hm9 := write_done hx1 hsay h2 hfW hbW hr9 hc9
    have hv9 : w9.heap[v]? = wA.heap[v]? := hc9.block _ (Array.getElem?_eq_some_iff.1 hx1.var.1).1 (fun hh => by obtain ⟨cs, g1, _⟩ := (hx1.txs.row e0 he0).1; exact cells_ne hx1.var.1 g1 (by decide) hh)
    have hd9 : w9.cell? ⟨gd, i, none⟩ = wA.cell? ⟨gd, i, none⟩ := by
      unfold World.cell?
      rw [hc9.block gd (lt_of_cell cd1) (fun hh => hgdb hh)]
    refine wpAnyH_ready (rs := [9]) (by kernel_rfl) (by simp) ?_
    refine AllReadyH.cons rfl (fun K hK => ?_) AllReadyH.nil
    go_simp
    refine hK.out _ _ ⟨hv9.trans hx1.var.1, hd9.trans cd1⟩ fun hS => ?_
    clear hK K
    refine wpAnyH_done (by kernel_rfl) ?_ _
    refine NoPanic.normal ?_
    clear hx1 hrun9 hr9 hc9 hv9 hd9 hS
    go_wp2_with fail
    have hN := hnext.out fr c _ _ _ _ _ _ ⟨by have := hcj.out; omega, by have := hcj.out; rw [List.length_set]; omega⟩ hm9
    rw [List.length_set] at hN
    exact hN _ _ _ _ _ _ _ _ _ _ _ _ _ _ _ _ _ _ _ _ _ _ _ _ _ _ _ _ _ _ _ _ _ _ _ _ _ _ _ _ _ _ _ _ _ _ _ _ _ _ _ _ _ _ _ _ _ _ _ _ _ _ _ _ _ _ _ _ _ _ _ _ _ _ _ _ _ _ _ _ _ _ _ _ _ _ _ _ _ _ _ _ _ _ _ _ _ _ _ _ _ _ _ _ _ _ _ _ _ _ _ _ _ _ _ _ _ _ _ _ _ _ _ _ _ _ _ _ _ _ _ _ _ _ _ _ _ _ _ _ _ _ _ _ _ _ _ _ _ _ _ _ _ _ _ _ _ _ _ _ _ _ _ _ _ _ _ _ _ _ _ _ _ _ _ _ _ _ _ _ _ _ _ _ _ _ _ _ _ _ _ _ _ _ _ _ _ _ _ _ _ _ _ _ _ _ _ _ _ _ _ _ _ _ _ _ _ _ _ _ _ _ _ _ _ _ _ _ _ _ _ _ _ _ _ _ _ _ _

end Go.Proofs.Ytdmdamidknbjoaa
