/- A round of the law, way by way: Unmap that is fine. -/
import Derived.Test.YtdmdamidknbjoaaPgAllOk
namespace Go.Proofs.Ytdmdamidknbjoaa
open Go.RowKit
set_option maxRecDepth 100000
set_option linter.unusedVariables false

theorem unmap_done {W w : World} {S : Nat → Prop} {q k c fr v n1 n2 i : Nat} {T : Txt} {e0 : Nm} {ls : List Nm} {ia da : Option Addr} {ic dc : Nat} {vo : Array Value}
    (hx : Mdx W w S q k c fr (setI T e0.id none) (((ls.map Nm.id).take i) ++ ((ls.map Nm.id).drop (i + 1))) (((ls.map fun e => (e.db, e.n)).take i) ++ ((ls.map fun e => (e.db, e.n)).drop (i + 1))) ls ia da ic dc n1 n2 v vo) (hsay : Says T ls) (hi : ls[i]? = some e0) :
    Md W w q k c fr (ls.take i ++ ls.drop (i + 1)) ia da ic dc := by
  have hil := (List.getElem?_eq_some_iff.1 hi).1
  have hx2 : Mdx W w S q k c fr (setI T e0.id none) ((ls.take i ++ ls.drop (i + 1)).map Nm.id) ((ls.take i ++ ls.drop (i + 1)).map fun e => (e.db, e.n)) (ls.take i ++ ls.drop (i + 1)) ia da ic dc n1 n2 v vo := by
    obtain ⟨g1, g2, g3, g4, g5, g6, g7, g8, g9⟩ := hx
    exact ⟨g1, g2, g3, by simpa [List.map_take, List.map_drop] using g4, by simpa [List.map_take, List.map_drop] using g5, g6, g7, g8.cut hil, g9⟩
  exact hx2.md_of (hsay.cut hi)
theorem rowg_tail {α : Type} (E : Enc α) {w : World} {b n cap : Nat} {xs : List α} (h : RowG E w (some ⟨b, 0, none⟩) n cap xs) (k : Nat) (hk : k ≤ n) (h1 : E.k = 1 := by rfl) : RowG E w (some ⟨b, k, none⟩) (n - k) (cap - k) (xs.drop k) := by
  have := h.tail k hk
  rw [h1, Nat.mul_one, Nat.zero_add] at this
  exact this
theorem rowg_tail0 {α : Type} (E : Enc α) {w : World} {b n cap : Nat} {xs : List α} (h : RowG E w (some ⟨b, 0, none⟩) n cap xs) (k : Nat) (hk : k ≤ n) (hc : cap = k) : RowG E w (some ⟨b, 0, none⟩) (n - k) 0 (xs.drop k) := h.tail0 k hk hc
set_option maxHeartbeats 4000000 in
set_option maxRecDepth 100000 in
theorem leaf_unmap_ok {K1 : Act → World → Prop} {Q1 : Exit → Act → World → Prop} {W w : World} {S : Nat → Prop} {q k c fr j v : Nat} {T : Txt} {ls : List Nm} {ia da : Option Addr} {ic dc : Nat} {K' F' O' X : Int} {B' : Ob} {x0 x1 x2 x3 x22 x23 x24 x25 x26 x27 x28 x29 x30 x31 x32 x33 x34 x35 x36 x263 x264 x265 x266 x267 x268 x269 x270 x271 x272 x273 x274 x275 x276 x277 x278 x279 x280 x281 x282 x283 x284 x285 x286 x287 x288 x289 x290 x291 x292 x293 x294 x295 x296 x297 x298 u4 u12 u14 u15 u16 u17 u18 u19 u20 u21 u37 u38 u39 u40 u41 u42 u43 u44 u45 u46 u47 u48 u49 u50 u51 u52 u53 u54 u55 u56 u57 u58 u59 u60 u61 u62 u63 u64 u65 u66 u67 u68 u69 u70 u71 u72 u73 u74 u75 u76 u77 u78 u79 u80 u81 u82 u83 u84 u85 u86 u87 u88 u89 u90 u91 u92 u93 u94 u95 u96 u97 u98 u99 u100 u101 u102 u103 u104 u105 u106 u107 u108 u109 u110 u111 u112 u113 u114 u115 u116 u117 u118 u119 u120 u121 u122 u123 u124 u125 u126 u127 u128 u129 u130 u131 u132 u133 u134 u135 u136 u137 u138 u139 u140 u141 u142 u143 u144 u145 u146 u147 u148 u149 u150 u151 u152 u153 u154 u155 u156 u157 u158 u159 u160 u161 u162 u163 u164 u165 u166 u167 u168 u169 u170 u171 u172 u173 u174 u175 u176 u177 u178 u179 u180 u181 u182 u183 u184 u185 u186 u187 u188 u189 u190 u191 u192 u193 u194 u195 u196 u197 u198 u199 u200 u201 u202 u203 u204 u205 u206 u207 u208 u209 u210 u211 u212 u213 u214 u215 u216 u217 u218 u219 u220 u221 u222 u223 u224 u225 u226 u227 u228 u229 u230 u231 u232 u233 u234 u235 u236 u237 u238 u239 u240 u241 u242 u243 u244 u245 u246 u247 u248 u249 u250 u251 u252 u253 u254 u255 u256 u257 u258 u259 u260 u261 u262 : Value} {i : Nat} {e0 : Nm}
    (hfr : fr ≤ 512) (hj : j < 50) (hcj : Hid (c ≤ j ∧ ls.length ≤ j)) (hx : Mdx W w S q k c fr T (ls.map Nm.id) (ls.map fun e => (e.db, e.n)) ls ia da ic dc ls.length ls.length v #[.int .i64 K', .int .i64 F', .int .i64 O', .int .u64 B'.id, .slice B'.a B'.n B'.c]) (hsay : Says T ls) (hu : U B'.id) (hO : -9223372036854775808 ≤ O' ∧ O' < 9223372036854775808) (hF : -9223372036854775808 ≤ F' ∧ F' < 9223372036854775808) (hrow : Row W B'.a B'.n B'.c B'.xs) (hBn : B'.n ≤ 100) (hX : X = 2) (h2 : ls[i]? = some e0) (h3 : e0.id = B'.id)
    (hnext : Hid (∀ (f2 c2 : Nat) (l2 : List Nm) (i2 d2 : Option Addr) (ic2 dc2 : Nat) (w2 : World), Hid (c2 ≤ j + 1 ∧ l2.length ≤ j + 1) → Md W w2 q k c2 f2 l2 i2 d2 ic2 dc2 → ∀ (u4 u10 u11 u12 u13 u14 u15 u16 u17 u18 u19 u20 u21 u37 u38 u39 u40 u41 u42 u43 u44 u45 u46 u47 u48 u49 u50 u51 u52 u53 u54 u55 u56 u57 u58 u59 u60 u61 u62 u63 u64 u65 u66 u67 u68 u69 u70 u71 u72 u73 u74 u75 u76 u77 u78 u79 u80 u81 u82 u83 u84 u85 u86 u87 u88 u89 u90 u91 u92 u93 u94 u95 u96 u97 u98 u99 u100 u101 u102 u103 u104 u105 u106 u107 u108 u109 u110 u111 u112 u113 u114 u115 u116 u117 u118 u119 u120 u121 u122 u123 u124 u125 u126 u127 u128 u129 u130 u131 u132 u133 u134 u135 u136 u137 u138 u139 u140 u141 u142 u143 u144 u145 u146 u147 u148 u149 u150 u151 u152 u153 u154 u155 u156 u157 u158 u159 u160 u161 u162 u163 u164 u165 u166 u167 u168 u169 u170 u171 u172 u173 u174 u175 u176 u177 u178 u179 u180 u181 u182 u183 u184 u185 u186 u187 u188 u189 u190 u191 u192 u193 u194 u195 u196 u197 u198 u199 u200 u201 u202 u203 u204 u205 u206 u207 u208 u209 u210 u211 u212 u213 u214 u215 u216 u217 u218 u219 u220 u221 u222 u223 u224 u225 u226 u227 u228 u229 u230 u231 u232 u233 u234 u235 u236 u237 u238 u239 u240 u241 u242 u243 u244 u245 u246 u247 u248 u249 u250 u251 u252 u253 u254 u255 u256 u257 u258 u259 u260 u261 u262 : Value), K1 { tmps := #[x0, x1, x2, x3, u4, .pointer (some ⟨q, 0, none⟩), .int .i64 f2, .slice i2 l2.length ic2, .slice d2 l2.length dc2, .int .i64 j, u10, u11, u12, u13, u14, u15, u16, u17, u18, u19, u20, u21, x22, x23, x24, x25, x26, x27, x28, x29, x30, x31, x32, x33, x34, x35, x36, u37, u38, u39, u40, u41, u42, u43, u44, u45, u46, u47, u48, u49, u50, u51, u52, u53, u54, u55, u56, u57, u58, u59, u60, u61, u62, u63, u64, u65, u66, u67, u68, u69, u70, u71, u72, u73, u74, u75, u76, u77, u78, u79, u80, u81, u82, u83, u84, u85, u86, u87, u88, u89, u90, u91, u92, u93, u94, u95, u96, u97, u98, u99, u100, u101, u102, u103, u104, u105, u106, u107, u108, u109, u110, u111, u112, u113, u114, u115, u116, u117, u118, u119, u120, u121, u122, u123, u124, u125, u126, u127, u128, u129, u130, u131, u132, u133, u134, u135, u136, u137, u138, u139, u140, u141, u142, u143, u144, u145, u146, u147, u148, u149, u150, u151, u152, u153, u154, u155, u156, u157, u158, u159, u160, u161, u162, u163, u164, u165, u166, u167, u168, u169, u170, u171, u172, u173, u174, u175, u176, u177, u178, u179, u180, u181, u182, u183, u184, u185, u186, u187, u188, u189, u190, u191, u192, u193, u194, u195, u196, u197, u198, u199, u200, u201, u202, u203, u204, u205, u206, u207, u208, u209, u210, u211, u212, u213, u214, u215, u216, u217, u218, u219, u220, u221, u222, u223, u224, u225, u226, u227, u228, u229, u230, u231, u232, u233, u234, u235, u236, u237, u238, u239, u240, u241, u242, u243, u244, u245, u246, u247, u248, u249, u250, u251, u252, u253, u254, u255, u256, u257, u258, u259, u260, u261, u262, x263, x264, x265, x266, x267, x268, x269, x270, x271, x272, x273, x274, x275, x276, x277, x278, x279, x280, x281, x282, x283, x284, x285, x286, x287, x288, x289, x290, x291, x292, x293, x294, x295, x296, x297, x298], defers := [] } w2)) :
    Code.wp Try.prog (part Try.f3 26) (Exit.inBlock 4 (Exit.then K1 Q1)) { tmps := #[x0, x1, x2, x3, u4, .pointer (some ⟨q, 0, none⟩), .int .i64 fr, .slice ia ls.length ic, .slice da ls.length dc, .int .i64 j, .pointer (some ⟨v, 0, none⟩), .int .i64 (i : Nat), u12, .int .i64 X, u14, u15, u16, u17, u18, u19, u20, u21, x22, x23, x24, x25, x26, x27, x28, x29, x30, x31, x32, x33, x34, x35, x36, u37, u38, u39, u40, u41, u42, u43, u44, u45, u46, u47, u48, u49, u50, u51, u52, u53, u54, u55, u56, u57, u58, u59, u60, u61, u62, u63, u64, u65, u66, u67, u68, u69, u70, u71, u72, u73, u74, u75, u76, u77, u78, u79, u80, u81, u82, u83, u84, u85, u86, u87, u88, u89, u90, u91, u92, u93, u94, u95, u96, u97, u98, u99, u100, u101, u102, u103, u104, u105, u106, u107, u108, u109, u110, u111, u112, u113, u114, u115, u116, u117, u118, u119, u120, u121, u122, u123, u124, u125, u126, u127, u128, u129, u130, u131, u132, u133, u134, u135, u136, u137, u138, u139, u140, u141, u142, u143, u144, u145, u146, u147, u148, u149, u150, u151, u152, u153, u154, u155, u156, u157, u158, u159, u160, u161, u162, u163, u164, u165, u166, u167, u168, u169, u170, u171, u172, u173, u174, u175, u176, u177, u178, u179, u180, u181, u182, u183, u184, u185, u186, u187, u188, u189, u190, u191, u192, u193, u194, u195, u196, u197, u198, u199, u200, u201, u202, u203, u204, u205, u206, u207, u208, u209, u210, u211, u212, u213, u214, u215, u216, u217, u218, u219, u220, u221, u222, u223, u224, u225, u226, u227, u228, u229, u230, u231, u232, u233, u234, u235, u236, u237, u238, u239, u240, u241, u242, u243, u244, u245, u246, u247, u248, u249, u250, u251, u252, u253, u254, u255, u256, u257, u258, u259, u260, u261, u262, x263, x264, x265, x266, x267, x268, x269, x270, x271, x272, x273, x274, x275, x276, x277, x278, x279, x280, x281, x282, x283, x284, x285, x286, x287, x288, x289, x290, x291, x292, x293, x294, x295, x296, x297, x298], defers := [] } w := by
  conv => arg 2; whnf
  have hmd := hx.md hsay
  obtain ⟨hll1, hll2⟩ := hmd.len
  have hlen50 : ls.length ≤ 50 := by have := hcj.out; omega
  obtain ⟨o0, o1, o2, o3, o4⟩ := var5 hx.var.1
  subst hX
  obtain ⟨f, hTf, hfd⟩ := hsay.has e0 (List.mem_of_getElem? h2)
  have hil : i < ls.length := (List.getElem?_eq_some_iff.1 h2).1
  obtain ⟨gi, gd, hgi, hgd⟩ : ∃ gi gd, ia = some ⟨gi, 0, none⟩ ∧ da = some ⟨gd, 0, none⟩ := by
    rcases hx.ids.cases with ⟨_, h, _⟩ | ⟨g1, _, h, _⟩
    · omega
    · rcases hx.dat.cases with ⟨_, h', _⟩ | ⟨g2, _, h', _⟩
      · omega
      · exact ⟨g1, g2, h, h'⟩
  subst hgi hgd
  obtain ⟨i1, hi1⟩ : ∃ i1, i1 = i + 1 := ⟨_, rfl⟩
  have ei : (i : Int) + 1 = (i1 : Int) := by omega
  have ewi : IntKind.i64.wrap (i1 : Int) = (i1 : Int) := by rw [IntKind.wrap_i64]; omega
  have hi1L : i1 ≤ ls.length := by omega
  have hi1c : i1 ≤ ic := by omega
  have hi1d : i1 ≤ dc := by omega
  have hii1 : i ≤ i1 := by omega
  have hiic : i ≤ ic := by omega
  have hidc : i ≤ dc := by omega
  have e64 := (hmd.row (List.mem_of_getElem? h2)).2.1
  obtain ⟨P, hP0⟩ : ∃ P, pg e0.n = P := ⟨_, rfl⟩
  have hP3 : P ≤ 4 := by rw [← hP0]; exact pg_64 e64
  have hP : ((e0.n : Int) + 16 - 1) / 16 = (P : Int) := by rw [← hP0]; unfold pg; omega
  obtain ⟨f2, hf2⟩ : ∃ f2, fr + P = f2 := ⟨_, rfl⟩
  have ef : (fr : Int) + (P : Int) = (f2 : Int) := by omega
  have y0 : decide (0 ≤ (i : Int)) = true := by simp
  have y1 : decide ((i : Int) < 0) = false := by simp
  have HLN : Hid ((ls.take i ++ ls.drop (i + 1)).length = i + (ls.length - i1)) := by show _ = _; simp; omega
  have hum := unmap_ok hx.spc e0.id (by rw [h3]; exact hu) e0.n f hTf
  rw [h3] at hum
  have h3' : Hid (e0.id = B'.id) := h3
  have hi1' : Hid (i1 = i + 1) := hi1
  go_wp2_with fail
  refine hum.mono ?_
  rintro e w1 ⟨rfl, hs1, hc1⟩
  dsimp only
  have hx1 := hx.step hs1 hc1 (fun x hx => .inl hx)
  rw [hP0, hf2, ← h3] at hx1
  have cd : w1.cell? ⟨gd, i, none⟩ = some (.slice (some ⟨e0.db, 0, none⟩) e0.n e0.n) := by
    have := hx1.dat.row.cells i (e0.db, e0.n) (by simp [h2]) 0 (.slice (some ⟨e0.db, 0, none⟩) e0.n e0.n) rfl
    simpa [ED] using this
  clear hmd hx hs1 hc1 o0 o1 o2 o3 o4 hum hfd hTf h3 hi1
  go_upto_region 43 with fail
  by_cases hA : ic = i1
  · obtain rfl : i1 = ic := hA.symm
    have hz : ls.length - i1 = 0 := by omega
    refine wp_region_noPanic ?_
    refine wp_region_held_drew (S := fun _ => True) (by kernel_rfl) trivial fun hS => ?_
    refine take_to (i := 1) (v := ?_) 204 rfl rfl (by kernel_rfl) (by kernel_rfl) (by kernel_rfl) (fun _ _ _ h => h) (Or.inl ⟨by rfl, ?_⟩) hS ?_
    rotate_left
    · intro W hW
      go_simp
      try with_reducible rfl
    simp only [List.setIfInBounds_toArray, List.set_cons_zero, List.set_cons_succ]
    refine take_to (i := 2) (v := ?_) 205 rfl rfl (by kernel_rfl) (by kernel_rfl) (by kernel_rfl) (fun _ _ _ h => h) (Or.inl ⟨by rfl, ?_⟩) hS ?_
    rotate_left
    · intro W hW
      go_simp
      try with_reducible rfl
    simp only [List.setIfInBounds_toArray, List.set_cons_zero, List.set_cons_succ]
    refine take_to (i := 3) (v := ?_) 206 rfl rfl (by kernel_rfl) (by kernel_rfl) (by kernel_rfl) (fun _ _ _ h => h) (Or.inl ⟨by rfl, ?_⟩) hS ?_
    rotate_left
    · intro W hW
      go_simp
      try with_reducible rfl
    simp only [List.setIfInBounds_toArray, List.set_cons_zero, List.set_cons_succ]
    refine take_to (i := 5) (v := ?_) 208 rfl rfl (by kernel_rfl) (by kernel_rfl) (by kernel_rfl) (fun _ _ _ h => h) (Or.inl ⟨by rfl, ?_⟩) hS ?_
    rotate_left
    · intro W hW
      go_simp
      try with_reducible rfl
    simp only [List.setIfInBounds_toArray, List.set_cons_zero, List.set_cons_succ]
    refine take_to (i := 6) (v := ?_) 209 rfl rfl (by kernel_rfl) (by kernel_rfl) (by kernel_rfl) (fun _ _ _ h => h) (Or.inl ⟨by rfl, ?_⟩) hS ?_
    rotate_left
    · intro W hW
      go_simp
      try with_reducible rfl
    simp only [List.setIfInBounds_toArray, List.set_cons_zero, List.set_cons_succ]
    refine take_to (i := 7) (v := ?_) 210 rfl rfl (by kernel_rfl) (by kernel_rfl) (by kernel_rfl) (fun _ _ _ h => h) (Or.inl ⟨by rfl, ?_⟩) hS ?_
    rotate_left
    · intro W hW
      go_simp
      try with_reducible rfl
    simp only [List.setIfInBounds_toArray, List.set_cons_zero, List.set_cons_succ]
    refine take_to (i := 8) (v := ?_) 211 rfl rfl (by kernel_rfl) (by kernel_rfl) (by kernel_rfl) (fun _ _ _ h => h) (Or.inl ⟨by rfl, ?_⟩) hS ?_
    rotate_left
    · intro W hW
      go_simp
      try with_reducible rfl
    simp only [List.setIfInBounds_toArray, List.set_cons_zero, List.set_cons_succ]
    replace hx1 := hx1.below (ext_drew w1)
    generalize w1.drew = wLA at *
    refine wpAnyH_ready (rs := [0]) (by kernel_rfl) (by simp) ?_
    refine AllReadyH.cons rfl (fun K hK => ?_) AllReadyH.nil
    go_simp
    have hlit := owng_lit EU wLA 28 [] #[] rfl 0 rfl (by omega) Enc.Ok.nil wLA.heap.size wLA.heap.size rfl (Nat.le_refl _)
    have hbl := below_alloc wLA (.cells #[] 28)
    refine hK.out _ _ trivial fun hS => ?_
    clear hK K
    refine wpAnyH_ready (rs := [4]) (by kernel_rfl) (by simp) ?_
    refine AllReadyH.cons rfl (fun K hK => ?_) AllReadyH.nil
    refine Eq.mpr (if_pos (by kernel_rfl)) ?_
    refine op_append_g _ (.tmp 203) (.tmp 206) 26 rfl 28 Try.underlying26 _ _ infoU rfl (by decide) wLA.heap.size 0 0 _ [] rfl hlit (some ⟨gi, 0, none⟩) i i1 ((ls.map Nm.id).take i) rfl ((hx1.ids.row.below hbl).pre i (by omega)) (by omega) hbl.size wLA hbl ?_
    intro s4 c4 wLB ho4 hb4 _
    refine hK.out _ _ trivial fun hS => ?_
    clear hK K hlit hbl
    refine wpAnyH_ready (rs := [9]) (by kernel_rfl) (by simp) ?_
    refine AllReadyH.cons rfl (fun K hK => ?_) AllReadyH.nil
    refine Eq.mpr (if_pos (by kernel_rfl)) ?_
    refine op_append_g _ (.tmp 207) (.tmp 211) 26 rfl 28 Try.underlying26 _ _ infoU rfl (by decide) wLA.heap.size _ c4 s4 _ rfl ho4 (some ⟨gi, 0, none⟩) 0 0 ((ls.map Nm.id).drop i1) rfl (by have h9 := (rowg_tail0 _ (hx1.ids.row.below hb4) i1 (by omega) (by omega)); rw [hz] at h9; exact h9) (by omega) hb4.size wLA hb4 ?_
    intro s9 c9 wLC ho9 hb9 _
    refine hK.out _ _ trivial fun hS => ?_
    clear hK K
    refine wpAnyH_ready (rs := [10]) (by kernel_rfl) (by simp) ?_
    refine AllReadyH.cons rfl (fun K hK => ?_) AllReadyH.nil
    go_simp
    refine hK.out _ _ trivial fun hS => ?_
    clear hK K
    refine wpAnyH_done (by kernel_rfl) ?_ _
    refine NoPanic.normal ?_
    have hlt := hx1.spc.lt
    have hWB := hx1.bel.size
    replace hx1 := (hx1.below hb9).ids_new ho9 hlt hWB
    clear ho4 hb4 ho9 hb9 hlt hWB
    generalize wLC = wM at *
    go_upto_region 44 with fail
    by_cases hB : dc = i1
    · obtain rfl : i1 = dc := hB.symm
      have hz : ls.length - i1 = 0 := by omega
      refine wp_region_noPanic ?_
      refine wp_region_held_drew (S := fun _ => True) (by kernel_rfl) trivial fun hS => ?_
      refine take_to (i := 1) (v := ?_) 214 rfl rfl (by kernel_rfl) (by kernel_rfl) (by kernel_rfl) (fun _ _ _ h => h) (Or.inl ⟨by rfl, ?_⟩) hS ?_
      rotate_left
      · intro W hW
        go_simp
        try with_reducible rfl
      simp only [List.setIfInBounds_toArray, List.set_cons_zero, List.set_cons_succ]
      refine take_to (i := 2) (v := ?_) 215 rfl rfl (by kernel_rfl) (by kernel_rfl) (by kernel_rfl) (fun _ _ _ h => h) (Or.inl ⟨by rfl, ?_⟩) hS ?_
      rotate_left
      · intro W hW
        go_simp
        try with_reducible rfl
      simp only [List.setIfInBounds_toArray, List.set_cons_zero, List.set_cons_succ]
      refine take_to (i := 3) (v := ?_) 216 rfl rfl (by kernel_rfl) (by kernel_rfl) (by kernel_rfl) (fun _ _ _ h => h) (Or.inl ⟨by rfl, ?_⟩) hS ?_
      rotate_left
      · intro W hW
        go_simp
        try with_reducible rfl
      simp only [List.setIfInBounds_toArray, List.set_cons_zero, List.set_cons_succ]
      refine take_to (i := 5) (v := ?_) 218 rfl rfl (by kernel_rfl) (by kernel_rfl) (by kernel_rfl) (fun _ _ _ h => h) (Or.inl ⟨by rfl, ?_⟩) hS ?_
      rotate_left
      · intro W hW
        go_simp
        try with_reducible rfl
      simp only [List.setIfInBounds_toArray, List.set_cons_zero, List.set_cons_succ]
      refine take_to (i := 6) (v := ?_) 219 rfl rfl (by kernel_rfl) (by kernel_rfl) (by kernel_rfl) (fun _ _ _ h => h) (Or.inl ⟨by rfl, ?_⟩) hS ?_
      rotate_left
      · intro W hW
        go_simp
        try with_reducible rfl
      simp only [List.setIfInBounds_toArray, List.set_cons_zero, List.set_cons_succ]
      refine take_to (i := 7) (v := ?_) 220 rfl rfl (by kernel_rfl) (by kernel_rfl) (by kernel_rfl) (fun _ _ _ h => h) (Or.inl ⟨by rfl, ?_⟩) hS ?_
      rotate_left
      · intro W hW
        go_simp
        try with_reducible rfl
      simp only [List.setIfInBounds_toArray, List.set_cons_zero, List.set_cons_succ]
      refine take_to (i := 8) (v := ?_) 221 rfl rfl (by kernel_rfl) (by kernel_rfl) (by kernel_rfl) (fun _ _ _ h => h) (Or.inl ⟨by rfl, ?_⟩) hS ?_
      rotate_left
      · intro W hW
        go_simp
        try with_reducible rfl
      simp only [List.setIfInBounds_toArray, List.set_cons_zero, List.set_cons_succ]
      replace hx1 := hx1.below (ext_drew wM)
      generalize wM.drew = wNA at *
      refine wpAnyH_ready (rs := [0]) (by kernel_rfl) (by simp) ?_
      refine AllReadyH.cons rfl (fun K hK => ?_) AllReadyH.nil
      go_simp
      have hlit := owng_lit ED wNA 29 [] #[] rfl 0 rfl (by omega) Enc.Ok.nil wNA.heap.size wNA.heap.size rfl (Nat.le_refl _)
      have hbl := below_alloc wNA (.cells #[] 29)
      refine hK.out _ _ trivial fun hS => ?_
      clear hK K
      refine wpAnyH_ready (rs := [4]) (by kernel_rfl) (by simp) ?_
      refine AllReadyH.cons rfl (fun K hK => ?_) AllReadyH.nil
      refine Eq.mpr (if_pos (by kernel_rfl)) ?_
      refine op_append_g _ (.tmp 213) (.tmp 216) 27 rfl 29 Try.underlying27 _ _ infoRow rfl (by decide) wNA.heap.size 0 0 _ [] rfl hlit (some ⟨gd, 0, none⟩) i i1 (((ls.map fun e => (e.db, e.n))).take i) rfl ((hx1.dat.row.below hbl).pre i (by omega)) (by omega) hbl.size wNA hbl ?_
      intro s4 c4 wNB ho4 hb4 _
      refine hK.out _ _ trivial fun hS => ?_
      clear hK K hlit hbl
      refine wpAnyH_ready (rs := [9]) (by kernel_rfl) (by simp) ?_
      refine AllReadyH.cons rfl (fun K hK => ?_) AllReadyH.nil
      refine Eq.mpr (if_pos (by kernel_rfl)) ?_
      refine op_append_g _ (.tmp 217) (.tmp 221) 27 rfl 29 Try.underlying27 _ _ infoRow rfl (by decide) wNA.heap.size _ c4 s4 _ rfl ho4 (some ⟨gd, 0, none⟩) 0 0 (((ls.map fun e => (e.db, e.n))).drop i1) rfl (by have h9 := (rowg_tail0 _ (hx1.dat.row.below hb4) i1 (by omega) (by omega)); rw [hz] at h9; exact h9) (by omega) hb4.size wNA hb4 ?_
      intro s9 c9 wNC ho9 hb9 _
      refine hK.out _ _ trivial fun hS => ?_
      clear hK K
      refine wpAnyH_ready (rs := [10]) (by kernel_rfl) (by simp) ?_
      refine AllReadyH.cons rfl (fun K hK => ?_) AllReadyH.nil
      go_simp
      refine hK.out _ _ trivial fun hS => ?_
      clear hK K
      refine wpAnyH_done (by kernel_rfl) ?_ _
      refine NoPanic.normal ?_
      have hlt := hx1.spc.lt
      have hWB := hx1.bel.size
      replace hx1 := (hx1.below hb9).dat_new ho9 hlt hWB
      clear ho4 hb4 ho9 hb9 hlt hWB
      rw [List.nil_append, hi1'.out] at hx1
      have hm := unmap_done hx1 hsay h2
      clear hx1
      go_wp2_with fail
      have hN := hnext.out f2 c _ _ _ _ _ _ ⟨by have := hcj.out; omega, by have := hcj.out; rw [HLN.out]; omega⟩ hm
      rw [HLN.out] at hN
      rw [hz, Nat.add_zero] at hN
      exact hN _ _ _ _ _ _ _ _ _ _ _ _ _ _ _ _ _ _ _ _ _ _ _ _ _ _ _ _ _ _ _ _ _ _ _ _ _ _ _ _ _ _ _ _ _ _ _ _ _ _ _ _ _ _ _ _ _ _ _ _ _ _ _ _ _ _ _ _ _ _ _ _ _ _ _ _ _ _ _ _ _ _ _ _ _ _ _ _ _ _ _ _ _ _ _ _ _ _ _ _ _ _ _ _ _ _ _ _ _ _ _ _ _ _ _ _ _ _ _ _ _ _ _ _ _ _ _ _ _ _ _ _ _ _ _ _ _ _ _ _ _ _ _ _ _ _ _ _ _ _ _ _ _ _ _ _ _ _ _ _ _ _ _ _ _ _ _ _ _ _ _ _ _ _ _ _ _ _ _ _ _ _ _ _ _ _ _ _ _ _ _ _ _ _ _ _ _ _ _ _ _ _ _ _ _ _ _ _ _ _ _ _ _ _ _ _ _ _ _ _ _ _ _ _ _ _ _ _ _ _ _ _ _ _ _ _ _ _ _
    · refine wp_region_noPanic ?_
      refine wp_region_held_drew (S := fun _ => True) (by kernel_rfl) trivial fun hS => ?_
      refine take_to (i := 1) (v := ?_) 214 rfl rfl (by kernel_rfl) (by kernel_rfl) (by kernel_rfl) (fun _ _ _ h => h) (Or.inl ⟨by rfl, ?_⟩) hS ?_
      rotate_left
      · intro W hW
        go_simp
        try with_reducible rfl
      simp only [List.setIfInBounds_toArray, List.set_cons_zero, List.set_cons_succ]
      refine take_to (i := 2) (v := ?_) 215 rfl rfl (by kernel_rfl) (by kernel_rfl) (by kernel_rfl) (fun _ _ _ h => h) (Or.inl ⟨by rfl, ?_⟩) hS ?_
      rotate_left
      · intro W hW
        go_simp
        try with_reducible rfl
      simp only [List.setIfInBounds_toArray, List.set_cons_zero, List.set_cons_succ]
      refine take_to (i := 3) (v := ?_) 216 rfl rfl (by kernel_rfl) (by kernel_rfl) (by kernel_rfl) (fun _ _ _ h => h) (Or.inl ⟨by rfl, ?_⟩) hS ?_
      rotate_left
      · intro W hW
        go_simp
        try with_reducible rfl
      simp only [List.setIfInBounds_toArray, List.set_cons_zero, List.set_cons_succ]
      refine take_to (i := 5) (v := ?_) 218 rfl rfl (by kernel_rfl) (by kernel_rfl) (by kernel_rfl) (fun _ _ _ h => h) (Or.inl ⟨by rfl, ?_⟩) hS ?_
      rotate_left
      · intro W hW
        go_simp
        try with_reducible rfl
      simp only [List.setIfInBounds_toArray, List.set_cons_zero, List.set_cons_succ]
      refine take_to (i := 6) (v := ?_) 219 rfl rfl (by kernel_rfl) (by kernel_rfl) (by kernel_rfl) (fun _ _ _ h => h) (Or.inl ⟨by rfl, ?_⟩) hS ?_
      rotate_left
      · intro W hW
        go_simp
        try with_reducible rfl
      simp only [List.setIfInBounds_toArray, List.set_cons_zero, List.set_cons_succ]
      refine take_to (i := 7) (v := ?_) 220 rfl rfl (by kernel_rfl) (by kernel_rfl) (by kernel_rfl) (fun _ _ _ h => h) (Or.inl ⟨by rfl, ?_⟩) hS ?_
      rotate_left
      · intro W hW
        go_simp
        try with_reducible rfl
      simp only [List.setIfInBounds_toArray, List.set_cons_zero, List.set_cons_succ]
      refine take_to (i := 8) (v := ?_) 221 rfl rfl (by kernel_rfl) (by kernel_rfl) (by kernel_rfl) (fun _ _ _ h => h) (Or.inl ⟨by rfl, ?_⟩) hS ?_
      rotate_left
      · intro W hW
        go_simp
        try with_reducible rfl
      simp only [List.setIfInBounds_toArray, List.set_cons_zero, List.set_cons_succ]
      replace hx1 := hx1.below (ext_drew wM)
      generalize wM.drew = wNA at *
      refine wpAnyH_ready (rs := [0]) (by kernel_rfl) (by simp) ?_
      refine AllReadyH.cons rfl (fun K hK => ?_) AllReadyH.nil
      go_simp
      have hlit := owng_lit ED wNA 29 [] #[] rfl 0 rfl (by omega) Enc.Ok.nil wNA.heap.size wNA.heap.size rfl (Nat.le_refl _)
      have hbl := below_alloc wNA (.cells #[] 29)
      refine hK.out _ _ trivial fun hS => ?_
      clear hK K
      refine wpAnyH_ready (rs := [4]) (by kernel_rfl) (by simp) ?_
      refine AllReadyH.cons rfl (fun K hK => ?_) AllReadyH.nil
      refine Eq.mpr (if_pos (by kernel_rfl)) ?_
      refine op_append_g _ (.tmp 213) (.tmp 216) 27 rfl 29 Try.underlying27 _ _ infoRow rfl (by decide) wNA.heap.size 0 0 _ [] rfl hlit (some ⟨gd, 0, none⟩) i dc (((ls.map fun e => (e.db, e.n))).take i) rfl ((hx1.dat.row.below hbl).pre i (by omega)) (by omega) hbl.size wNA hbl ?_
      intro s4 c4 wNB ho4 hb4 _
      refine hK.out _ _ trivial fun hS => ?_
      clear hK K hlit hbl
      refine wpAnyH_ready (rs := [9]) (by kernel_rfl) (by simp) ?_
      refine AllReadyH.cons rfl (fun K hK => ?_) AllReadyH.nil
      refine Eq.mpr (if_pos (by kernel_rfl)) ?_
      refine op_append_g _ (.tmp 217) (.tmp 221) 27 rfl 29 Try.underlying27 _ _ infoRow rfl (by decide) wNA.heap.size _ c4 s4 _ rfl ho4 (some ⟨gd, i1, none⟩) 0 (dc - i1) (((ls.map fun e => (e.db, e.n))).drop i1) rfl (by have h9 := (rowg_tail _ (hx1.dat.row.below hb4) i1 (by omega)); rw [hz] at h9; exact h9) (by omega) hb4.size wNA hb4 ?_
      intro s9 c9 wNC ho9 hb9 _
      refine hK.out _ _ trivial fun hS => ?_
      clear hK K
      refine wpAnyH_ready (rs := [10]) (by kernel_rfl) (by simp) ?_
      refine AllReadyH.cons rfl (fun K hK => ?_) AllReadyH.nil
      go_simp
      refine hK.out _ _ trivial fun hS => ?_
      clear hK K
      refine wpAnyH_done (by kernel_rfl) ?_ _
      refine NoPanic.normal ?_
      have hlt := hx1.spc.lt
      have hWB := hx1.bel.size
      replace hx1 := (hx1.below hb9).dat_new ho9 hlt hWB
      clear ho4 hb4 ho9 hb9 hlt hWB
      rw [List.nil_append, hi1'.out] at hx1
      have hm := unmap_done hx1 hsay h2
      clear hx1
      go_wp2_with fail
      have hN := hnext.out f2 c _ _ _ _ _ _ ⟨by have := hcj.out; omega, by have := hcj.out; rw [HLN.out]; omega⟩ hm
      rw [HLN.out] at hN
      rw [hz, Nat.add_zero] at hN
      exact hN _ _ _ _ _ _ _ _ _ _ _ _ _ _ _ _ _ _ _ _ _ _ _ _ _ _ _ _ _ _ _ _ _ _ _ _ _ _ _ _ _ _ _ _ _ _ _ _ _ _ _ _ _ _ _ _ _ _ _ _ _ _ _ _ _ _ _ _ _ _ _ _ _ _ _ _ _ _ _ _ _ _ _ _ _ _ _ _ _ _ _ _ _ _ _ _ _ _ _ _ _ _ _ _ _ _ _ _ _ _ _ _ _ _ _ _ _ _ _ _ _ _ _ _ _ _ _ _ _ _ _ _ _ _ _ _ _ _ _ _ _ _ _ _ _ _ _ _ _ _ _ _ _ _ _ _ _ _ _ _ _ _ _ _ _ _ _ _ _ _ _ _ _ _ _ _ _ _ _ _ _ _ _ _ _ _ _ _ _ _ _ _ _ _ _ _ _ _ _ _ _ _ _ _ _ _ _ _ _ _ _ _ _ _ _ _ _ _ _ _ _ _ _ _ _ _ _ _ _ _ _ _ _ _ _ _ _ _ _
  · refine wp_region_noPanic ?_
    refine wp_region_held_drew (S := fun _ => True) (by kernel_rfl) trivial fun hS => ?_
    refine take_to (i := 1) (v := ?_) 204 rfl rfl (by kernel_rfl) (by kernel_rfl) (by kernel_rfl) (fun _ _ _ h => h) (Or.inl ⟨by rfl, ?_⟩) hS ?_
    rotate_left
    · intro W hW
      go_simp
      try with_reducible rfl
    simp only [List.setIfInBounds_toArray, List.set_cons_zero, List.set_cons_succ]
    refine take_to (i := 2) (v := ?_) 205 rfl rfl (by kernel_rfl) (by kernel_rfl) (by kernel_rfl) (fun _ _ _ h => h) (Or.inl ⟨by rfl, ?_⟩) hS ?_
    rotate_left
    · intro W hW
      go_simp
      try with_reducible rfl
    simp only [List.setIfInBounds_toArray, List.set_cons_zero, List.set_cons_succ]
    refine take_to (i := 3) (v := ?_) 206 rfl rfl (by kernel_rfl) (by kernel_rfl) (by kernel_rfl) (fun _ _ _ h => h) (Or.inl ⟨by rfl, ?_⟩) hS ?_
    rotate_left
    · intro W hW
      go_simp
      try with_reducible rfl
    simp only [List.setIfInBounds_toArray, List.set_cons_zero, List.set_cons_succ]
    refine take_to (i := 5) (v := ?_) 208 rfl rfl (by kernel_rfl) (by kernel_rfl) (by kernel_rfl) (fun _ _ _ h => h) (Or.inl ⟨by rfl, ?_⟩) hS ?_
    rotate_left
    · intro W hW
      go_simp
      try with_reducible rfl
    simp only [List.setIfInBounds_toArray, List.set_cons_zero, List.set_cons_succ]
    refine take_to (i := 6) (v := ?_) 209 rfl rfl (by kernel_rfl) (by kernel_rfl) (by kernel_rfl) (fun _ _ _ h => h) (Or.inl ⟨by rfl, ?_⟩) hS ?_
    rotate_left
    · intro W hW
      go_simp
      try with_reducible rfl
    simp only [List.setIfInBounds_toArray, List.set_cons_zero, List.set_cons_succ]
    refine take_to (i := 7) (v := ?_) 210 rfl rfl (by kernel_rfl) (by kernel_rfl) (by kernel_rfl) (fun _ _ _ h => h) (Or.inl ⟨by rfl, ?_⟩) hS ?_
    rotate_left
    · intro W hW
      go_simp
      try with_reducible rfl
    simp only [List.setIfInBounds_toArray, List.set_cons_zero, List.set_cons_succ]
    refine take_to (i := 8) (v := ?_) 211 rfl rfl (by kernel_rfl) (by kernel_rfl) (by kernel_rfl) (fun _ _ _ h => h) (Or.inl ⟨by rfl, ?_⟩) hS ?_
    rotate_left
    · intro W hW
      go_simp
      try with_reducible rfl
    simp only [List.setIfInBounds_toArray, List.set_cons_zero, List.set_cons_succ]
    replace hx1 := hx1.below (ext_drew w1)
    generalize w1.drew = wLA at *
    refine wpAnyH_ready (rs := [0]) (by kernel_rfl) (by simp) ?_
    refine AllReadyH.cons rfl (fun K hK => ?_) AllReadyH.nil
    go_simp
    have hlit := owng_lit EU wLA 28 [] #[] rfl 0 rfl (by omega) Enc.Ok.nil wLA.heap.size wLA.heap.size rfl (Nat.le_refl _)
    have hbl := below_alloc wLA (.cells #[] 28)
    refine hK.out _ _ trivial fun hS => ?_
    clear hK K
    refine wpAnyH_ready (rs := [4]) (by kernel_rfl) (by simp) ?_
    refine AllReadyH.cons rfl (fun K hK => ?_) AllReadyH.nil
    refine Eq.mpr (if_pos (by kernel_rfl)) ?_
    refine op_append_g _ (.tmp 203) (.tmp 206) 26 rfl 28 Try.underlying26 _ _ infoU rfl (by decide) wLA.heap.size 0 0 _ [] rfl hlit (some ⟨gi, 0, none⟩) i ic ((ls.map Nm.id).take i) rfl ((hx1.ids.row.below hbl).pre i (by omega)) (by omega) hbl.size wLA hbl ?_
    intro s4 c4 wLB ho4 hb4 _
    refine hK.out _ _ trivial fun hS => ?_
    clear hK K hlit hbl
    refine wpAnyH_ready (rs := [9]) (by kernel_rfl) (by simp) ?_
    refine AllReadyH.cons rfl (fun K hK => ?_) AllReadyH.nil
    refine Eq.mpr (if_pos (by kernel_rfl)) ?_
    refine op_append_g _ (.tmp 207) (.tmp 211) 26 rfl 28 Try.underlying26 _ _ infoU rfl (by decide) wLA.heap.size _ c4 s4 _ rfl ho4 (some ⟨gi, i1, none⟩) (ls.length - i1) (ic - i1) ((ls.map Nm.id).drop i1) rfl (rowg_tail _ (hx1.ids.row.below hb4) i1 (by omega)) (by omega) hb4.size wLA hb4 ?_
    intro s9 c9 wLC ho9 hb9 _
    refine hK.out _ _ trivial fun hS => ?_
    clear hK K
    refine wpAnyH_ready (rs := [10]) (by kernel_rfl) (by simp) ?_
    refine AllReadyH.cons rfl (fun K hK => ?_) AllReadyH.nil
    go_simp
    refine hK.out _ _ trivial fun hS => ?_
    clear hK K
    refine wpAnyH_done (by kernel_rfl) ?_ _
    refine NoPanic.normal ?_
    have hlt := hx1.spc.lt
    have hWB := hx1.bel.size
    replace hx1 := (hx1.below hb9).ids_new ho9 hlt hWB
    clear ho4 hb4 ho9 hb9 hlt hWB
    generalize wLC = wM at *
    go_upto_region 44 with fail
    by_cases hB : dc = i1
    · obtain rfl : i1 = dc := hB.symm
      have hz : ls.length - i1 = 0 := by omega
      refine wp_region_noPanic ?_
      refine wp_region_held_drew (S := fun _ => True) (by kernel_rfl) trivial fun hS => ?_
      refine take_to (i := 1) (v := ?_) 214 rfl rfl (by kernel_rfl) (by kernel_rfl) (by kernel_rfl) (fun _ _ _ h => h) (Or.inl ⟨by rfl, ?_⟩) hS ?_
      rotate_left
      · intro W hW
        go_simp
        try with_reducible rfl
      simp only [List.setIfInBounds_toArray, List.set_cons_zero, List.set_cons_succ]
      refine take_to (i := 2) (v := ?_) 215 rfl rfl (by kernel_rfl) (by kernel_rfl) (by kernel_rfl) (fun _ _ _ h => h) (Or.inl ⟨by rfl, ?_⟩) hS ?_
      rotate_left
      · intro W hW
        go_simp
        try with_reducible rfl
      simp only [List.setIfInBounds_toArray, List.set_cons_zero, List.set_cons_succ]
      refine take_to (i := 3) (v := ?_) 216 rfl rfl (by kernel_rfl) (by kernel_rfl) (by kernel_rfl) (fun _ _ _ h => h) (Or.inl ⟨by rfl, ?_⟩) hS ?_
      rotate_left
      · intro W hW
        go_simp
        try with_reducible rfl
      simp only [List.setIfInBounds_toArray, List.set_cons_zero, List.set_cons_succ]
      refine take_to (i := 5) (v := ?_) 218 rfl rfl (by kernel_rfl) (by kernel_rfl) (by kernel_rfl) (fun _ _ _ h => h) (Or.inl ⟨by rfl, ?_⟩) hS ?_
      rotate_left
      · intro W hW
        go_simp
        try with_reducible rfl
      simp only [List.setIfInBounds_toArray, List.set_cons_zero, List.set_cons_succ]
      refine take_to (i := 6) (v := ?_) 219 rfl rfl (by kernel_rfl) (by kernel_rfl) (by kernel_rfl) (fun _ _ _ h => h) (Or.inl ⟨by rfl, ?_⟩) hS ?_
      rotate_left
      · intro W hW
        go_simp
        try with_reducible rfl
      simp only [List.setIfInBounds_toArray, List.set_cons_zero, List.set_cons_succ]
      refine take_to (i := 7) (v := ?_) 220 rfl rfl (by kernel_rfl) (by kernel_rfl) (by kernel_rfl) (fun _ _ _ h => h) (Or.inl ⟨by rfl, ?_⟩) hS ?_
      rotate_left
      · intro W hW
        go_simp
        try with_reducible rfl
      simp only [List.setIfInBounds_toArray, List.set_cons_zero, List.set_cons_succ]
      refine take_to (i := 8) (v := ?_) 221 rfl rfl (by kernel_rfl) (by kernel_rfl) (by kernel_rfl) (fun _ _ _ h => h) (Or.inl ⟨by rfl, ?_⟩) hS ?_
      rotate_left
      · intro W hW
        go_simp
        try with_reducible rfl
      simp only [List.setIfInBounds_toArray, List.set_cons_zero, List.set_cons_succ]
      replace hx1 := hx1.below (ext_drew wM)
      generalize wM.drew = wNA at *
      refine wpAnyH_ready (rs := [0]) (by kernel_rfl) (by simp) ?_
      refine AllReadyH.cons rfl (fun K hK => ?_) AllReadyH.nil
      go_simp
      have hlit := owng_lit ED wNA 29 [] #[] rfl 0 rfl (by omega) Enc.Ok.nil wNA.heap.size wNA.heap.size rfl (Nat.le_refl _)
      have hbl := below_alloc wNA (.cells #[] 29)
      refine hK.out _ _ trivial fun hS => ?_
      clear hK K
      refine wpAnyH_ready (rs := [4]) (by kernel_rfl) (by simp) ?_
      refine AllReadyH.cons rfl (fun K hK => ?_) AllReadyH.nil
      refine Eq.mpr (if_pos (by kernel_rfl)) ?_
      refine op_append_g _ (.tmp 213) (.tmp 216) 27 rfl 29 Try.underlying27 _ _ infoRow rfl (by decide) wNA.heap.size 0 0 _ [] rfl hlit (some ⟨gd, 0, none⟩) i i1 (((ls.map fun e => (e.db, e.n))).take i) rfl ((hx1.dat.row.below hbl).pre i (by omega)) (by omega) hbl.size wNA hbl ?_
      intro s4 c4 wNB ho4 hb4 _
      refine hK.out _ _ trivial fun hS => ?_
      clear hK K hlit hbl
      refine wpAnyH_ready (rs := [9]) (by kernel_rfl) (by simp) ?_
      refine AllReadyH.cons rfl (fun K hK => ?_) AllReadyH.nil
      refine Eq.mpr (if_pos (by kernel_rfl)) ?_
      refine op_append_g _ (.tmp 217) (.tmp 221) 27 rfl 29 Try.underlying27 _ _ infoRow rfl (by decide) wNA.heap.size _ c4 s4 _ rfl ho4 (some ⟨gd, 0, none⟩) 0 0 (((ls.map fun e => (e.db, e.n))).drop i1) rfl (by have h9 := (rowg_tail0 _ (hx1.dat.row.below hb4) i1 (by omega) (by omega)); rw [hz] at h9; exact h9) (by omega) hb4.size wNA hb4 ?_
      intro s9 c9 wNC ho9 hb9 _
      refine hK.out _ _ trivial fun hS => ?_
      clear hK K
      refine wpAnyH_ready (rs := [10]) (by kernel_rfl) (by simp) ?_
      refine AllReadyH.cons rfl (fun K hK => ?_) AllReadyH.nil
      go_simp
      refine hK.out _ _ trivial fun hS => ?_
      clear hK K
      refine wpAnyH_done (by kernel_rfl) ?_ _
      refine NoPanic.normal ?_
      have hlt := hx1.spc.lt
      have hWB := hx1.bel.size
      replace hx1 := (hx1.below hb9).dat_new ho9 hlt hWB
      clear ho4 hb4 ho9 hb9 hlt hWB
      rw [List.nil_append, hi1'.out] at hx1
      have hm := unmap_done hx1 hsay h2
      clear hx1
      go_wp2_with fail
      have hN := hnext.out f2 c _ _ _ _ _ _ ⟨by have := hcj.out; omega, by have := hcj.out; rw [HLN.out]; omega⟩ hm
      rw [HLN.out] at hN
      rw [hz, Nat.add_zero] at hN
      exact hN _ _ _ _ _ _ _ _ _ _ _ _ _ _ _ _ _ _ _ _ _ _ _ _ _ _ _ _ _ _ _ _ _ _ _ _ _ _ _ _ _ _ _ _ _ _ _ _ _ _ _ _ _ _ _ _ _ _ _ _ _ _ _ _ _ _ _ _ _ _ _ _ _ _ _ _ _ _ _ _ _ _ _ _ _ _ _ _ _ _ _ _ _ _ _ _ _ _ _ _ _ _ _ _ _ _ _ _ _ _ _ _ _ _ _ _ _ _ _ _ _ _ _ _ _ _ _ _ _ _ _ _ _ _ _ _ _ _ _ _ _ _ _ _ _ _ _ _ _ _ _ _ _ _ _ _ _ _ _ _ _ _ _ _ _ _ _ _ _ _ _ _ _ _ _ _ _ _ _ _ _ _ _ _ _ _ _ _ _ _ _ _ _ _ _ _ _ _ _ _ _ _ _ _ _ _ _ _ _ _ _ _ _ _ _ _ _ _ _ _ _ _ _ _ _ _ _ _ _ _ _ _ _ _ _ _ _ _ _
    · refine wp_region_noPanic ?_
      refine wp_region_held_drew (S := fun _ => True) (by kernel_rfl) trivial fun hS => ?_
      refine take_to (i := 1) (v := ?_) 214 rfl rfl (by kernel_rfl) (by kernel_rfl) (by kernel_rfl) (fun _ _ _ h => h) (Or.inl ⟨by rfl, ?_⟩) hS ?_
      rotate_left
      · intro W hW
        go_simp
        try with_reducible rfl
      simp only [List.setIfInBounds_toArray, List.set_cons_zero, List.set_cons_succ]
      refine take_to (i := 2) (v := ?_) 215 rfl rfl (by kernel_rfl) (by kernel_rfl) (by kernel_rfl) (fun _ _ _ h => h) (Or.inl ⟨by rfl, ?_⟩) hS ?_
      rotate_left
      · intro W hW
        go_simp
        try with_reducible rfl
      simp only [List.setIfInBounds_toArray, List.set_cons_zero, List.set_cons_succ]
      refine take_to (i := 3) (v := ?_) 216 rfl rfl (by kernel_rfl) (by kernel_rfl) (by kernel_rfl) (fun _ _ _ h => h) (Or.inl ⟨by rfl, ?_⟩) hS ?_
      rotate_left
      · intro W hW
        go_simp
        try with_reducible rfl
      simp only [List.setIfInBounds_toArray, List.set_cons_zero, List.set_cons_succ]
      refine take_to (i := 5) (v := ?_) 218 rfl rfl (by kernel_rfl) (by kernel_rfl) (by kernel_rfl) (fun _ _ _ h => h) (Or.inl ⟨by rfl, ?_⟩) hS ?_
      rotate_left
      · intro W hW
        go_simp
        try with_reducible rfl
      simp only [List.setIfInBounds_toArray, List.set_cons_zero, List.set_cons_succ]
      refine take_to (i := 6) (v := ?_) 219 rfl rfl (by kernel_rfl) (by kernel_rfl) (by kernel_rfl) (fun _ _ _ h => h) (Or.inl ⟨by rfl, ?_⟩) hS ?_
      rotate_left
      · intro W hW
        go_simp
        try with_reducible rfl
      simp only [List.setIfInBounds_toArray, List.set_cons_zero, List.set_cons_succ]
      refine take_to (i := 7) (v := ?_) 220 rfl rfl (by kernel_rfl) (by kernel_rfl) (by kernel_rfl) (fun _ _ _ h => h) (Or.inl ⟨by rfl, ?_⟩) hS ?_
      rotate_left
      · intro W hW
        go_simp
        try with_reducible rfl
      simp only [List.setIfInBounds_toArray, List.set_cons_zero, List.set_cons_succ]
      refine take_to (i := 8) (v := ?_) 221 rfl rfl (by kernel_rfl) (by kernel_rfl) (by kernel_rfl) (fun _ _ _ h => h) (Or.inl ⟨by rfl, ?_⟩) hS ?_
      rotate_left
      · intro W hW
        go_simp
        try with_reducible rfl
      simp only [List.setIfInBounds_toArray, List.set_cons_zero, List.set_cons_succ]
      replace hx1 := hx1.below (ext_drew wM)
      generalize wM.drew = wNA at *
      refine wpAnyH_ready (rs := [0]) (by kernel_rfl) (by simp) ?_
      refine AllReadyH.cons rfl (fun K hK => ?_) AllReadyH.nil
      go_simp
      have hlit := owng_lit ED wNA 29 [] #[] rfl 0 rfl (by omega) Enc.Ok.nil wNA.heap.size wNA.heap.size rfl (Nat.le_refl _)
      have hbl := below_alloc wNA (.cells #[] 29)
      refine hK.out _ _ trivial fun hS => ?_
      clear hK K
      refine wpAnyH_ready (rs := [4]) (by kernel_rfl) (by simp) ?_
      refine AllReadyH.cons rfl (fun K hK => ?_) AllReadyH.nil
      refine Eq.mpr (if_pos (by kernel_rfl)) ?_
      refine op_append_g _ (.tmp 213) (.tmp 216) 27 rfl 29 Try.underlying27 _ _ infoRow rfl (by decide) wNA.heap.size 0 0 _ [] rfl hlit (some ⟨gd, 0, none⟩) i dc (((ls.map fun e => (e.db, e.n))).take i) rfl ((hx1.dat.row.below hbl).pre i (by omega)) (by omega) hbl.size wNA hbl ?_
      intro s4 c4 wNB ho4 hb4 _
      refine hK.out _ _ trivial fun hS => ?_
      clear hK K hlit hbl
      refine wpAnyH_ready (rs := [9]) (by kernel_rfl) (by simp) ?_
      refine AllReadyH.cons rfl (fun K hK => ?_) AllReadyH.nil
      refine Eq.mpr (if_pos (by kernel_rfl)) ?_
      refine op_append_g _ (.tmp 217) (.tmp 221) 27 rfl 29 Try.underlying27 _ _ infoRow rfl (by decide) wNA.heap.size _ c4 s4 _ rfl ho4 (some ⟨gd, i1, none⟩) (ls.length - i1) (dc - i1) (((ls.map fun e => (e.db, e.n))).drop i1) rfl (rowg_tail _ (hx1.dat.row.below hb4) i1 (by omega)) (by omega) hb4.size wNA hb4 ?_
      intro s9 c9 wNC ho9 hb9 _
      refine hK.out _ _ trivial fun hS => ?_
      clear hK K
      refine wpAnyH_ready (rs := [10]) (by kernel_rfl) (by simp) ?_
      refine AllReadyH.cons rfl (fun K hK => ?_) AllReadyH.nil
      go_simp
      refine hK.out _ _ trivial fun hS => ?_
      clear hK K
      refine wpAnyH_done (by kernel_rfl) ?_ _
      refine NoPanic.normal ?_
      have hlt := hx1.spc.lt
      have hWB := hx1.bel.size
      replace hx1 := (hx1.below hb9).dat_new ho9 hlt hWB
      clear ho4 hb4 ho9 hb9 hlt hWB
      rw [List.nil_append, hi1'.out] at hx1
      have hm := unmap_done hx1 hsay h2
      clear hx1
      go_wp2_with fail
      have hN := hnext.out f2 c _ _ _ _ _ _ ⟨by have := hcj.out; omega, by have := hcj.out; rw [HLN.out]; omega⟩ hm
      rw [HLN.out] at hN
      exact hN _ _ _ _ _ _ _ _ _ _ _ _ _ _ _ _ _ _ _ _ _ _ _ _ _ _ _ _ _ _ _ _ _ _ _ _ _ _ _ _ _ _ _ _ _ _ _ _ _ _ _ _ _ _ _ _ _ _ _ _ _ _ _ _ _ _ _ _ _ _ _ _ _ _ _ _ _ _ _ _ _ _ _ _ _ _ _ _ _ _ _ _ _ _ _ _ _ _ _ _ _ _ _ _ _ _ _ _ _ _ _ _ _ _ _ _ _ _ _ _ _ _ _ _ _ _ _ _ _ _ _ _ _ _ _ _ _ _ _ _ _ _ _ _ _ _ _ _ _ _ _ _ _ _ _ _ _ _ _ _ _ _ _ _ _ _ _ _ _ _ _ _ _ _ _ _ _ _ _ _ _ _ _ _ _ _ _ _ _ _ _ _ _ _ _ _ _ _ _ _ _ _ _ _ _ _ _ _ _ _ _ _ _ _ _ _ _ _ _ _ _ _ _ _ _ _ _ _ _ _ _ _ _ _ _ _ _ _ _

end Go.Proofs.Ytdmdamidknbjoaa
