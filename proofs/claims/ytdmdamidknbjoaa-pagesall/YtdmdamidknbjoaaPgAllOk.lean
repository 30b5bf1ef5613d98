/- A round of the law, way by way: Map that is fine. -/
import Derived.Test.YtdmdamidknbjoaaPgAllMap
import Derived.Test.YtdmdamidknbjoaaRegion
import Derived.Deep.CutRange
namespace Go.Proofs.Ytdmdamidknbjoaa
open Go.RowKit
set_option maxRecDepth 100000
set_option linter.unusedVariables false

theorem infoU : (Try.prog.info? 28).map (fun i => (i.zero, i.size, i.bytes)) = some (some (.int .u64 0), 1, 8) := by kernel_rfl
theorem enc_u (x : Int) : (EU.cells x).toArray = #[.int .u64 x] := rfl
theorem enc_d (x : Nat × Nat) : (ED.cells x).toArray = #[.slice (some ⟨x.1, 0, none⟩) x.2 x.2] := rfl
theorem rowg_one {α : Type} (E : Enc α) (w : World) (e : TypeId) (x : α) (_hk : E.k = 1) (ho : E.ok x) : RowG E (w.alloc (.cells (E.cells x).toArray e)) (some ⟨w.heap.size, 0, none⟩) 1 1 [x] :=
  (owng_lit E w e [x] (E.cells x).toArray (by simp [Enc.flat]) 1 rfl (by omega) (Enc.Ok.one ho) w.heap.size 0 rfl (Nat.zero_le _)).row
theorem rowIs_cells {w : World} {r : Nat} {t : TypeId} {n : Nat} {f : Nat → Value} (h : w.rowIs r t n f) : ∃ cs, w.heap[r]? = some (.cells cs t (0, 0)) := by
  obtain ⟨cs, h1, _⟩ := h
  exact ⟨cs, h1⟩
theorem grown_same {α : Type} {E : Enc α} {e t : TypeId} {w w' : World} {B n c : Nat} {a : Option Addr} {xs : List α} (h : OwnG E e w B a n c xs) (hg : w.grownBy w' (Value.slice a n c).ownBlock) {x : Nat} (hx : ∃ cs, w.heap[x]? = some (.cells cs t (0, 0))) (ht : t ≠ e) : w'.heap[x]? = w.heap[x]? := by
  obtain ⟨cs, hx⟩ := hx
  refine hg.block x (Array.getElem?_eq_some_iff.1 hx).1 (fun e1 => ?_)
  obtain ⟨y, hy, hyb⟩ := own_block e1.symm
  obtain ⟨cur, hk⟩ := h.spot hy
  rw [hyb] at hk
  exact cells_ne hx hk ht rfl
theorem map_done {W w : World} {S : Nat → Prop} {q k c fr N p8 v n1 n2 : Nat} {T : Txt} {id : Int} {ls : List Nm} {ia da : Option Addr} {ic dc : Nat} {vo : Array Value}
    (hx : Mdx W w S q k c fr (setI T id (some (N, fun _ => 0))) (ls.map Nm.id ++ [id]) ((ls.map fun e => (e.db, e.n)) ++ [(p8, N)]) ls ia da ic dc n1 n2 v vo) (hsay : Says T ls) (h8 : w.rowIs p8 5 N (fun _ => .int .u8 0)) (h8n : W.heap.size ≤ p8 ∧ ¬ S p8) (h8w : ∀ e ∈ ls, e.db ≠ p8) (h0 : ∀ e ∈ ls, e.id ≠ id) (h1 : N ≤ 64) :
    Md W w q k c fr (ls ++ [⟨id, N, fun _ => 0, p8⟩]) ia da ic dc := by
  have hs := hsay.put (e := ⟨id, N, fun _ => 0, p8⟩) h0 (fun _ _ => rfl)
  have ht : Txs w W S (ls ++ [⟨id, N, fun _ => 0, p8⟩]) := by
    refine ⟨fun e he => ?_, fun e he => ?_, fun j l e1 e2 g1 g2 hid => ?_⟩
    · rcases List.mem_append.1 he with h | h
      · exact hx.txs.row e h
      · simp at h; subst h; exact ⟨h8, h8n.1, h8n.2, h1⟩
    · rcases List.mem_append.1 he with h | h
      · exact hx.txs.byt e h
      · simp at h; subst h; exact fun _ _ => ⟨Int.le_refl 0, show (0 : Int) < 256 by decide⟩
    · have hlt : ∀ {j : Nat} {e1 : Nm}, (ls ++ [⟨id, N, fun _ => 0, p8⟩])[j]? = some e1 → (j < ls.length ∧ ls[j]? = some e1) ∨ (j = ls.length ∧ e1 = ⟨id, N, fun _ => 0, p8⟩) := fun {j e1} hj => by
        by_cases hl : j < ls.length
        · rw [List.getElem?_append_left hl] at hj; exact .inl ⟨hl, hj⟩
        · rw [List.getElem?_append_right (by omega)] at hj
          have hj0 : j - ls.length = 0 := by
            apply Classical.byContradiction
            intro hc
            rw [List.getElem?_eq_none (by simp; omega)] at hj
            cases hj
          rw [hj0] at hj
          simp at hj
          exact .inr ⟨by omega, hj.symm⟩
      rcases hlt g1 with ⟨a1, a2⟩ | ⟨a1, a2⟩ <;> rcases hlt g2 with ⟨b1, b2⟩ | ⟨b1, b2⟩
      · exact hx.txs.one _ _ _ _ a2 b2 hid
      · subst b2; exact absurd hid (h8w e1 (List.mem_of_getElem? a2))
      · subst a2; exact absurd hid.symm (h8w e2 (List.mem_of_getElem? b2))
      · omega
  have hx2 : Mdx W w S q k c fr (setI T id (some (N, fun _ => 0))) ((ls ++ [(⟨id, N, fun _ => 0, p8⟩ : Nm)]).map Nm.id) ((ls ++ [(⟨id, N, fun _ => 0, p8⟩ : Nm)]).map fun e => (e.db, e.n)) (ls ++ [⟨id, N, fun _ => 0, p8⟩]) ia da ic dc n1 n2 v vo := by
    obtain ⟨g1, g2, g3, g4, g5, g6, g7, g8, g9⟩ := hx
    exact ⟨g1, g2, g3, by simpa using g4, by simpa using g5, g6, g7, ht, g9⟩
  exact hx2.md_of hs
theorem grown_ne {w : World} {B n c m k : Nat} {a x : Option Addr} {xs : List Int} {ys : List (Nat × Nat)} (h : OwnG EU 28 w B a n c xs) (h9 : RowG ED w x m k ys) {y : Addr} (hy : x = some y) (hm : ∃ cs, w.heap[y.block]? = some (.cells cs 29 (0, 0))) : (Value.slice a n c).ownBlock ≠ some y.block := fun e1 => by
  obtain ⟨cs, hm⟩ := hm
  obtain ⟨z, hz, hzb⟩ := own_block e1
  obtain ⟨cur, hk⟩ := h.spot hz
  rw [hzb] at hk
  exact cells_ne hm hk (by decide) rfl
set_option maxHeartbeats 4000000 in
set_option maxRecDepth 100000 in
theorem leaf_map_ok {K1 : Act → World → Prop} {Q1 : Exit → Act → World → Prop} {W w : World} {S : Nat → Prop} {q k c fr j v : Nat} {T : Txt} {ls : List Nm} {ia da : Option Addr} {ic dc : Nat} {K' F' O' X : Int} {B' : Ob} {x0 x1 x2 x3 x22 x23 x24 x25 x26 x27 x28 x29 x30 x31 x32 x33 x34 x35 x36 x263 x264 x265 x266 x267 x268 x269 x270 x271 x272 x273 x274 x275 x276 x277 x278 x279 x280 x281 x282 x283 x284 x285 x286 x287 x288 x289 x290 x291 x292 x293 x294 x295 x296 x297 x298 u4 u12 u14 u15 u16 u17 u18 u19 u20 u21 u37 u38 u39 u40 u41 u42 u43 u44 u45 u46 u47 u48 u49 u50 u51 u52 u53 u54 u55 u56 u57 u58 u59 u60 u61 u62 u63 u64 u65 u66 u67 u68 u69 u70 u71 u72 u73 u74 u75 u76 u77 u78 u79 u80 u81 u82 u83 u84 u85 u86 u87 u88 u89 u90 u91 u92 u93 u94 u95 u96 u97 u98 u99 u100 u101 u102 u103 u104 u105 u106 u107 u108 u109 u110 u111 u112 u113 u114 u115 u116 u117 u118 u119 u120 u121 u122 u123 u124 u125 u126 u127 u128 u129 u130 u131 u132 u133 u134 u135 u136 u137 u138 u139 u140 u141 u142 u143 u144 u145 u146 u147 u148 u149 u150 u151 u152 u153 u154 u155 u156 u157 u158 u159 u160 u161 u162 u163 u164 u165 u166 u167 u168 u169 u170 u171 u172 u173 u174 u175 u176 u177 u178 u179 u180 u181 u182 u183 u184 u185 u186 u187 u188 u189 u190 u191 u192 u193 u194 u195 u196 u197 u198 u199 u200 u201 u202 u203 u204 u205 u206 u207 u208 u209 u210 u211 u212 u213 u214 u215 u216 u217 u218 u219 u220 u221 u222 u223 u224 u225 u226 u227 u228 u229 u230 u231 u232 u233 u234 u235 u236 u237 u238 u239 u240 u241 u242 u243 u244 u245 u246 u247 u248 u249 u250 u251 u252 u253 u254 u255 u256 u257 u258 u259 u260 u261 u262 : Value} {N : Nat}
    (hfr : fr ≤ 512) (hj : j < 50) (hcj : Hid (c ≤ j ∧ ls.length ≤ j)) (hx : Mdx W w S q k c fr T (ls.map Nm.id) (ls.map fun e => (e.db, e.n)) ls ia da ic dc ls.length ls.length v #[.int .i64 K', .int .i64 F', .int .i64 O', .int .u64 B'.id, .slice B'.a B'.n B'.c]) (hsay : Says T ls) (hu : U B'.id) (hO : -9223372036854775808 ≤ O' ∧ O' < 9223372036854775808) (hF : -9223372036854775808 ≤ F' ∧ F' < 9223372036854775808) (hrow : Row W B'.a B'.n B'.c B'.xs) (hBn : B'.n ≤ 100) (hX : X < 2) (hN : O' = (N : Int)) (h1 : N ≤ 64) (h0 : ∀ e ∈ ls, e.id ≠ B'.id) (h2 : pg N ≤ fr)
    (hnext : Hid (∀ (f2 c2 : Nat) (l2 : List Nm) (i2 d2 : Option Addr) (ic2 dc2 : Nat) (w2 : World), Hid (c2 ≤ j + 1 ∧ l2.length ≤ j + 1) → Md W w2 q k c2 f2 l2 i2 d2 ic2 dc2 → ∀ (u4 u10 u11 u12 u13 u14 u15 u16 u17 u18 u19 u20 u21 u37 u38 u39 u40 u41 u42 u43 u44 u45 u46 u47 u48 u49 u50 u51 u52 u53 u54 u55 u56 u57 u58 u59 u60 u61 u62 u63 u64 u65 u66 u67 u68 u69 u70 u71 u72 u73 u74 u75 u76 u77 u78 u79 u80 u81 u82 u83 u84 u85 u86 u87 u88 u89 u90 u91 u92 u93 u94 u95 u96 u97 u98 u99 u100 u101 u102 u103 u104 u105 u106 u107 u108 u109 u110 u111 u112 u113 u114 u115 u116 u117 u118 u119 u120 u121 u122 u123 u124 u125 u126 u127 u128 u129 u130 u131 u132 u133 u134 u135 u136 u137 u138 u139 u140 u141 u142 u143 u144 u145 u146 u147 u148 u149 u150 u151 u152 u153 u154 u155 u156 u157 u158 u159 u160 u161 u162 u163 u164 u165 u166 u167 u168 u169 u170 u171 u172 u173 u174 u175 u176 u177 u178 u179 u180 u181 u182 u183 u184 u185 u186 u187 u188 u189 u190 u191 u192 u193 u194 u195 u196 u197 u198 u199 u200 u201 u202 u203 u204 u205 u206 u207 u208 u209 u210 u211 u212 u213 u214 u215 u216 u217 u218 u219 u220 u221 u222 u223 u224 u225 u226 u227 u228 u229 u230 u231 u232 u233 u234 u235 u236 u237 u238 u239 u240 u241 u242 u243 u244 u245 u246 u247 u248 u249 u250 u251 u252 u253 u254 u255 u256 u257 u258 u259 u260 u261 u262 : Value), K1 { tmps := #[x0, x1, x2, x3, u4, .pointer (some ⟨q, 0, none⟩), .int .i64 f2, .slice i2 l2.length ic2, .slice d2 l2.length dc2, .int .i64 j, u10, u11, u12, u13, u14, u15, u16, u17, u18, u19, u20, u21, x22, x23, x24, x25, x26, x27, x28, x29, x30, x31, x32, x33, x34, x35, x36, u37, u38, u39, u40, u41, u42, u43, u44, u45, u46, u47, u48, u49, u50, u51, u52, u53, u54, u55, u56, u57, u58, u59, u60, u61, u62, u63, u64, u65, u66, u67, u68, u69, u70, u71, u72, u73, u74, u75, u76, u77, u78, u79, u80, u81, u82, u83, u84, u85, u86, u87, u88, u89, u90, u91, u92, u93, u94, u95, u96, u97, u98, u99, u100, u101, u102, u103, u104, u105, u106, u107, u108, u109, u110, u111, u112, u113, u114, u115, u116, u117, u118, u119, u120, u121, u122, u123, u124, u125, u126, u127, u128, u129, u130, u131, u132, u133, u134, u135, u136, u137, u138, u139, u140, u141, u142, u143, u144, u145, u146, u147, u148, u149, u150, u151, u152, u153, u154, u155, u156, u157, u158, u159, u160, u161, u162, u163, u164, u165, u166, u167, u168, u169, u170, u171, u172, u173, u174, u175, u176, u177, u178, u179, u180, u181, u182, u183, u184, u185, u186, u187, u188, u189, u190, u191, u192, u193, u194, u195, u196, u197, u198, u199, u200, u201, u202, u203, u204, u205, u206, u207, u208, u209, u210, u211, u212, u213, u214, u215, u216, u217, u218, u219, u220, u221, u222, u223, u224, u225, u226, u227, u228, u229, u230, u231, u232, u233, u234, u235, u236, u237, u238, u239, u240, u241, u242, u243, u244, u245, u246, u247, u248, u249, u250, u251, u252, u253, u254, u255, u256, u257, u258, u259, u260, u261, u262, x263, x264, x265, x266, x267, x268, x269, x270, x271, x272, x273, x274, x275, x276, x277, x278, x279, x280, x281, x282, x283, x284, x285, x286, x287, x288, x289, x290, x291, x292, x293, x294, x295, x296, x297, x298], defers := [] } w2)) :
    Code.wp Try.prog (part Try.f3 26) (Exit.inBlock 4 (Exit.then K1 Q1)) { tmps := #[x0, x1, x2, x3, u4, .pointer (some ⟨q, 0, none⟩), .int .i64 fr, .slice ia ls.length ic, .slice da ls.length dc, .int .i64 j, .pointer (some ⟨v, 0, none⟩), .int .i64 (-1), u12, .int .i64 X, u14, u15, u16, u17, u18, u19, u20, u21, x22, x23, x24, x25, x26, x27, x28, x29, x30, x31, x32, x33, x34, x35, x36, u37, u38, u39, u40, u41, u42, u43, u44, u45, u46, u47, u48, u49, u50, u51, u52, u53, u54, u55, u56, u57, u58, u59, u60, u61, u62, u63, u64, u65, u66, u67, u68, u69, u70, u71, u72, u73, u74, u75, u76, u77, u78, u79, u80, u81, u82, u83, u84, u85, u86, u87, u88, u89, u90, u91, u92, u93, u94, u95, u96, u97, u98, u99, u100, u101, u102, u103, u104, u105, u106, u107, u108, u109, u110, u111, u112, u113, u114, u115, u116, u117, u118, u119, u120, u121, u122, u123, u124, u125, u126, u127, u128, u129, u130, u131, u132, u133, u134, u135, u136, u137, u138, u139, u140, u141, u142, u143, u144, u145, u146, u147, u148, u149, u150, u151, u152, u153, u154, u155, u156, u157, u158, u159, u160, u161, u162, u163, u164, u165, u166, u167, u168, u169, u170, u171, u172, u173, u174, u175, u176, u177, u178, u179, u180, u181, u182, u183, u184, u185, u186, u187, u188, u189, u190, u191, u192, u193, u194, u195, u196, u197, u198, u199, u200, u201, u202, u203, u204, u205, u206, u207, u208, u209, u210, u211, u212, u213, u214, u215, u216, u217, u218, u219, u220, u221, u222, u223, u224, u225, u226, u227, u228, u229, u230, u231, u232, u233, u234, u235, u236, u237, u238, u239, u240, u241, u242, u243, u244, u245, u246, u247, u248, u249, u250, u251, u252, u253, u254, u255, u256, u257, u258, u259, u260, u261, u262, x263, x264, x265, x266, x267, x268, x269, x270, x271, x272, x273, x274, x275, x276, x277, x278, x279, x280, x281, x282, x283, x284, x285, x286, x287, x288, x289, x290, x291, x292, x293, x294, x295, x296, x297, x298], defers := [] } w := by
  conv => arg 2; whnf
  have hmd := hx.md hsay
  obtain ⟨hll1, hll2⟩ := hmd.len
  have hlen50 : ls.length ≤ 50 := by have := hcj.out; omega
  obtain ⟨o0, o1, o2, o3, o4⟩ := var5 hx.var.1
  subst hN
  obtain ⟨P, hP0⟩ : ∃ P, pg N = P := ⟨_, rfl⟩
  have hP3 : P ≤ 4 := by rw [← hP0]; exact pg_64 h1
  have hP : (min (max (N : Int) 0) 64 + 16 - 1) / 16 = (P : Int) := by rw [← hP0]; unfold pg; omega
  have hP2 : (min (max (N : Int) 0) 64 + 16 - 1).tdiv 16 = (P : Int) := by rw [Int.tdiv_eq_ediv_of_nonneg (by omega)]; exact hP
  have hPb : (min (N : Int) 64 + 16 - 1) / 16 = (P : Int) := by rw [← hP0]; unfold pg; omega
  have hPc : ((N : Int) + 16 - 1) / 16 = (P : Int) := by rw [← hP0]; unfold pg; omega
  have y1 : decide ((N : Int) < 0) = false := by simp
  have y2 : decide (64 < (N : Int)) = false := by simp; omega
  have HP : Hid (pg N = P) := hP0
  rw [hP0] at h2
  clear hP0
  have y3 : decide ((fr : Int) < (P : Int)) = false := by simp; omega
  obtain ⟨f2, hf2⟩ : ∃ f2, fr - pg N = f2 := ⟨_, rfl⟩
  have ef : (fr : Int) - (P : Int) = (f2 : Int) := by rw [← hf2, HP.out]; omega
  have hwf : IntKind.i64.wrap ((fr : Int) - (P : Int)) = (f2 : Int) := by rw [ef, IntKind.wrap_i64]; omega
  have hwN : IntKind.i64.wrap (f2 : Int) = (f2 : Int) := by rw [IntKind.wrap_i64]; omega
  have hmk := run_make_row' (P := Try.prog) 29 5 (.int .u8 0) 1 Try.underlying29 infoByte rfl .i64 .i64 N (by omega) (by omega)
  go_wp2_with fail
  refine (map_ok hx.spc B'.id hu (hsay.no _ h0) N h1 (by rw [HP.out]; exact h2) (by have := hcj.out; omega)).mono ?_
  rintro e w1 ⟨rfl, S', hs1, hc1, hS1⟩
  dsimp only
  have hx1 := hx.step hs1 hc1 hS1
  rw [hf2] at hx1
  clear hmd hx hs1 hc1 hS1 o0 o1 o2 o3 o4
  go_upto_region 36 with fail
  refine wp_region_noPanic ?_
  refine wp_region_held_drew (S := fun W' => W'.heap[v]? = some (.cells #[.int .i64 K', .int .i64 F', .int .i64 N, .int .u64 B'.id, .slice B'.a B'.n B'.c] 31 (0, 0))) (by kernel_rfl) hx1.var.1 fun hS => ?_
  refine take_to (i := 0) (v := ?_) 157 rfl rfl (by kernel_rfl) (by kernel_rfl) (by kernel_rfl) (fun _ _ _ h => h) (Or.inl ⟨by rfl, ?_⟩) hS ?_
  rotate_left
  · intro W hW
    obtain ⟨s0, s1, s2, s3, s4⟩ := var5 hW
    go_simp
    try with_reducible rfl
  simp only [List.setIfInBounds_toArray, List.set_cons_zero, List.set_cons_succ]
  refine take_to (i := 1) (v := ?_) 158 rfl rfl (by kernel_rfl) (by kernel_rfl) (by kernel_rfl) (fun _ _ _ h => h) (Or.inl ⟨by rfl, ?_⟩) hS ?_
  rotate_left
  · intro W hW
    obtain ⟨s0, s1, s2, s3, s4⟩ := var5 hW
    go_simp
    try with_reducible rfl
  simp only [List.setIfInBounds_toArray, List.set_cons_zero, List.set_cons_succ]
  refine take_to (i := 2) (v := ?_) 159 rfl rfl (by kernel_rfl) (by kernel_rfl) (by kernel_rfl) (fun _ _ _ h => h) (Or.inl ⟨by rfl, ?_⟩) hS ?_
  rotate_left
  · intro W hW
    obtain ⟨s0, s1, s2, s3, s4⟩ := var5 hW
    go_simp
    try with_reducible rfl
  simp only [List.setIfInBounds_toArray, List.set_cons_zero, List.set_cons_succ]
  refine take_to (i := 5) (v := ?_) 162 rfl rfl (by kernel_rfl) (by kernel_rfl) (by kernel_rfl) (fun _ _ _ h => h) (Or.inl ⟨by rfl, ?_⟩) hS ?_
  rotate_left
  · intro W hW
    obtain ⟨s0, s1, s2, s3, s4⟩ := var5 hW
    go_simp
    try with_reducible rfl
  simp only [List.setIfInBounds_toArray, List.set_cons_zero, List.set_cons_succ]
  refine take_to (i := 6) (v := ?_) 163 rfl rfl (by kernel_rfl) (by kernel_rfl) (by kernel_rfl) (fun _ _ _ h => h) (Or.inl ⟨by rfl, ?_⟩) hS ?_
  rotate_left
  · intro W hW
    obtain ⟨s0, s1, s2, s3, s4⟩ := var5 hW
    go_simp
    try with_reducible rfl
  simp only [List.setIfInBounds_toArray, List.set_cons_zero, List.set_cons_succ]
  refine take_to (i := 7) (v := ?_) 164 rfl rfl (by kernel_rfl) (by kernel_rfl) (by kernel_rfl) (fun _ _ _ h => h) (Or.inl ⟨by rfl, ?_⟩) hS ?_
  rotate_left
  · intro W hW
    obtain ⟨s0, s1, s2, s3, s4⟩ := var5 hW
    go_simp
    try with_reducible rfl
  simp only [List.setIfInBounds_toArray, List.set_cons_zero, List.set_cons_succ]
  refine take_to (i := 11) (v := ?_) 168 rfl rfl (by kernel_rfl) (by kernel_rfl) (by kernel_rfl) (fun _ _ _ h => h) (Or.inl ⟨by rfl, ?_⟩) hS ?_
  rotate_left
  · intro W hW
    obtain ⟨s0, s1, s2, s3, s4⟩ := var5 hW
    go_simp
    try with_reducible rfl
  simp only [List.setIfInBounds_toArray, List.set_cons_zero, List.set_cons_succ]
  refine take_to (i := 12) (v := ?_) 169 rfl rfl (by kernel_rfl) (by kernel_rfl) (by kernel_rfl) (fun _ _ _ h => h) (Or.inl ⟨by rfl, ?_⟩) hS ?_
  rotate_left
  · intro W hW
    obtain ⟨s0, s1, s2, s3, s4⟩ := var5 hW
    go_simp
    try with_reducible rfl
  simp only [List.setIfInBounds_toArray, List.set_cons_zero, List.set_cons_succ]
  refine take_to (i := 13) (v := ?_) 170 rfl rfl (by kernel_rfl) (by kernel_rfl) (by kernel_rfl) (fun _ _ _ h => h) (Or.inl ⟨by rfl, ?_⟩) hS ?_
  rotate_left
  · intro W hW
    obtain ⟨s0, s1, s2, s3, s4⟩ := var5 hW
    go_simp
    try with_reducible rfl
  simp only [List.setIfInBounds_toArray, List.set_cons_zero, List.set_cons_succ]
  replace hx1 := hx1.below (ext_drew w1)
  clear hS
  generalize w1.drew = wA at *
  refine wpAnyH_ready (rs := [3, 8]) (by kernel_rfl) (by simp) ?_
  refine AllReadyH.cons rfl (fun K hK => ?_) (AllReadyH.cons rfl (fun K hK => ?_) AllReadyH.nil)
  · go_simp
    have h3 := rowg_one EU wA 28 B'.id rfl hu
    replace hx1 := hx1.below (below_alloc wA (.cells #[.int .u64 B'.id] 28))
    refine hK.out _ _ hx1.var.1 fun _ => ?_
    clear hK K
    rw [enc_u] at h3
    generalize wA.alloc (.cells #[.int .u64 B'.id] 28) = wA3 at *
    generalize wA.heap.size = p3 at *
    refine wpAnyH_ready (rs := [4, 8]) (by kernel_rfl) (by simp) ?_
    refine AllReadyH.cons rfl (fun K hK => ?_) (AllReadyH.cons rfl (fun K hK => ?_) AllReadyH.nil)
    · refine Eq.mpr (if_pos (by kernel_rfl)) ?_
      refine op_append_h wA3 (.tmp 157) (.tmp 160) 26 rfl 28 Try.underlying26 _ _ infoU rfl W.heap.size ls.length ic ia _ rfl hx1.ids _ 1 1 [B'.id] rfl h3 (by omega) hx1.bel.size ?_
      intro ia2 ic2 wA34 ho4 hg4 hw4
      replace hx1 := hx1.ids_step ho4 hg4 hw4
      clear ho4 hg4 hw4 h3
      refine hK.out _ _ hx1.var.1 fun _ => ?_
      clear hK K
      refine wpAnyH_ready (rs := [8]) (by kernel_rfl) (by simp) ?_
      refine AllReadyH.cons rfl (fun K hK => ?_) AllReadyH.nil
      · go_simp
        have h8n : W.heap.size ≤ wA34.heap.size ∧ ¬ S' wA34.heap.size := ⟨hx1.bel.size, fun hc => by have := hx1.spc.lt _ hc; omega⟩
        have h8w : ∀ e ∈ ls, e.db ≠ wA34.heap.size := fun e he hc => by have := hx1.txs.lt e he; omega
        replace hx1 := hx1.below (below_alloc wA34 (.cells (madeCells #[.int .u8 0] N) 5))
        have h8 := World.rowIs_made wA34 (.int .u8 0) N 5
        refine hK.out _ _ hx1.var.1 fun _ => ?_
        clear hK K
        generalize wA34.alloc (.cells (madeCells #[.int .u8 0] N) 5) = wA348 at *
        generalize wA34.heap.size = p8 at *
        refine wpAnyH_ready (rs := [9]) (by kernel_rfl) (by simp) ?_
        refine AllReadyH.cons rfl (fun K hK => ?_) AllReadyH.nil
        · go_simp
          have h9c : (wA348.alloc (.cells #[.slice (some ⟨p8, 0, none⟩) N N] 29)).heap[wA348.heap.size]? = some (.cells #[.slice (some ⟨p8, 0, none⟩) N N] 29) := hnew_at _ _ _ rfl
          have h9 := rowg_one ED wA348 29 (p8, N) rfl trivial
          replace hx1 := hx1.below (below_alloc wA348 (.cells #[.slice (some ⟨p8, 0, none⟩) N N] 29))
          replace h8 := h8.of_block (((below_alloc wA348 (.cells #[.slice (some ⟨p8, 0, none⟩) N N] 29))).block _ (row_lt h8))
          refine hK.out _ _ hx1.var.1 fun _ => ?_
          clear hK K
          rw [enc_d] at h9
          generalize wA348.alloc (.cells #[.slice (some ⟨p8, 0, none⟩) N N] 29) = wA3489 at *
          generalize wA348.heap.size = p9 at *
          refine wpAnyH_ready (rs := [10]) (by kernel_rfl) (by simp) ?_
          refine AllReadyH.cons rfl (fun K hK => ?_) AllReadyH.nil
          refine Eq.mpr (if_pos (by kernel_rfl)) ?_
          refine op_append_h wA3489 (.tmp 162) (.tmp 166) 27 rfl 29 Try.underlying27 _ _ infoRow rfl W.heap.size ls.length dc da _ rfl hx1.dat _ 1 1 [(p8, N)] rfl h9 (by omega) hx1.bel.size ?_
          intro da2 dc2 wZ ho10 hg10 hw10
          replace h8 := h8.of_block (grown_same hx1.dat hg10 (rowIs_cells h8) (by decide))
          replace hx1 := hx1.dat_step ho10 hg10 hw10
          refine hK.out _ _ hx1.var.1 fun hS => ?_
          clear hK K
          refine wpAnyH_ready (rs := [14]) (by kernel_rfl) (by simp) ?_
          refine AllReadyH.cons rfl (fun K hK => ?_) AllReadyH.nil
          go_simp
          refine hK.out _ _ hx1.var.1 fun hS => ?_
          clear hK K
          refine wpAnyH_ready (rs := [15]) (by kernel_rfl) (by simp) ?_
          refine AllReadyH.cons rfl (fun K hK => ?_) AllReadyH.nil
          go_simp
          refine hK.out _ _ hx1.var.1 fun hS => ?_
          clear hK K
          refine wpAnyH_ready (rs := [16]) (by kernel_rfl) (by simp) ?_
          refine AllReadyH.cons rfl (fun K hK => ?_) AllReadyH.nil
          go_simp
          refine hK.out _ _ hx1.var.1 fun hS => ?_
          clear hK K
          refine wpAnyH_done (by kernel_rfl) ?_ _
          refine NoPanic.normal ?_
          have hm := map_done hx1 hsay h8 h8n h8w h0 h1
          clear hx1 h8 h9 ho10 hg10 hw10 hS
          go_wp2_with fail
          have hN := hnext.out f2 (c + 1) _ _ _ _ _ _ ⟨by have := hcj.out; omega, by have := hcj.out; simp; omega⟩ hm
          rw [List.length_append, List.length_singleton] at hN
          exact hN _ _ _ _ _ _ _ _ _ _ _ _ _ _ _ _ _ _ _ _ _ _ _ _ _ _ _ _ _ _ _ _ _ _ _ _ _ _ _ _ _ _ _ _ _ _ _ _ _ _ _ _ _ _ _ _ _ _ _ _ _ _ _ _ _ _ _ _ _ _ _ _ _ _ _ _ _ _ _ _ _ _ _ _ _ _ _ _ _ _ _ _ _ _ _ _ _ _ _ _ _ _ _ _ _ _ _ _ _ _ _ _ _ _ _ _ _ _ _ _ _ _ _ _ _ _ _ _ _ _ _ _ _ _ _ _ _ _ _ _ _ _ _ _ _ _ _ _ _ _ _ _ _ _ _ _ _ _ _ _ _ _ _ _ _ _ _ _ _ _ _ _ _ _ _ _ _ _ _ _ _ _ _ _ _ _ _ _ _ _ _ _ _ _ _ _ _ _ _ _ _ _ _ _ _ _ _ _ _ _ _ _ _ _ _ _ _ _ _ _ _ _ _ _ _ _ _ _ _ _ _ _ _ _ _ _ _ _ _
    · go_simp
      have h8n : W.heap.size ≤ wA3.heap.size ∧ ¬ S' wA3.heap.size := ⟨hx1.bel.size, fun hc => by have := hx1.spc.lt _ hc; omega⟩
      have h8w : ∀ e ∈ ls, e.db ≠ wA3.heap.size := fun e he hc => by have := hx1.txs.lt e he; omega
      replace hx1 := hx1.below (below_alloc wA3 (.cells (madeCells #[.int .u8 0] N) 5))
      replace h3 := h3.below (below_alloc wA3 (.cells (madeCells #[.int .u8 0] N) 5))
      have h8 := World.rowIs_made wA3 (.int .u8 0) N 5
      refine hK.out _ _ hx1.var.1 fun _ => ?_
      clear hK K
      generalize wA3.alloc (.cells (madeCells #[.int .u8 0] N) 5) = wA38 at *
      generalize wA3.heap.size = p8 at *
      refine wpAnyH_ready (rs := [4, 9]) (by kernel_rfl) (by simp) ?_
      refine AllReadyH.cons rfl (fun K hK => ?_) (AllReadyH.cons rfl (fun K hK => ?_) AllReadyH.nil)
      · refine Eq.mpr (if_pos (by kernel_rfl)) ?_
        refine op_append_h wA38 (.tmp 157) (.tmp 160) 26 rfl 28 Try.underlying26 _ _ infoU rfl W.heap.size ls.length ic ia _ rfl hx1.ids _ 1 1 [B'.id] rfl h3 (by omega) hx1.bel.size ?_
        intro ia2 ic2 wA384 ho4 hg4 hw4
        replace h8 := h8.of_block (grown_same hx1.ids hg4 (rowIs_cells h8) (by decide))
        replace hx1 := hx1.ids_step ho4 hg4 hw4
        clear ho4 hg4 hw4 h3
        refine hK.out _ _ hx1.var.1 fun _ => ?_
        clear hK K
        refine wpAnyH_ready (rs := [9]) (by kernel_rfl) (by simp) ?_
        refine AllReadyH.cons rfl (fun K hK => ?_) AllReadyH.nil
        · go_simp
          have h9c : (wA384.alloc (.cells #[.slice (some ⟨p8, 0, none⟩) N N] 29)).heap[wA384.heap.size]? = some (.cells #[.slice (some ⟨p8, 0, none⟩) N N] 29) := hnew_at _ _ _ rfl
          have h9 := rowg_one ED wA384 29 (p8, N) rfl trivial
          replace hx1 := hx1.below (below_alloc wA384 (.cells #[.slice (some ⟨p8, 0, none⟩) N N] 29))
          replace h8 := h8.of_block (((below_alloc wA384 (.cells #[.slice (some ⟨p8, 0, none⟩) N N] 29))).block _ (row_lt h8))
          refine hK.out _ _ hx1.var.1 fun _ => ?_
          clear hK K
          rw [enc_d] at h9
          generalize wA384.alloc (.cells #[.slice (some ⟨p8, 0, none⟩) N N] 29) = wA3849 at *
          generalize wA384.heap.size = p9 at *
          refine wpAnyH_ready (rs := [10]) (by kernel_rfl) (by simp) ?_
          refine AllReadyH.cons rfl (fun K hK => ?_) AllReadyH.nil
          refine Eq.mpr (if_pos (by kernel_rfl)) ?_
          refine op_append_h wA3849 (.tmp 162) (.tmp 166) 27 rfl 29 Try.underlying27 _ _ infoRow rfl W.heap.size ls.length dc da _ rfl hx1.dat _ 1 1 [(p8, N)] rfl h9 (by omega) hx1.bel.size ?_
          intro da2 dc2 wZ ho10 hg10 hw10
          replace h8 := h8.of_block (grown_same hx1.dat hg10 (rowIs_cells h8) (by decide))
          replace hx1 := hx1.dat_step ho10 hg10 hw10
          refine hK.out _ _ hx1.var.1 fun hS => ?_
          clear hK K
          refine wpAnyH_ready (rs := [14]) (by kernel_rfl) (by simp) ?_
          refine AllReadyH.cons rfl (fun K hK => ?_) AllReadyH.nil
          go_simp
          refine hK.out _ _ hx1.var.1 fun hS => ?_
          clear hK K
          refine wpAnyH_ready (rs := [15]) (by kernel_rfl) (by simp) ?_
          refine AllReadyH.cons rfl (fun K hK => ?_) AllReadyH.nil
          go_simp
          refine hK.out _ _ hx1.var.1 fun hS => ?_
          clear hK K
          refine wpAnyH_ready (rs := [16]) (by kernel_rfl) (by simp) ?_
          refine AllReadyH.cons rfl (fun K hK => ?_) AllReadyH.nil
          go_simp
          refine hK.out _ _ hx1.var.1 fun hS => ?_
          clear hK K
          refine wpAnyH_done (by kernel_rfl) ?_ _
          refine NoPanic.normal ?_
          have hm := map_done hx1 hsay h8 h8n h8w h0 h1
          clear hx1 h8 h9 ho10 hg10 hw10 hS
          go_wp2_with fail
          have hN := hnext.out f2 (c + 1) _ _ _ _ _ _ ⟨by have := hcj.out; omega, by have := hcj.out; simp; omega⟩ hm
          rw [List.length_append, List.length_singleton] at hN
          exact hN _ _ _ _ _ _ _ _ _ _ _ _ _ _ _ _ _ _ _ _ _ _ _ _ _ _ _ _ _ _ _ _ _ _ _ _ _ _ _ _ _ _ _ _ _ _ _ _ _ _ _ _ _ _ _ _ _ _ _ _ _ _ _ _ _ _ _ _ _ _ _ _ _ _ _ _ _ _ _ _ _ _ _ _ _ _ _ _ _ _ _ _ _ _ _ _ _ _ _ _ _ _ _ _ _ _ _ _ _ _ _ _ _ _ _ _ _ _ _ _ _ _ _ _ _ _ _ _ _ _ _ _ _ _ _ _ _ _ _ _ _ _ _ _ _ _ _ _ _ _ _ _ _ _ _ _ _ _ _ _ _ _ _ _ _ _ _ _ _ _ _ _ _ _ _ _ _ _ _ _ _ _ _ _ _ _ _ _ _ _ _ _ _ _ _ _ _ _ _ _ _ _ _ _ _ _ _ _ _ _ _ _ _ _ _ _ _ _ _ _ _ _ _ _ _ _ _ _ _ _ _ _ _ _ _ _ _ _ _
      · go_simp
        have h9c : (wA38.alloc (.cells #[.slice (some ⟨p8, 0, none⟩) N N] 29)).heap[wA38.heap.size]? = some (.cells #[.slice (some ⟨p8, 0, none⟩) N N] 29) := hnew_at _ _ _ rfl
        have h9 := rowg_one ED wA38 29 (p8, N) rfl trivial
        replace hx1 := hx1.below (below_alloc wA38 (.cells #[.slice (some ⟨p8, 0, none⟩) N N] 29))
        replace h3 := h3.below (below_alloc wA38 (.cells #[.slice (some ⟨p8, 0, none⟩) N N] 29))
        replace h8 := h8.of_block (((below_alloc wA38 (.cells #[.slice (some ⟨p8, 0, none⟩) N N] 29))).block _ (row_lt h8))
        refine hK.out _ _ hx1.var.1 fun _ => ?_
        clear hK K
        rw [enc_d] at h9
        generalize wA38.alloc (.cells #[.slice (some ⟨p8, 0, none⟩) N N] 29) = wA389 at *
        generalize wA38.heap.size = p9 at *
        refine wpAnyH_ready (rs := [4]) (by kernel_rfl) (by simp) ?_
        refine AllReadyH.cons rfl (fun K hK => ?_) AllReadyH.nil
        · refine Eq.mpr (if_pos (by kernel_rfl)) ?_
          refine op_append_h wA389 (.tmp 157) (.tmp 160) 26 rfl 28 Try.underlying26 _ _ infoU rfl W.heap.size ls.length ic ia _ rfl hx1.ids _ 1 1 [B'.id] rfl h3 (by omega) hx1.bel.size ?_
          intro ia2 ic2 wA3894 ho4 hg4 hw4
          replace h8 := h8.of_block (grown_same hx1.ids hg4 (rowIs_cells h8) (by decide))
          replace h9 := h9.grown hg4 (fun y hy => grown_ne hx1.ids h9 hy (by obtain rfl := Option.some.inj hy; exact ⟨_, h9c⟩))
          replace hx1 := hx1.ids_step ho4 hg4 hw4
          clear ho4 hg4 hw4 h3
          refine hK.out _ _ hx1.var.1 fun _ => ?_
          clear hK K
          refine wpAnyH_ready (rs := [10]) (by kernel_rfl) (by simp) ?_
          refine AllReadyH.cons rfl (fun K hK => ?_) AllReadyH.nil
          refine Eq.mpr (if_pos (by kernel_rfl)) ?_
          refine op_append_h wA3894 (.tmp 162) (.tmp 166) 27 rfl 29 Try.underlying27 _ _ infoRow rfl W.heap.size ls.length dc da _ rfl hx1.dat _ 1 1 [(p8, N)] rfl h9 (by omega) hx1.bel.size ?_
          intro da2 dc2 wZ ho10 hg10 hw10
          replace h8 := h8.of_block (grown_same hx1.dat hg10 (rowIs_cells h8) (by decide))
          replace hx1 := hx1.dat_step ho10 hg10 hw10
          refine hK.out _ _ hx1.var.1 fun hS => ?_
          clear hK K
          refine wpAnyH_ready (rs := [14]) (by kernel_rfl) (by simp) ?_
          refine AllReadyH.cons rfl (fun K hK => ?_) AllReadyH.nil
          go_simp
          refine hK.out _ _ hx1.var.1 fun hS => ?_
          clear hK K
          refine wpAnyH_ready (rs := [15]) (by kernel_rfl) (by simp) ?_
          refine AllReadyH.cons rfl (fun K hK => ?_) AllReadyH.nil
          go_simp
          refine hK.out _ _ hx1.var.1 fun hS => ?_
          clear hK K
          refine wpAnyH_ready (rs := [16]) (by kernel_rfl) (by simp) ?_
          refine AllReadyH.cons rfl (fun K hK => ?_) AllReadyH.nil
          go_simp
          refine hK.out _ _ hx1.var.1 fun hS => ?_
          clear hK K
          refine wpAnyH_done (by kernel_rfl) ?_ _
          refine NoPanic.normal ?_
          have hm := map_done hx1 hsay h8 h8n h8w h0 h1
          clear hx1 h8 h9 ho10 hg10 hw10 hS
          go_wp2_with fail
          have hN := hnext.out f2 (c + 1) _ _ _ _ _ _ ⟨by have := hcj.out; omega, by have := hcj.out; simp; omega⟩ hm
          rw [List.length_append, List.length_singleton] at hN
          exact hN _ _ _ _ _ _ _ _ _ _ _ _ _ _ _ _ _ _ _ _ _ _ _ _ _ _ _ _ _ _ _ _ _ _ _ _ _ _ _ _ _ _ _ _ _ _ _ _ _ _ _ _ _ _ _ _ _ _ _ _ _ _ _ _ _ _ _ _ _ _ _ _ _ _ _ _ _ _ _ _ _ _ _ _ _ _ _ _ _ _ _ _ _ _ _ _ _ _ _ _ _ _ _ _ _ _ _ _ _ _ _ _ _ _ _ _ _ _ _ _ _ _ _ _ _ _ _ _ _ _ _ _ _ _ _ _ _ _ _ _ _ _ _ _ _ _ _ _ _ _ _ _ _ _ _ _ _ _ _ _ _ _ _ _ _ _ _ _ _ _ _ _ _ _ _ _ _ _ _ _ _ _ _ _ _ _ _ _ _ _ _ _ _ _ _ _ _ _ _ _ _ _ _ _ _ _ _ _ _ _ _ _ _ _ _ _ _ _ _ _ _ _ _ _ _ _ _ _ _ _ _ _ _ _ _ _ _ _ _
  · go_simp
    have h8n : W.heap.size ≤ wA.heap.size ∧ ¬ S' wA.heap.size := ⟨hx1.bel.size, fun hc => by have := hx1.spc.lt _ hc; omega⟩
    have h8w : ∀ e ∈ ls, e.db ≠ wA.heap.size := fun e he hc => by have := hx1.txs.lt e he; omega
    replace hx1 := hx1.below (below_alloc wA (.cells (madeCells #[.int .u8 0] N) 5))
    have h8 := World.rowIs_made wA (.int .u8 0) N 5
    refine hK.out _ _ hx1.var.1 fun _ => ?_
    clear hK K
    generalize wA.alloc (.cells (madeCells #[.int .u8 0] N) 5) = wA8 at *
    generalize wA.heap.size = p8 at *
    refine wpAnyH_ready (rs := [3, 9]) (by kernel_rfl) (by simp) ?_
    refine AllReadyH.cons rfl (fun K hK => ?_) (AllReadyH.cons rfl (fun K hK => ?_) AllReadyH.nil)
    · go_simp
      have h3 := rowg_one EU wA8 28 B'.id rfl hu
      replace hx1 := hx1.below (below_alloc wA8 (.cells #[.int .u64 B'.id] 28))
      replace h8 := h8.of_block (((below_alloc wA8 (.cells #[.int .u64 B'.id] 28))).block _ (row_lt h8))
      refine hK.out _ _ hx1.var.1 fun _ => ?_
      clear hK K
      rw [enc_u] at h3
      generalize wA8.alloc (.cells #[.int .u64 B'.id] 28) = wA83 at *
      generalize wA8.heap.size = p3 at *
      refine wpAnyH_ready (rs := [4, 9]) (by kernel_rfl) (by simp) ?_
      refine AllReadyH.cons rfl (fun K hK => ?_) (AllReadyH.cons rfl (fun K hK => ?_) AllReadyH.nil)
      · refine Eq.mpr (if_pos (by kernel_rfl)) ?_
        refine op_append_h wA83 (.tmp 157) (.tmp 160) 26 rfl 28 Try.underlying26 _ _ infoU rfl W.heap.size ls.length ic ia _ rfl hx1.ids _ 1 1 [B'.id] rfl h3 (by omega) hx1.bel.size ?_
        intro ia2 ic2 wA834 ho4 hg4 hw4
        replace h8 := h8.of_block (grown_same hx1.ids hg4 (rowIs_cells h8) (by decide))
        replace hx1 := hx1.ids_step ho4 hg4 hw4
        clear ho4 hg4 hw4 h3
        refine hK.out _ _ hx1.var.1 fun _ => ?_
        clear hK K
        refine wpAnyH_ready (rs := [9]) (by kernel_rfl) (by simp) ?_
        refine AllReadyH.cons rfl (fun K hK => ?_) AllReadyH.nil
        · go_simp
          have h9c : (wA834.alloc (.cells #[.slice (some ⟨p8, 0, none⟩) N N] 29)).heap[wA834.heap.size]? = some (.cells #[.slice (some ⟨p8, 0, none⟩) N N] 29) := hnew_at _ _ _ rfl
          have h9 := rowg_one ED wA834 29 (p8, N) rfl trivial
          replace hx1 := hx1.below (below_alloc wA834 (.cells #[.slice (some ⟨p8, 0, none⟩) N N] 29))
          replace h8 := h8.of_block (((below_alloc wA834 (.cells #[.slice (some ⟨p8, 0, none⟩) N N] 29))).block _ (row_lt h8))
          refine hK.out _ _ hx1.var.1 fun _ => ?_
          clear hK K
          rw [enc_d] at h9
          generalize wA834.alloc (.cells #[.slice (some ⟨p8, 0, none⟩) N N] 29) = wA8349 at *
          generalize wA834.heap.size = p9 at *
          refine wpAnyH_ready (rs := [10]) (by kernel_rfl) (by simp) ?_
          refine AllReadyH.cons rfl (fun K hK => ?_) AllReadyH.nil
          refine Eq.mpr (if_pos (by kernel_rfl)) ?_
          refine op_append_h wA8349 (.tmp 162) (.tmp 166) 27 rfl 29 Try.underlying27 _ _ infoRow rfl W.heap.size ls.length dc da _ rfl hx1.dat _ 1 1 [(p8, N)] rfl h9 (by omega) hx1.bel.size ?_
          intro da2 dc2 wZ ho10 hg10 hw10
          replace h8 := h8.of_block (grown_same hx1.dat hg10 (rowIs_cells h8) (by decide))
          replace hx1 := hx1.dat_step ho10 hg10 hw10
          refine hK.out _ _ hx1.var.1 fun hS => ?_
          clear hK K
          refine wpAnyH_ready (rs := [14]) (by kernel_rfl) (by simp) ?_
          refine AllReadyH.cons rfl (fun K hK => ?_) AllReadyH.nil
          go_simp
          refine hK.out _ _ hx1.var.1 fun hS => ?_
          clear hK K
          refine wpAnyH_ready (rs := [15]) (by kernel_rfl) (by simp) ?_
          refine AllReadyH.cons rfl (fun K hK => ?_) AllReadyH.nil
          go_simp
          refine hK.out _ _ hx1.var.1 fun hS => ?_
          clear hK K
          refine wpAnyH_ready (rs := [16]) (by kernel_rfl) (by simp) ?_
          refine AllReadyH.cons rfl (fun K hK => ?_) AllReadyH.nil
          go_simp
          refine hK.out _ _ hx1.var.1 fun hS => ?_
          clear hK K
          refine wpAnyH_done (by kernel_rfl) ?_ _
          refine NoPanic.normal ?_
          have hm := map_done hx1 hsay h8 h8n h8w h0 h1
          clear hx1 h8 h9 ho10 hg10 hw10 hS
          go_wp2_with fail
          have hN := hnext.out f2 (c + 1) _ _ _ _ _ _ ⟨by have := hcj.out; omega, by have := hcj.out; simp; omega⟩ hm
          rw [List.length_append, List.length_singleton] at hN
          exact hN _ _ _ _ _ _ _ _ _ _ _ _ _ _ _ _ _ _ _ _ _ _ _ _ _ _ _ _ _ _ _ _ _ _ _ _ _ _ _ _ _ _ _ _ _ _ _ _ _ _ _ _ _ _ _ _ _ _ _ _ _ _ _ _ _ _ _ _ _ _ _ _ _ _ _ _ _ _ _ _ _ _ _ _ _ _ _ _ _ _ _ _ _ _ _ _ _ _ _ _ _ _ _ _ _ _ _ _ _ _ _ _ _ _ _ _ _ _ _ _ _ _ _ _ _ _ _ _ _ _ _ _ _ _ _ _ _ _ _ _ _ _ _ _ _ _ _ _ _ _ _ _ _ _ _ _ _ _ _ _ _ _ _ _ _ _ _ _ _ _ _ _ _ _ _ _ _ _ _ _ _ _ _ _ _ _ _ _ _ _ _ _ _ _ _ _ _ _ _ _ _ _ _ _ _ _ _ _ _ _ _ _ _ _ _ _ _ _ _ _ _ _ _ _ _ _ _ _ _ _ _ _ _ _ _ _ _ _ _
      · go_simp
        have h9c : (wA83.alloc (.cells #[.slice (some ⟨p8, 0, none⟩) N N] 29)).heap[wA83.heap.size]? = some (.cells #[.slice (some ⟨p8, 0, none⟩) N N] 29) := hnew_at _ _ _ rfl
        have h9 := rowg_one ED wA83 29 (p8, N) rfl trivial
        replace hx1 := hx1.below (below_alloc wA83 (.cells #[.slice (some ⟨p8, 0, none⟩) N N] 29))
        replace h3 := h3.below (below_alloc wA83 (.cells #[.slice (some ⟨p8, 0, none⟩) N N] 29))
        replace h8 := h8.of_block (((below_alloc wA83 (.cells #[.slice (some ⟨p8, 0, none⟩) N N] 29))).block _ (row_lt h8))
        refine hK.out _ _ hx1.var.1 fun _ => ?_
        clear hK K
        rw [enc_d] at h9
        generalize wA83.alloc (.cells #[.slice (some ⟨p8, 0, none⟩) N N] 29) = wA839 at *
        generalize wA83.heap.size = p9 at *
        refine wpAnyH_ready (rs := [4]) (by kernel_rfl) (by simp) ?_
        refine AllReadyH.cons rfl (fun K hK => ?_) AllReadyH.nil
        · refine Eq.mpr (if_pos (by kernel_rfl)) ?_
          refine op_append_h wA839 (.tmp 157) (.tmp 160) 26 rfl 28 Try.underlying26 _ _ infoU rfl W.heap.size ls.length ic ia _ rfl hx1.ids _ 1 1 [B'.id] rfl h3 (by omega) hx1.bel.size ?_
          intro ia2 ic2 wA8394 ho4 hg4 hw4
          replace h8 := h8.of_block (grown_same hx1.ids hg4 (rowIs_cells h8) (by decide))
          replace h9 := h9.grown hg4 (fun y hy => grown_ne hx1.ids h9 hy (by obtain rfl := Option.some.inj hy; exact ⟨_, h9c⟩))
          replace hx1 := hx1.ids_step ho4 hg4 hw4
          clear ho4 hg4 hw4 h3
          refine hK.out _ _ hx1.var.1 fun _ => ?_
          clear hK K
          refine wpAnyH_ready (rs := [10]) (by kernel_rfl) (by simp) ?_
          refine AllReadyH.cons rfl (fun K hK => ?_) AllReadyH.nil
          refine Eq.mpr (if_pos (by kernel_rfl)) ?_
          refine op_append_h wA8394 (.tmp 162) (.tmp 166) 27 rfl 29 Try.underlying27 _ _ infoRow rfl W.heap.size ls.length dc da _ rfl hx1.dat _ 1 1 [(p8, N)] rfl h9 (by omega) hx1.bel.size ?_
          intro da2 dc2 wZ ho10 hg10 hw10
          replace h8 := h8.of_block (grown_same hx1.dat hg10 (rowIs_cells h8) (by decide))
          replace hx1 := hx1.dat_step ho10 hg10 hw10
          refine hK.out _ _ hx1.var.1 fun hS => ?_
          clear hK K
          refine wpAnyH_ready (rs := [14]) (by kernel_rfl) (by simp) ?_
          refine AllReadyH.cons rfl (fun K hK => ?_) AllReadyH.nil
          go_simp
          refine hK.out _ _ hx1.var.1 fun hS => ?_
          clear hK K
          refine wpAnyH_ready (rs := [15]) (by kernel_rfl) (by simp) ?_
          refine AllReadyH.cons rfl (fun K hK => ?_) AllReadyH.nil
          go_simp
          refine hK.out _ _ hx1.var.1 fun hS => ?_
          clear hK K
          refine wpAnyH_ready (rs := [16]) (by kernel_rfl) (by simp) ?_
          refine AllReadyH.cons rfl (fun K hK => ?_) AllReadyH.nil
          go_simp
          refine hK.out _ _ hx1.var.1 fun hS => ?_
          clear hK K
          refine wpAnyH_done (by kernel_rfl) ?_ _
          refine NoPanic.normal ?_
          have hm := map_done hx1 hsay h8 h8n h8w h0 h1
          clear hx1 h8 h9 ho10 hg10 hw10 hS
          go_wp2_with fail
          have hN := hnext.out f2 (c + 1) _ _ _ _ _ _ ⟨by have := hcj.out; omega, by have := hcj.out; simp; omega⟩ hm
          rw [List.length_append, List.length_singleton] at hN
          exact hN _ _ _ _ _ _ _ _ _ _ _ _ _ _ _ _ _ _ _ _ _ _ _ _ _ _ _ _ _ _ _ _ _ _ _ _ _ _ _ _ _ _ _ _ _ _ _ _ _ _ _ _ _ _ _ _ _ _ _ _ _ _ _ _ _ _ _ _ _ _ _ _ _ _ _ _ _ _ _ _ _ _ _ _ _ _ _ _ _ _ _ _ _ _ _ _ _ _ _ _ _ _ _ _ _ _ _ _ _ _ _ _ _ _ _ _ _ _ _ _ _ _ _ _ _ _ _ _ _ _ _ _ _ _ _ _ _ _ _ _ _ _ _ _ _ _ _ _ _ _ _ _ _ _ _ _ _ _ _ _ _ _ _ _ _ _ _ _ _ _ _ _ _ _ _ _ _ _ _ _ _ _ _ _ _ _ _ _ _ _ _ _ _ _ _ _ _ _ _ _ _ _ _ _ _ _ _ _ _ _ _ _ _ _ _ _ _ _ _ _ _ _ _ _ _ _ _ _ _ _ _ _ _ _ _ _ _ _ _
    · go_simp
      have h9c : (wA8.alloc (.cells #[.slice (some ⟨p8, 0, none⟩) N N] 29)).heap[wA8.heap.size]? = some (.cells #[.slice (some ⟨p8, 0, none⟩) N N] 29) := hnew_at _ _ _ rfl
      have h9 := rowg_one ED wA8 29 (p8, N) rfl trivial
      replace hx1 := hx1.below (below_alloc wA8 (.cells #[.slice (some ⟨p8, 0, none⟩) N N] 29))
      replace h8 := h8.of_block (((below_alloc wA8 (.cells #[.slice (some ⟨p8, 0, none⟩) N N] 29))).block _ (row_lt h8))
      refine hK.out _ _ hx1.var.1 fun _ => ?_
      clear hK K
      rw [enc_d] at h9
      generalize wA8.alloc (.cells #[.slice (some ⟨p8, 0, none⟩) N N] 29) = wA89 at *
      generalize wA8.heap.size = p9 at *
      refine wpAnyH_ready (rs := [3]) (by kernel_rfl) (by simp) ?_
      refine AllReadyH.cons rfl (fun K hK => ?_) AllReadyH.nil
      · go_simp
        have h3 := rowg_one EU wA89 28 B'.id rfl hu
        replace hx1 := hx1.below (below_alloc wA89 (.cells #[.int .u64 B'.id] 28))
        replace h8 := h8.of_block (((below_alloc wA89 (.cells #[.int .u64 B'.id] 28))).block _ (row_lt h8))
        replace h9c := (((below_alloc wA89 (.cells #[.int .u64 B'.id] 28))).block _ (Array.getElem?_eq_some_iff.1 h9c).1).trans h9c
        replace h9 := h9.below (below_alloc wA89 (.cells #[.int .u64 B'.id] 28))
        refine hK.out _ _ hx1.var.1 fun _ => ?_
        clear hK K
        rw [enc_u] at h3
        generalize wA89.alloc (.cells #[.int .u64 B'.id] 28) = wA893 at *
        generalize wA89.heap.size = p3 at *
        refine wpAnyH_ready (rs := [4]) (by kernel_rfl) (by simp) ?_
        refine AllReadyH.cons rfl (fun K hK => ?_) AllReadyH.nil
        · refine Eq.mpr (if_pos (by kernel_rfl)) ?_
          refine op_append_h wA893 (.tmp 157) (.tmp 160) 26 rfl 28 Try.underlying26 _ _ infoU rfl W.heap.size ls.length ic ia _ rfl hx1.ids _ 1 1 [B'.id] rfl h3 (by omega) hx1.bel.size ?_
          intro ia2 ic2 wA8934 ho4 hg4 hw4
          replace h8 := h8.of_block (grown_same hx1.ids hg4 (rowIs_cells h8) (by decide))
          replace h9 := h9.grown hg4 (fun y hy => grown_ne hx1.ids h9 hy (by obtain rfl := Option.some.inj hy; exact ⟨_, h9c⟩))
          replace hx1 := hx1.ids_step ho4 hg4 hw4
          clear ho4 hg4 hw4 h3
          refine hK.out _ _ hx1.var.1 fun _ => ?_
          clear hK K
          refine wpAnyH_ready (rs := [10]) (by kernel_rfl) (by simp) ?_
          refine AllReadyH.cons rfl (fun K hK => ?_) AllReadyH.nil
          refine Eq.mpr (if_pos (by kernel_rfl)) ?_
          refine op_append_h wA8934 (.tmp 162) (.tmp 166) 27 rfl 29 Try.underlying27 _ _ infoRow rfl W.heap.size ls.length dc da _ rfl hx1.dat _ 1 1 [(p8, N)] rfl h9 (by omega) hx1.bel.size ?_
          intro da2 dc2 wZ ho10 hg10 hw10
          replace h8 := h8.of_block (grown_same hx1.dat hg10 (rowIs_cells h8) (by decide))
          replace hx1 := hx1.dat_step ho10 hg10 hw10
          refine hK.out _ _ hx1.var.1 fun hS => ?_
          clear hK K
          refine wpAnyH_ready (rs := [14]) (by kernel_rfl) (by simp) ?_
          refine AllReadyH.cons rfl (fun K hK => ?_) AllReadyH.nil
          go_simp
          refine hK.out _ _ hx1.var.1 fun hS => ?_
          clear hK K
          refine wpAnyH_ready (rs := [15]) (by kernel_rfl) (by simp) ?_
          refine AllReadyH.cons rfl (fun K hK => ?_) AllReadyH.nil
          go_simp
          refine hK.out _ _ hx1.var.1 fun hS => ?_
          clear hK K
          refine wpAnyH_ready (rs := [16]) (by kernel_rfl) (by simp) ?_
          refine AllReadyH.cons rfl (fun K hK => ?_) AllReadyH.nil
          go_simp
          refine hK.out _ _ hx1.var.1 fun hS => ?_
          clear hK K
          refine wpAnyH_done (by kernel_rfl) ?_ _
          refine NoPanic.normal ?_
          have hm := map_done hx1 hsay h8 h8n h8w h0 h1
          clear hx1 h8 h9 ho10 hg10 hw10 hS
          go_wp2_with fail
          have hN := hnext.out f2 (c + 1) _ _ _ _ _ _ ⟨by have := hcj.out; omega, by have := hcj.out; simp; omega⟩ hm
          rw [List.length_append, List.length_singleton] at hN
          exact hN _ _ _ _ _ _ _ _ _ _ _ _ _ _ _ _ _ _ _ _ _ _ _ _ _ _ _ _ _ _ _ _ _ _ _ _ _ _ _ _ _ _ _ _ _ _ _ _ _ _ _ _ _ _ _ _ _ _ _ _ _ _ _ _ _ _ _ _ _ _ _ _ _ _ _ _ _ _ _ _ _ _ _ _ _ _ _ _ _ _ _ _ _ _ _ _ _ _ _ _ _ _ _ _ _ _ _ _ _ _ _ _ _ _ _ _ _ _ _ _ _ _ _ _ _ _ _ _ _ _ _ _ _ _ _ _ _ _ _ _ _ _ _ _ _ _ _ _ _ _ _ _ _ _ _ _ _ _ _ _ _ _ _ _ _ _ _ _ _ _ _ _ _ _ _ _ _ _ _ _ _ _ _ _ _ _ _ _ _ _ _ _ _ _ _ _ _ _ _ _ _ _ _ _ _ _ _ _ _ _ _ _ _ _ _ _ _ _ _ _ _ _ _ _ _ _ _ _ _ _ _ _ _ _ _ _ _ _ _

end Go.Proofs.Ytdmdamidknbjoaa
