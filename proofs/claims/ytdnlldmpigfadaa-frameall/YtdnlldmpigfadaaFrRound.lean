/- One round of the law behind the two tests of the operation: whichever operation it is. -/
import Derived.Test.YtdnlldmpigfadaaFrTake
import Derived.Test.YtdnlldmpigfadaaFrFree
import Derived.Test.YtdnlldmpigfadaaFrStore
import Derived.Test.YtdnlldmpigfadaaFrLoad
namespace Go.Proofs.Ytdnlldmpigfadaa
open Go.RowKit

theorem tmod10 (k : Int) : -10 < k.tmod 10 ∧ k.tmod 10 < 10 := by
  have h := Int.natAbs_tmod k 10
  have h2 := Nat.mod_lt k.natAbs (show 0 < (10 : Int).natAbs by decide)
  have h3 : (10 : Int).natAbs = 10 := rfl
  omega
set_option maxHeartbeats 4000000 in
set_option maxRecDepth 100000 in
theorem round_rest {K1 : Act → World → Prop} {Q1 : Exit → Act → World → Prop} {W w3 : World} {p k h c j v : Nat} {A : Mm} {K' B' : Int} {x0 x1 x2 x3 x21 x22 x23 x24 x25 x26 x27 x28 x29 x30 x31 x32 x33 x34 x35 x212 x213 x214 x215 x216 x217 x218 x219 x220 x221 x222 x223 x224 x225 x226 x227 x228 x229 x230 x231 x232 x233 x234 x235 x236 x237 x238 x239 x240 x241 x242 u4 u13 u14 u15 u16 u17 u18 u19 u20 u36 u37 u38 u39 u40 u41 u42 u43 u44 u45 u46 u47 u48 u49 u50 u51 u52 u53 u54 u55 u56 u57 u58 u59 u60 u61 u62 u63 u64 u65 u66 u67 u68 u69 u70 u71 u72 u73 u74 u75 u76 u77 u78 u79 u80 u81 u82 u83 u84 u85 u86 u87 u88 u89 u90 u91 u92 u93 u94 u95 u96 u97 u98 u99 u100 u101 u102 u103 u104 u105 u106 u107 u108 u109 u110 u111 u112 u113 u114 u115 u116 u117 u118 u119 u120 u121 u122 u123 u124 u125 u126 u127 u128 u129 u130 u131 u132 u133 u134 u135 u136 u137 u138 u139 u140 u141 u142 u143 u144 u145 u146 u147 u148 u149 u150 u151 u152 u153 u154 u155 u156 u157 u158 u159 u160 u161 u162 u163 u164 u165 u166 u167 u168 u169 u170 u171 u172 u173 u174 u175 u176 u177 u178 u179 u180 u181 u182 u183 u184 u185 u186 u187 u188 u189 u190 u191 u192 u193 u194 u195 u196 u197 u198 u199 u200 u201 u202 u203 u204 u205 u206 u207 u208 u209 u210 u211 : Value} (F' O' : Int) (q q2 : Bool)
    (hq : Hid (q = true ↔ at_ A F' ≠ none)) (hq2 : Hid (q2 = true ↔ (0 ≤ O' ∧ O' < 16))) (hk5 : k ≤ 512) (hc5 : c ≤ 512) (hcn : Hid (cnt A k = c)) (hrd : Rd W w3 p k h v A A K' F' O' B') (bB : 0 ≤ B' ∧ B' < 256)
    (hnext : Hid (∀ (c2 : Nat) (A2 : Mm) (w2 : World) (z : Int), z = (c2 : Int) → Hid (cnt A2 k = c2) → St W w2 p k h A2 A2 → ∀ (u4 u10 u11 u12 u13 u14 u15 u16 u17 u18 u19 u20 u36 u37 u38 u39 u40 u41 u42 u43 u44 u45 u46 u47 u48 u49 u50 u51 u52 u53 u54 u55 u56 u57 u58 u59 u60 u61 u62 u63 u64 u65 u66 u67 u68 u69 u70 u71 u72 u73 u74 u75 u76 u77 u78 u79 u80 u81 u82 u83 u84 u85 u86 u87 u88 u89 u90 u91 u92 u93 u94 u95 u96 u97 u98 u99 u100 u101 u102 u103 u104 u105 u106 u107 u108 u109 u110 u111 u112 u113 u114 u115 u116 u117 u118 u119 u120 u121 u122 u123 u124 u125 u126 u127 u128 u129 u130 u131 u132 u133 u134 u135 u136 u137 u138 u139 u140 u141 u142 u143 u144 u145 u146 u147 u148 u149 u150 u151 u152 u153 u154 u155 u156 u157 u158 u159 u160 u161 u162 u163 u164 u165 u166 u167 u168 u169 u170 u171 u172 u173 u174 u175 u176 u177 u178 u179 u180 u181 u182 u183 u184 u185 u186 u187 u188 u189 u190 u191 u192 u193 u194 u195 u196 u197 u198 u199 u200 u201 u202 u203 u204 u205 u206 u207 u208 u209 u210 u211 : Value), K1 { tmps := #[x0, x1, x2, x3, u4, .pointer (some ⟨p, 0, none⟩), .int .i64 k, .pointer (some ⟨h, 0, none⟩), .int .i64 z, .int .i64 j, u10, u11, u12, u13, u14, u15, u16, u17, u18, u19, u20, x21, x22, x23, x24, x25, x26, x27, x28, x29, x30, x31, x32, x33, x34, x35, u36, u37, u38, u39, u40, u41, u42, u43, u44, u45, u46, u47, u48, u49, u50, u51, u52, u53, u54, u55, u56, u57, u58, u59, u60, u61, u62, u63, u64, u65, u66, u67, u68, u69, u70, u71, u72, u73, u74, u75, u76, u77, u78, u79, u80, u81, u82, u83, u84, u85, u86, u87, u88, u89, u90, u91, u92, u93, u94, u95, u96, u97, u98, u99, u100, u101, u102, u103, u104, u105, u106, u107, u108, u109, u110, u111, u112, u113, u114, u115, u116, u117, u118, u119, u120, u121, u122, u123, u124, u125, u126, u127, u128, u129, u130, u131, u132, u133, u134, u135, u136, u137, u138, u139, u140, u141, u142, u143, u144, u145, u146, u147, u148, u149, u150, u151, u152, u153, u154, u155, u156, u157, u158, u159, u160, u161, u162, u163, u164, u165, u166, u167, u168, u169, u170, u171, u172, u173, u174, u175, u176, u177, u178, u179, u180, u181, u182, u183, u184, u185, u186, u187, u188, u189, u190, u191, u192, u193, u194, u195, u196, u197, u198, u199, u200, u201, u202, u203, u204, u205, u206, u207, u208, u209, u210, u211, x212, x213, x214, x215, x216, x217, x218, x219, x220, x221, x222, x223, x224, x225, x226, x227, x228, x229, x230, x231, x232, x233, x234, x235, x236, x237, x238, x239, x240, x241, x242], defers := [] } w2)) :
    Code.wp Try.prog (part Try.f3 15) (Exit.inBlock 1 (Exit.then K1 Q1)) { tmps := #[x0, x1, x2, x3, u4, .pointer (some ⟨p, 0, none⟩), .int .i64 k, .pointer (some ⟨h, 0, none⟩), .int .i64 c, .int .i64 j, .pointer (some ⟨v, 0, none⟩), .bool q, .bool q2, u13, u14, u15, u16, u17, u18, u19, u20, x21, x22, x23, x24, x25, x26, x27, x28, x29, x30, x31, x32, x33, x34, x35, u36, u37, u38, u39, u40, u41, u42, u43, u44, u45, u46, u47, u48, u49, u50, u51, u52, u53, u54, u55, u56, u57, u58, u59, u60, u61, u62, u63, u64, u65, u66, u67, u68, u69, u70, u71, u72, u73, u74, u75, u76, u77, u78, u79, u80, u81, u82, u83, u84, u85, u86, u87, u88, u89, u90, u91, u92, u93, u94, u95, u96, u97, u98, u99, u100, u101, u102, u103, u104, u105, u106, u107, u108, u109, u110, u111, u112, u113, u114, u115, u116, u117, u118, u119, u120, u121, u122, u123, u124, u125, u126, u127, u128, u129, u130, u131, u132, u133, u134, u135, u136, u137, u138, u139, u140, u141, u142, u143, u144, u145, u146, u147, u148, u149, u150, u151, u152, u153, u154, u155, u156, u157, u158, u159, u160, u161, u162, u163, u164, u165, u166, u167, u168, u169, u170, u171, u172, u173, u174, u175, u176, u177, u178, u179, u180, u181, u182, u183, u184, u185, u186, u187, u188, u189, u190, u191, u192, u193, u194, u195, u196, u197, u198, u199, u200, u201, u202, u203, u204, u205, u206, u207, u208, u209, u210, u211, x212, x213, x214, x215, x216, x217, x218, x219, x220, x221, x222, x223, x224, x225, x226, x227, x228, x229, x230, x231, x232, x233, x234, x235, x236, x237, x238, x239, x240, x241, x242], defers := [] } w3 := by
  have t1 := tmod10 K'
  obtain ⟨t, ht⟩ : ∃ t, K'.tmod 10 = t := ⟨_, rfl⟩
  rw [ht] at t1
  have t2 := tmod10 (t + 10)
  obtain ⟨X, hX⟩ : ∃ X, (t + 10).tmod 10 = X := ⟨_, rfl⟩
  rw [hX] at t2
  cases q
  · have hA : at_ A F' = none := by
      cases hA : at_ A F' with
      | none => rfl
      | some f => exact absurd (hq.out.2 (by rw [hA]; simp)) (by simp)
    clear hq hq2
    by_cases x4 : X < 4
    · exact leaf_take_none F' O' hk5 hc5 hcn hrd bB ht t1 hX t2 (by simpa using x4) hA hnext
    · by_cases x6 : X < 6
      · exact leaf_free_none F' O' hk5 hc5 hcn hrd bB ht t1 hX t2 (by simpa using x4) (by simpa using x6) hA hnext
      · by_cases x9 : X < 9
        · exact leaf_store_none F' O' hk5 hc5 hcn hrd bB ht t1 hX t2 (by simpa using x4) (by simpa using x6) (by simpa using x9) hA hnext
        · exact leaf_load_none F' O' hk5 hc5 hcn hrd bB ht t1 hX t2 (by simpa using x4) (by simpa using x6) (by simpa using x9) hA hnext
  · obtain ⟨f, hf⟩ := Option.ne_none_iff_exists'.1 (hq.out.1 rfl)
    obtain ⟨i, rfl, hA⟩ := at_some hf
    clear hq hf
    cases q2
    · have ho : O' < 0 ∨ 16 ≤ O' := by
        by_cases h0 : 0 ≤ O' ∧ O' < 16
        · exact absurd (hq2.out.2 h0) (by simp)
        · omega
      clear hq2
      by_cases x4 : X < 4
      · exact leaf_take_range i f O' hk5 hc5 hcn hrd bB ht t1 hX t2 (by simpa using x4) hA ho hnext
      · by_cases x6 : X < 6
        · exact leaf_free_range i f O' hk5 hc5 hcn hrd bB ht t1 hX t2 (by simpa using x4) (by simpa using x6) hA ho hnext
        · by_cases x9 : X < 9
          · exact leaf_store_range i f O' hk5 hc5 hcn hrd bB ht t1 hX t2 (by simpa using x4) (by simpa using x6) (by simpa using x9) hA ho hnext
          · exact leaf_load_range i f O' hk5 hc5 hcn hrd bB ht t1 hX t2 (by simpa using x4) (by simpa using x6) (by simpa using x9) hA ho hnext
    · have ho := hq2.out.1 rfl
      obtain ⟨l, rfl⟩ := Int.eq_ofNat_of_zero_le ho.1
      have hl16 : l < 16 := by omega
      clear hq2 ho
      by_cases x4 : X < 4
      · exact leaf_take_ok i l f hk5 hc5 hcn hrd bB ht t1 hX t2 (by simpa using x4) hA hl16 hnext
      · by_cases x6 : X < 6
        · exact leaf_free_ok i l f hk5 hc5 hcn hrd bB ht t1 hX t2 (by simpa using x4) (by simpa using x6) hA hl16 hnext
        · by_cases x9 : X < 9
          · exact leaf_store_ok i l f hk5 hc5 hcn hrd bB ht t1 hX t2 (by simpa using x4) (by simpa using x6) (by simpa using x9) hA hl16 hnext
          · exact leaf_load_ok i l f hk5 hc5 hcn hrd bB ht t1 hX t2 (by simpa using x4) (by simpa using x6) (by simpa using x9) hA hl16 hnext
end Go.Proofs.Ytdnlldmpigfadaa
