/- What obj2.Take answers: a contract, for every slice of bytes. -/
import Derived.Test.YtkmpmljohjelhaaN2Part
import Derived.Test.YtkmpmljohjelhaaN2May
namespace Go.Proofs.Ytkmpmljohjelhaa
open Go.RowKit
set_option maxRecDepth 100000
set_option linter.unusedVariables false

theorem below_of_grownN {a b : World} {r : Option Nat} {B : Nat} (h : a.grownBy b r) (hB : B ≤ a.heap.size) (hr : ∀ x, r = some x → B ≤ x) : Below B a b :=
  ⟨h.os, h.tape, h.output, h.size, fun i hi => h.block i (by omega) (fun e => by have := hr i e.symm; omega)⟩
theorem ret_obN {fn : Func} {p v : Tmp} (h : fn.results = #[.cell p 32, .tmp v]) (tmps : Array Value) (w : World) (g : Nat) (x : Ob) (hp : tmps.getD p undef = .pointer (some ⟨g, 0, none⟩)) (hg : ObAt w g x) :
    (results fn tmps).run Try.prog w = .ok (.tuple #[.agg #[.int .u64 x.i, .int .i64 x.k, .int .u8 x.d, .slice x.a3 x.n3 x.m3, .slice x.a4 x.n4 x.m4, .slice x.a5 x.n5 x.m5, .slice x.a6 x.n6 x.m6, .int .i64 x.q, .int .i64 x.u, .int .i64 x.n, .slice x.a10 x.n10 x.m10, .slice x.a11 x.n11 x.m11, .slice x.a12 x.n12 x.m12], tmps.getD v undef]) w := by
  have hp' : tmps[p]?.getD undef = .pointer (some ⟨g, 0, none⟩) := by simpa using hp
  unfold ObAt at hg
  simp [results, h, hp', asAddr, run_loadVar_row w g 32 32 _ (0, 0) _ hg Try.underlying32 rfl (by kernel_rfl)]

/-- How far it has been read: what is left, and what is laid into the object. -/
def StN (bs : List Int) (z : List Int) (x : Ob) : Nat → Prop
  | 0 => z = bs ∧ x = ⟨0, 0, 0, none, 0, 0, none, 0, 0, none, 0, 0, none, 0, 0, 0, 0, 0, none, 0, 0, none, 0, 0, none, 0, 0, [], [], [], [], [], [], []⟩
  | 1 => z = bs.drop 1 ∧ x = ⟨0, 0, 0, none, 0, 0, none, 0, 0, none, 0, 0, none, 0, 0, 0, 0, 0, none, 0, 0, none, 0, 0, none, 0, 0, [], [], [], [], [], [], []⟩ ∧ ver2E bs = 0
  | 2 => z = (bs.drop 1).drop 1 ∧ x = ⟨0, bs.getD 1 0, 0, none, 0, 0, none, 0, 0, none, 0, 0, none, 0, 0, 0, 0, 0, none, 0, 0, none, 0, 0, none, 0, 0, [], [], [], [], [], [], []⟩ ∧ ver2E bs = 0 ∧ kin2E (bs.drop 1) = 0
  | 3 => z = bs.drop 10 ∧ x = ⟨num ((bs.drop 2).take 8), bs.getD 1 0, 0, none, 0, 0, none, 0, 0, none, 0, 0, none, 0, 0, 0, 0, 0, none, 0, 0, none, 0, 0, none, 0, 0, [], [], [], [], [], [], []⟩ ∧ ver2E bs = 0 ∧ kin2E (bs.drop 1) = 0 ∧ 10 ≤ bs.length
  | 4 => z = restO2 bs ∧ x.od = ⟨num ((bs.drop 2).take 8), bs.getD 1 0, 0, [], svX (bs.drop 10), svY (bs.drop 10), svZ (bs.drop 10), 0, 0, 0, [], [], []⟩ ∧ ver2E bs = 0 ∧ kin2E (bs.drop 1) = 0 ∧ 10 ≤ bs.length ∧ svE (bs.drop 10) = 0
  | _ => z = (restO2 bs).drop (owN (bs.getD 1 0) (restO2 bs)) ∧ x.od = tkO2 bs ∧ ver2E bs = 0 ∧ kin2E (bs.drop 1) = 0 ∧ 10 ≤ bs.length ∧ svE (bs.drop 10) = 0 ∧ owE (bs.getD 1 0) (restO2 bs) = 0

/-- The state at the label. -/
def TN (w W0 : World) (G g : Nat) (bs : List Int) (a' : Act) (wr : World) : Prop :=
  ∃ (p : Nat) (a : Option Addr) (n c : Nat) (z : List Int) (x : Ob), a' = { tmps := #[.slice a n c, slt a' 1, .pointer (some ⟨G, 0, none⟩), .int .i64 0, .pointer (some ⟨g, 0, none⟩), .int .i64 p, slt a' 6, slt a' 7, slt a' 8, slt a' 9, slt a' 10, slt a' 11, slt a' 12, slt a' 13, slt a' 14, slt a' 15, slt a' 16, slt a' 17, slt a' 18, slt a' 19, slt a' 20, slt a' 21, slt a' 22, slt a' 23, slt a' 24, slt a' 25, slt a' 26, slt a' 27, slt a' 28, slt a' 29, slt a' 30, slt a' 31, slt a' 32, slt a' 33, slt a' 34], defers := [] } ∧
    p ≤ 5 ∧ Row w a n c z ∧ ObAt wr g x ∧ W0.grownBy wr (some g) ∧ x.Made wr (g + 1) ∧ StN bs z x p

theorem kin2E_eq (bs : List Int) : kin2E (bs.drop 1) = if bs.length < 2 then 3 else if isK (bs.getD 1 0) = false then 2 else 0 := by
  unfold kin2E
  have e : (bs.drop 1).getD 0 0 = bs.getD 1 0 := by simp
  rw [e, List.length_drop]
  by_cases h : bs.length < 2
  · rw [if_pos h, if_pos (by omega)]
  · rw [if_neg h, if_neg (by omega)]
theorem ver2E_0 {bs : List Int} (h : ver2E bs = 0) : 1 ≤ bs.length ∧ bs.getD 0 0 = 2 := by
  unfold ver2E at h
  split at h
  · omega
  split at h
  · omega
  rename_i h1 h2
  exact ⟨by omega, by simpa using h2⟩
theorem kin2E_0 {bs : List Int} (h : kin2E (bs.drop 1) = 0) : 2 ≤ bs.length ∧ isK (bs.getD 1 0) = true := by
  rw [kin2E_eq] at h
  split at h
  · omega
  split at h
  · omega
  rename_i h1 h2
  exact ⟨by omega, by simpa using h2⟩
theorem kin2K_eq {bs : List Int} (h : kin2E (bs.drop 1) = 0) : kin2K (bs.drop 1) = bs.getD 1 0 := by
  obtain ⟨k1, k2⟩ := kin2E_0 h
  have e : (bs.drop 1).getD 0 0 = bs.getD 1 0 := by simp
  unfold kin2K
  rw [e, if_neg]
  rintro (h | h)
  · rw [List.length_drop] at h; omega
  · rw [k2] at h; exact absurd h (by simp)
theorem owN2_le (k : Int) (z : List Int) (hb : Byt z) (hk : isK k = true) (h : owE k z = 0) : owN k z ≤ z.length ∧ 1 ≤ owN k z := by
  have hk' := isK_iff.1 hk
  obtain rfl | rfl | rfl | rfl : k = 1 ∨ k = 2 ∨ k = 3 ∨ k = 4 := by omega
  · rw [owE1] at h
    split at h
    · omega
    · simp [owN]; omega
  · rw [owE2] at h
    cases ho : okRg z
    · rw [ho] at h; simp at h
    · have := (letX_back z hb ho).2
      simp [owN]; omega
  · rw [owE3] at h
    obtain ⟨K, h1, h2, h3⟩ := tsX_back z hb h
    have h4 := congrArg List.length h3
    rw [List.length_append, putB_len, List.length_take] at h4
    simp [owN, h1]; omega
  · cases ht : tkR z with
    | none => rw [owE4_none ht] at h; omega
    | some r =>
      obtain ⟨ls, p⟩ := r
      have h3 := tkR_back z hb ht
      have h4 := congrArg List.length h3.1
      rw [ringB_len, List.length_take] at h4
      rw [owN4 ht]; omega
theorem read2_tk (bs : List Int) (hk : isK (bs.getD 1 0) = true) : Od.read2 ⟨num ((bs.drop 2).take 8), bs.getD 1 0, 0, [], svX (bs.drop 10), svY (bs.drop 10), svZ (bs.drop 10), 0, 0, 0, [], [], []⟩ (restO2 bs) = tkO2 bs := by
  have hk' := isK_iff.1 hk
  unfold Od.read2 tkO2
  dsimp only
  generalize bs.getD 1 0 = k at hk'
  obtain rfl | rfl | rfl | rfl : k = 1 ∨ k = 2 ∨ k = 3 ∨ k = 4 := by omega
  all_goals rfl
theorem grown_setRowN (w : World) (g : Nat) (cs : Array Value) : w.grownBy (w.setRow g cs) (some g) :=
  ⟨rfl, rfl, rfl, by simp, fun k _ hk => setRow_other _ _ _ _ (fun e => hk (by rw [e]))⟩
section
variable {bs : List Int}
theorem tE2_a (h : ver2E bs ≠ 0) : tE2 bs = ver2E bs := by
  unfold tE2
  unfold ver2E at h ⊢
  by_cases h1 : bs.length < 1
  · rw [if_pos h1, if_pos h1]
  · rw [if_neg h1] at h ⊢
    rw [if_neg h1]
    by_cases h2 : bs.getD 0 0 ≠ 2
    · rw [if_pos h2, if_pos h2]
    · rw [if_neg h2] at h; exact absurd rfl h
theorem tE2_b (h0 : ver2E bs = 0) (h : kin2E (bs.drop 1) ≠ 0) : tE2 bs = kin2E (bs.drop 1) := by
  obtain ⟨v1, v2⟩ := ver2E_0 h0
  rw [kin2E_eq] at h ⊢
  unfold tE2
  rw [if_neg (by omega), if_neg (by rw [v2]; exact fun h => h rfl)]
  by_cases h1 : bs.length < 2
  · rw [if_pos h1, if_pos h1]
  · rw [if_neg h1] at h ⊢
    rw [if_neg h1]
    by_cases h2 : isK (bs.getD 1 0) = false
    · rw [if_pos h2, if_pos h2]
    · rw [if_neg h2] at h; exact absurd rfl h
theorem tE2_ab (h0 : ver2E bs = 0) (h1 : kin2E (bs.drop 1) = 0) : tE2 bs = if bs.length < 10 then 3 else
    if svE (bs.drop 10) ≠ 0 then svE (bs.drop 10) else if owE (bs.getD 1 0) (restO2 bs) ≠ 0 then owE (bs.getD 1 0) (restO2 bs) else
    if mayD2 (tkO2 bs) = true ∧ (restO2 bs).length ≤ owN (bs.getD 1 0) (restO2 bs) then 0 else 2 := by
  obtain ⟨v1, v2⟩ := ver2E_0 h0
  obtain ⟨k1, k2⟩ := kin2E_0 h1
  conv => lhs; unfold tE2
  rw [if_neg (by omega), if_neg (by rw [v2]; exact fun h => h rfl), if_neg (by omega), if_neg (by rw [k2]; simp)]
theorem tE2_c (h0 : ver2E bs = 0) (h1 : kin2E (bs.drop 1) = 0) (h : bs.length < 10) : tE2 bs = 3 := by rw [tE2_ab h0 h1, if_pos h]
theorem tE2_d (h0 : ver2E bs = 0) (h1 : kin2E (bs.drop 1) = 0) (h2 : 10 ≤ bs.length) (h : svE (bs.drop 10) ≠ 0) : tE2 bs = svE (bs.drop 10) := by rw [tE2_ab h0 h1, if_neg (by omega), if_pos h]
theorem tE2_e (h0 : ver2E bs = 0) (h1 : kin2E (bs.drop 1) = 0) (h2 : 10 ≤ bs.length) (h3 : svE (bs.drop 10) = 0) (h : owE (bs.getD 1 0) (restO2 bs) ≠ 0) : tE2 bs = owE (bs.getD 1 0) (restO2 bs) := by
  rw [tE2_ab h0 h1, if_neg (by omega), if_neg (by rw [h3]; exact fun h => h rfl), if_pos h]
theorem tE2_f (h0 : ver2E bs = 0) (h1 : kin2E (bs.drop 1) = 0) (h2 : 10 ≤ bs.length) (h3 : svE (bs.drop 10) = 0) (h4 : owE (bs.getD 1 0) (restO2 bs) = 0) : tE2 bs = if mayD2 (tkO2 bs) = true ∧ (restO2 bs).length ≤ owN (bs.getD 1 0) (restO2 bs) then 0 else 2 := by
  rw [tE2_ab h0 h1, if_neg (by omega), if_neg (by rw [h3]; exact fun h => h rfl), if_neg (by rw [h4]; exact fun h => h rfl)]
end

set_option maxHeartbeats 8000000 in
theorem takeN_any (a : Option Addr) (len cap : Nat) (bs : List Int) (w : World) (hr : Row w a len cap bs) (hbd : len ≤ 100000) :
    Calls Try.prog 12 #[.slice a len cap] w fun e w' => ∃ x : Ob, e = .returned (.tuple #[.agg #[.int .u64 x.i, .int .i64 x.k, .int .u8 x.d, .slice x.a3 x.n3 x.m3, .slice x.a4 x.n4 x.m4, .slice x.a5 x.n5 x.m5, .slice x.a6 x.n6 x.m6, .int .i64 x.q, .int .i64 x.u, .int .i64 x.n, .slice x.a10 x.n10 x.m10, .slice x.a11 x.n11 x.m11, .slice x.a12 x.n12 x.m12], .int .i64 (tE2 bs)]) ∧ Below w.heap.size w w' ∧ x.In w' ∧ (tE2 bs = 0 → x.od = tkO2 bs) := by
  have hlb := hr.len
  obtain ⟨W0, hW0⟩ : ∃ W0, W0 = (w.alloc (.cells #[.int .u64 0, .int .i64 0, .int .u8 0, .slice none 0 0, .slice none 0 0, .slice none 0 0, .slice none 0 0, .int .i64 0, .int .i64 0, .int .i64 0, .slice none 0 0, .slice none 0 0, .slice none 0 0] 32)).alloc (.cells #[.int .u64 0, .int .i64 0, .int .u8 0, .slice none 0 0, .slice none 0 0, .slice none 0 0, .slice none 0 0, .int .i64 0, .int .i64 0, .int .i64 0, .slice none 0 0, .slice none 0 0, .slice none 0 0] 32) := ⟨_, rfl⟩
  have hG : ObAt W0 w.heap.size zeroOb := by
    rw [hW0]; exact (ObAt.new w zeroOb).below (below_alloc _ _)
  have hg : ObAt W0 (w.heap.size + 1) zeroOb := by
    have e : (w.alloc (.cells #[.int .u64 0, .int .i64 0, .int .u8 0, .slice none 0 0, .slice none 0 0, .slice none 0 0, .slice none 0 0, .int .i64 0, .int .i64 0, .int .i64 0, .slice none 0 0, .slice none 0 0, .slice none 0 0] 32)).heap.size = w.heap.size + 1 := by simp
    rw [hW0, ← e]
    exact heap_alloc_new _ _
  have hb0 : Below w.heap.size w W0 := by rw [hW0]; exact ext_trans (below_alloc _ _) (below_alloc _ _)
  have HW0 : Hid (W0 = (w.alloc (.cells #[.int .u64 0, .int .i64 0, .int .u8 0, .slice none 0 0, .slice none 0 0, .slice none 0 0, .slice none 0 0, .int .i64 0, .int .i64 0, .int .i64 0, .slice none 0 0, .slice none 0 0, .slice none 0 0] 32)).alloc (.cells #[.int .u64 0, .int .i64 0, .int .u8 0, .slice none 0 0, .slice none 0 0, .slice none 0 0, .slice none 0 0, .int .i64 0, .int .i64 0, .int .i64 0, .slice none 0 0, .slice none 0 0, .slice none 0 0] 32)) := hW0
  clear hW0
  obtain ⟨g, hgg⟩ : ∃ g, g = w.heap.size + 1 := ⟨_, rfl⟩
  rw [← hgg] at hg
  have HGG : Hid (g = w.heap.size + 1) := hgg
  clear hgg
  have HR : Hid (Row w a len cap bs) := hr
  have HRR : Hid (∀ a' n c z wr, Row w a' n c z → W0.grownBy wr (some g) → Row wr a' n c z ∧ (0 < n → ∀ y, a' = some y → y.block ≠ g) ∧ ObAt wr w.heap.size zeroOb ∧ Below w.heap.size w wr ∧ g < wr.heap.size) := by
    intro a' n c z wr h hgr
    have hne : 0 < n → ∀ y, a' = some y → y.block ≠ g := by
      intro h0 y hy
      obtain ⟨b, off, rfl, hc⟩ := h.at h0
      have h1 := lt_of_cell (hc 0 h0)
      have := HGG.out
      obtain rfl := Option.some.inj hy
      simp at h1 ⊢
      omega
    exact ⟨rowL_grown (h.below hb0) hgr (fun h0 y hy e => hne h0 y hy (Option.some.inj e).symm), hne, hG.grown hgr (by have := HGG.out; omega), hb0.trans (below_of_grownN hgr hb0.size (fun y hy => by have := HGG.out; have := Option.some.inj hy; omega)), Nat.lt_of_lt_of_le hg.lt hgr.size⟩
  go_enter Try.func12, Try.ntmps12
  go_wp2_with fail
  refine wp_scope_once 0 (TN w W0 w.heap.size g bs) (fun a' _ => 5 - (intOf (a'.tmps.getD 5 undef)).toNat) rfl ?_ ?_
  · rintro a' wr ⟨p, a, n, c, z, x, hact, hp5, hrz, hA, hG', hM, hst⟩
    generalize slt a' = s at hact
    subst hact
    obtain ⟨hrr, hne, _, _, hgl⟩ := HRR.out _ _ _ _ _ hrz hG'
    have hnl := hrz.len
    have hzc := hrz.cap_le
    obtain rfl | rfl | rfl | rfl | rfl | rfl : p = 0 ∨ p = 1 ∨ p = 2 ∨ p = 3 ∨ p = 4 ∨ p = 5 := by omega
    · obtain ⟨rfl, rfl⟩ := hst
      have hq := part0N a n c z wr (.pointer (some ⟨g, 0, none⟩)) hrr
      by_cases hE : ver2E z = 0
      · rw [hE] at hq
        have hv := ver2E_0 hE
        have HV : Hid (ver2E z = 0) := hE
        clear hE hp5
        go_wp2_with fail
        refine hq.mono ?_
        rintro e wr' ⟨rfl, rfl⟩
        obtain ⟨b, off, rfl, _⟩ := hrz.at (by omega)
        by_cases hcm : c = 1
        · obtain rfl : n = 1 := by omega
          subst hcm
          have hz0 : z.drop 1 = [] := by rw [List.drop_eq_nil_iff]; omega
          have hrn : Row w (some ⟨b, off, none⟩) 0 0 (z.drop 1) := by rw [hz0]; exact Row.none_of _ _ _ (by omega)
          go_wp2_with fail
          go_step3
          exact ⟨rfl, ⟨1, _, _, _, _, _, rfl, by omega, hrn, hA, hG', hM, ⟨rfl, rfl, HV.out⟩⟩, by simp [intOf]⟩
        · have hrn := hrz.fromR 1 (by omega)
          go_wp2_with fail
          go_step3
          exact ⟨rfl, ⟨1, _, _, _, _, _, rfl, by omega, hrn, hA, hG', hM, ⟨rfl, rfl, HV.out⟩⟩, by simp [intOf]⟩
      · have HF : Hid (tE2 z = ver2E z) := tE2_a hE
        have HE : Hid (ver2E z ≠ 0) := hE
        generalize ver2E z = E at hq hE HF HE
        have hE' : (E != 0) = true := by simpa using hE
        clear hE hp5
        go_wp2_with fail
        refine hq.mono ?_
        rintro e wr' ⟨rfl, rfl⟩
        have hgz := (HRR.out _ _ _ _ _ hrz hG').2.2.1
        have hbw := (HRR.out _ _ _ _ _ hrz hG').2.2.2.1
        go_wp2_with (refine wpList_store_row rfl 32 (.tmp 2) (.tmp 18) rfl w.heap.size _ rfl rfl 32 _ hgz (by kernel_rfl) rfl (by kernel_rfl) ?_)
        simp only [Exit.jump]
        refine bodyPost_ret (ret_obN rfl _ _ w.heap.size zeroOb rfl (setRow_heap _ _ _ _ _ _ hgz)) rfl ?_
        exact ⟨zeroOb, by rw [HF.out]; rfl, below_setRow hbw (Nat.le_refl _) _, zeroOb_in _, fun h => absurd (HF.out.symm.trans h) HE.out⟩
    · obtain ⟨hz, rfl, hv0⟩ := hst
      have hq := part1N a n c z wr g _ hrr hA
      have HV0 : Hid (ver2E bs = 0) := hv0
      have HZ : Hid (z = bs.drop 1) := hz
      by_cases hE : kin2E (bs.drop 1) = 0
      · obtain ⟨k1, k2⟩ := kin2E_0 hE
        rw [show kin2E z = 0 by rw [hz]; exact hE, show kin2K z = bs.getD 1 0 by rw [hz]; exact kin2K_eq hE] at hq
        have HV : Hid (kin2E (bs.drop 1) = 0) := hE
        have hln : n + 1 = bs.length := by rw [hz, List.length_drop] at hnl; omega
        clear hE hp5 k2 hv0 hz
        generalize hK : bs.getD 1 0 = K at hq
        have HK : Hid (bs.getD 1 0 = K) := hK
        clear hK
        have hA2 := hA.set 1 (.int .i64 K) ⟨0, K, 0, none, 0, 0, none, 0, 0, none, 0, 0, none, 0, 0, 0, 0, 0, none, 0, 0, none, 0, 0, none, 0, 0, [], [], [], [], [], [], []⟩ rfl
        have hGs := grown_setO wr g 1 (.int .i64 K)
        have hM0 := hM.grown hGs (Nat.lt_succ_self g)
        have hM2 : Ob.Made _ (g + 1) ⟨0, K, 0, none, 0, 0, none, 0, 0, none, 0, 0, none, 0, 0, 0, 0, 0, none, 0, 0, none, 0, 0, none, 0, 0, [], [], [], [], [], [], []⟩ := ⟨hM0.r3, hM0.r4, hM0.r5, hM0.r6, hM0.r10, hM0.r11, hM0.r12⟩
        replace hG' := hG'.trans hGs
        clear hA hM hM0
        go_wp2_with fail
        refine hq.mono ?_
        rintro e wr' ⟨rfl, rfl⟩
        obtain ⟨b, off, rfl, _⟩ := hrz.at (by omega)
        by_cases hcm : c = 1
        · obtain rfl : n = 1 := by omega
          subst hcm
          have hz0 : z.drop 1 = [] := by rw [List.drop_eq_nil_iff]; omega
          have hrn : Row w (some ⟨b, off, none⟩) 0 0 (z.drop 1) := by rw [hz0]; exact Row.none_of _ _ _ (by omega)
          clear hln
          go_wp2_with fail
          go_step3
          exact ⟨rfl, ⟨2, _, _, _, _, _, rfl, by omega, hrn, hA2, hG', hM2, ⟨by rw [HZ.out], by rw [HK.out], HV0.out, HV.out⟩⟩, by simp [intOf]⟩
        · have hrn := hrz.fromR 1 (by omega)
          go_wp2_with fail
          go_step3
          exact ⟨rfl, ⟨2, _, _, _, _, _, rfl, by omega, hrn, hA2, hG', hM2, ⟨by rw [HZ.out], by rw [HK.out], HV0.out, HV.out⟩⟩, by simp [intOf]⟩
      · have HF : Hid (tE2 bs = kin2E (bs.drop 1)) := tE2_b hv0 hE
        have HE : Hid (kin2E (bs.drop 1) ≠ 0) := hE
        rw [show kin2E z = kin2E (bs.drop 1) by rw [hz]] at hq
        have hGs := grown_setO wr g 1 (.int .i64 (kin2K z))
        replace hG' := hG'.trans hGs
        generalize kin2E (bs.drop 1) = E at hq hE HF HE
        have hE' : (E != 0) = true := by simpa using hE
        clear hE hp5 hz
        go_wp2_with fail
        refine hq.mono ?_
        rintro e wr' ⟨rfl, rfl⟩
        have hgz := (HRR.out _ _ _ _ _ hrz hG').2.2.1
        have hbw := (HRR.out _ _ _ _ _ hrz hG').2.2.2.1
        go_wp2_with (refine wpList_store_row rfl 32 (.tmp 2) (.tmp 18) rfl w.heap.size _ rfl rfl 32 _ hgz (by kernel_rfl) rfl (by kernel_rfl) ?_)
        simp only [Exit.jump]
        refine bodyPost_ret (ret_obN rfl _ _ w.heap.size zeroOb rfl (setRow_heap _ _ _ _ _ _ hgz)) rfl ?_
        exact ⟨zeroOb, by rw [HF.out]; rfl, below_setRow hbw (Nat.le_refl _) _, zeroOb_in _, fun h => absurd (HF.out.symm.trans h) HE.out⟩
    · obtain ⟨hz, rfl, hv0, hk0⟩ := hst
      have hq := part2N a n c z wr g _ hrr hA
      have HV0 : Hid (ver2E bs = 0) := hv0
      have HV1 : Hid (kin2E (bs.drop 1) = 0) := hk0
      have hk1 := (kin2E_0 hk0).1
      have hz2 : z = bs.drop 2 := by rw [hz, List.drop_drop]
      have HZ : Hid (z = bs.drop 2) := hz2
      have hln : n + 2 = bs.length := by rw [hz2, List.length_drop] at hnl; omega
      by_cases hE : 10 ≤ bs.length
      · have ht := takeN_yes z 8 (by omega) (by omega)
        rw [show takeE z 8 = 0 from ht.2, show takeV z 8 = num (z.take 8) from ht.1] at hq
        have hN' : num ((bs.drop 2).take 8) = num (z.take 8) := by rw [hz2]
        have HN : Hid (num ((bs.drop 2).take 8) = num (z.take 8)) := hN'
        generalize num (z.take 8) = V at hq HN
        clear hp5 hv0 hk0 hz hz2 ht
        have hA2 := hA.set 0 (.int .u64 V) ⟨V, bs.getD 1 0, 0, none, 0, 0, none, 0, 0, none, 0, 0, none, 0, 0, 0, 0, 0, none, 0, 0, none, 0, 0, none, 0, 0, [], [], [], [], [], [], []⟩ rfl
        have hGs := grown_setO wr g 0 (.int .u64 V)
        have hM0 := hM.grown hGs (Nat.lt_succ_self g)
        have hM2 : Ob.Made _ (g + 1) ⟨V, bs.getD 1 0, 0, none, 0, 0, none, 0, 0, none, 0, 0, none, 0, 0, 0, 0, 0, none, 0, 0, none, 0, 0, none, 0, 0, [], [], [], [], [], [], []⟩ := ⟨hM0.r3, hM0.r4, hM0.r5, hM0.r6, hM0.r10, hM0.r11, hM0.r12⟩
        replace hG' := hG'.trans hGs
        clear hA hM hM0
        go_wp2_with fail
        refine hq.mono ?_
        rintro e wr' ⟨rfl, rfl⟩
        obtain ⟨b, off, rfl, _⟩ := hrz.at (by omega)
        by_cases hcm : c = 8
        · obtain rfl : n = 8 := by omega
          subst hcm
          have hz0 : z.drop 8 = [] := by rw [List.drop_eq_nil_iff]; omega
          have hrn : Row w (some ⟨b, off, none⟩) 0 0 (z.drop 8) := by rw [hz0]; exact Row.none_of _ _ _ (by omega)
          clear hln
          go_wp2_with fail
          go_step3
          exact ⟨rfl, ⟨3, _, _, _, _, _, rfl, by omega, hrn, hA2, hG', hM2, ⟨by rw [HZ.out, List.drop_drop], by rw [HN.out], HV0.out, HV1.out, hE⟩⟩, by simp [intOf]⟩
        · have hrn := hrz.fromR 8 (by omega)
          go_wp2_with fail
          go_step3
          exact ⟨rfl, ⟨3, _, _, _, _, _, rfl, by omega, hrn, hA2, hG', hM2, ⟨by rw [HZ.out, List.drop_drop], by rw [HN.out], HV0.out, HV1.out, hE⟩⟩, by simp [intOf]⟩
      · have HF : Hid (tE2 bs = 3) := tE2_c hv0 hk0 (by omega)
        have hE3 : (3 : Int) ≠ 0 := by decide
        have HE : Hid ((3 : Int) ≠ 0) := hE3
        have ht := takeN_no z 8 (by omega) (by omega)
        rw [show takeE z 8 = 3 from ht.2] at hq
        have hGs := grown_setO wr g 0 (.int .u64 (takeV z 8))
        replace hG' := hG'.trans hGs
        clear hp5 hz hz2 ht
        go_wp2_with fail
        refine hq.mono ?_
        rintro e wr' ⟨rfl, rfl⟩
        have hgz := (HRR.out _ _ _ _ _ hrz hG').2.2.1
        have hbw := (HRR.out _ _ _ _ _ hrz hG').2.2.2.1
        go_wp2_with (refine wpList_store_row rfl 32 (.tmp 2) (.tmp 18) rfl w.heap.size _ rfl rfl 32 _ hgz (by kernel_rfl) rfl (by kernel_rfl) ?_)
        simp only [Exit.jump]
        refine bodyPost_ret (ret_obN rfl _ _ w.heap.size zeroOb rfl (setRow_heap _ _ _ _ _ _ hgz)) rfl ?_
        exact ⟨zeroOb, by rw [HF.out]; rfl, below_setRow hbw (Nat.le_refl _) _, zeroOb_in _, fun h => absurd (HF.out.symm.trans h) HE.out⟩
    · obtain ⟨hz, rfl, hv0, hk0, h10⟩ := hst
      have hq := part3N a n c z wr g _ hrr (by have := congrArg List.length hz; rw [List.length_drop] at this; omega) hA
      have HV0 : Hid (ver2E bs = 0) := hv0
      have HV1 : Hid (kin2E (bs.drop 1) = 0) := hk0
      have HZ : Hid (z = bs.drop 10) := hz
      by_cases hE : svE (bs.drop 10) = 0
      · have HV2 : Hid (svE (bs.drop 10) = 0) := hE
        obtain ⟨m, m1, m2, m3, m4, m5⟩ := sv_back z hrz.byt (by rw [hz]; exact hE)
        rw [show svE z = 0 by rw [hz]; exact hE, m1] at hq
        have HM : Hid (restO2 bs = z.drop m) := by unfold restO2; rw [← hz, m1]; rfl
        have hm0 : 2 ≤ m := by
          have h1 := congrArg List.length m3
          rw [encV_len, List.length_take] at h1
          omega
        have hmn : m ≤ n := by omega
        have hmi : (m : Int) ≤ (n : Int) := by omega
        clear m1 m2 m3 m4 m5 hE hz hv0 hk0 hp5
        have HD : Hid (svX (bs.drop 10) = svX z ∧ svY (bs.drop 10) = svY z ∧ svZ (bs.drop 10) = svZ z) := by rw [← HZ.out]; exact ⟨rfl, rfl, rfl⟩
        generalize svX z = X at hq HD
        generalize svY z = Y at hq HD
        generalize svZ z = Z at hq HD
        go_wp2_with fail
        refine hq.mono ?_
        rintro e wr' ⟨⟨s1, k1, t1, X1, s2, k2, t2, Y1, s3, k3, t3, Z1⟩, w1, rfl, o1, hys, b1, rfl⟩
        have HYS : Hid (X1 = X ∧ Y1 = Y ∧ Z1 = Z) := hys
        clear hys
        have hA1 := hA.below b1
        have hM1 := hM.below b1
        have hA2 := ((hA1.set 4 (.slice s1 k1 t1) ⟨num ((bs.drop 2).take 8), bs.getD 1 0, 0, none, 0, 0, s1, k1, t1, none, 0, 0, none, 0, 0, 0, 0, 0, none, 0, 0, none, 0, 0, none, 0, 0, [], X1, [], [], [], [], []⟩ rfl).set 5 (.slice s2 k2 t2) ⟨num ((bs.drop 2).take 8), bs.getD 1 0, 0, none, 0, 0, s1, k1, t1, s2, k2, t2, none, 0, 0, 0, 0, 0, none, 0, 0, none, 0, 0, none, 0, 0, [], X1, Y1, [], [], [], []⟩ rfl).set 6 (.slice s3 k3 t3) ⟨num ((bs.drop 2).take 8), bs.getD 1 0, 0, none, 0, 0, s1, k1, t1, s2, k2, t2, s3, k3, t3, 0, 0, 0, none, 0, 0, none, 0, 0, none, 0, 0, [], X1, Y1, Z1, [], [], []⟩ rfl
        have hGs := ((grown_setO w1 g 4 (.slice s1 k1 t1)).trans (grown_setO _ g 5 (.slice s2 k2 t2))).trans (grown_setO _ g 6 (.slice s3 k3 t3))
        have hM0 := hM1.grown hGs (Nat.lt_succ_self g)
        have oo := (o1.mono (show g + 1 ≤ wr.heap.size by omega)).grown hGs (Nat.lt_succ_self g)
        have hM2 : Ob.Made _ (g + 1) ⟨num ((bs.drop 2).take 8), bs.getD 1 0, 0, none, 0, 0, s1, k1, t1, s2, k2, t2, s3, k3, t3, 0, 0, 0, none, 0, 0, none, 0, 0, none, 0, 0, [], X1, Y1, Z1, [], [], []⟩ := ⟨hM0.r3, oo.o1, oo.o2, oo.o3, hM0.r10, hM0.r11, hM0.r12⟩
        replace hG' := (hG'.trans (grown_of b1 _)).trans hGs
        clear hA hM hM0 hA1 hM1 o1 oo
        obtain ⟨b, off, rfl, _⟩ := hrz.at (by omega)
        by_cases hcm : c = m
        · have hnn : n = m := by omega
          subst hnn
          subst hcm
          have hz0 : z.drop c = [] := by rw [List.drop_eq_nil_iff]; omega
          have hrn : Row w (some ⟨b, off, none⟩) 0 0 (z.drop c) := by rw [hz0]; exact Row.none_of _ _ _ (by omega)
          go_wp2_with fail
          go_step3
          exact ⟨rfl, ⟨4, _, _, _, _, _, rfl, by omega, hrn, hA2, hG', hM2, ⟨HM.out.symm, by rw [HD.out.1, HD.out.2.1, HD.out.2.2, ← HYS.out.1, ← HYS.out.2.1, ← HYS.out.2.2]; rfl, HV0.out, HV1.out, h10, HV2.out⟩⟩, by simp [intOf]⟩
        · have hrn := hrz.fromR m (by omega)
          go_wp2_with fail
          go_step3
          exact ⟨rfl, ⟨4, _, _, _, _, _, rfl, by omega, hrn, hA2, hG', hM2, ⟨HM.out.symm, by rw [HD.out.1, HD.out.2.1, HD.out.2.2, ← HYS.out.1, ← HYS.out.2.1, ← HYS.out.2.2]; rfl, HV0.out, HV1.out, h10, HV2.out⟩⟩, by simp [intOf]⟩
      · have HF : Hid (tE2 bs = svE (bs.drop 10)) := tE2_d hv0 hk0 h10 hE
        have HE : Hid (svE (bs.drop 10) ≠ 0) := hE
        rw [show svE z = svE (bs.drop 10) by rw [hz]] at hq
        generalize svE (bs.drop 10) = E at hq hE HF HE
        have hE' : (E != 0) = true := by simpa using hE
        clear hE hp5 hz
        go_wp2_with fail
        refine hq.mono ?_
        rintro e wr' ⟨y, w1, rfl, o1, -, b1, rfl⟩
        have hGs := ((grown_setO w1 g 4 (.slice y.a1 y.n1 y.c1)).trans (grown_setO _ g 5 (.slice y.a2 y.n2 y.c2))).trans (grown_setO _ g 6 (.slice y.a3 y.n3 y.c3))
        replace hG' := (hG'.trans (grown_of b1 _)).trans hGs
        have hgz := (HRR.out _ _ _ _ _ hrz hG').2.2.1
        have hbw := (HRR.out _ _ _ _ _ hrz hG').2.2.2.1
        go_wp2_with (refine wpList_store_row rfl 32 (.tmp 2) (.tmp 18) rfl w.heap.size _ rfl rfl 32 _ hgz (by kernel_rfl) rfl (by kernel_rfl) ?_)
        simp only [Exit.jump]
        refine bodyPost_ret (ret_obN rfl _ _ w.heap.size zeroOb rfl (setRow_heap _ _ _ _ _ _ hgz)) rfl ?_
        exact ⟨zeroOb, by rw [HF.out]; rfl, below_setRow hbw (Nat.le_refl _) _, zeroOb_in _, fun h => absurd (HF.out.symm.trans h) HE.out⟩
    · obtain ⟨hz, hod, hv0, hk0, h10, hl0⟩ := hst
      have HV0 : Hid (ver2E bs = 0) := hv0
      have HV1 : Hid (kin2E (bs.drop 1) = 0) := hk0
      have HV2 : Hid (svE (bs.drop 10) = 0) := hl0
      have hxk : x.k = bs.getD 1 0 := congrArg Od.k hod
      have hkk := (kin2E_0 hk0).2
      have hzl : z.length ≤ bs.length := by rw [hz]; unfold restO2; rw [List.length_drop, List.length_drop]; omega
      have hq := part4N x (by rw [hxk]; exact hkk) a n c z wr g hrr hne (by omega) hA hM
      unfold ReadsOwn2 at hq
      by_cases hE : owE x.k z = 0
      · obtain ⟨hn1, hn2⟩ : owN x.k z ≤ z.length ∧ 1 ≤ owN x.k z := owN2_le x.k z hrz.byt (by rw [hxk]; exact hkk) hE
        have HV3 : Hid (owE (bs.getD 1 0) (restO2 bs) = 0) := by rw [← hz, ← hxk]; exact hE
        have HO : Hid (x.od.read2 z = tkO2 bs) := by
          rw [hod, hz]
          exact read2_tk bs hkk
        have hN' : owN x.k z = owN (bs.getD 1 0) (restO2 bs) := by rw [hz, hxk]
        have HN : Hid (owN x.k z = owN (bs.getD 1 0) (restO2 bs)) := hN'
        have HZ : Hid (z = restO2 bs) := hz
        rw [hE] at hq
        generalize owN x.k z = m at hq hn1 hn2 HN
        have hmn : m ≤ n := by omega
        have hmi : (m : Int) ≤ (n : Int) := by omega
        clear hE hz hod hv0 hk0 hp5 hxk hkk hl0 hn1
        go_wp2_with fail
        refine hq.mono ?_
        rintro e wr' ⟨N, rfl, hGs, hrest⟩
        obtain ⟨rfl, x', hA2, hM2, hod2⟩ := hrest (by first | rfl | trivial)
        replace hG' := hG'.trans hGs
        have HX : Hid (x'.od = tkO2 bs) := hod2.trans HO.out
        clear hod2 hrest
        obtain ⟨b, off, rfl, _⟩ := hrz.at (by omega)
        by_cases hcm : c = m
        · have hnn : n = m := by omega
          subst hnn
          subst hcm
          have hz0 : z.drop c = [] := by rw [List.drop_eq_nil_iff]; omega
          have hrn : Row w (some ⟨b, off, none⟩) 0 0 (z.drop c) := by rw [hz0]; exact Row.none_of _ _ _ (by omega)
          go_wp2_with fail
          go_step3
          exact ⟨rfl, ⟨5, _, _, _, _, _, rfl, by omega, hrn, hA2, hG', hM2, ⟨by rw [← HN.out, ← HZ.out], HX.out, HV0.out, HV1.out, h10, HV2.out, HV3.out⟩⟩, by simp [intOf]⟩
        · have hrn := hrz.fromR m (by omega)
          go_wp2_with fail
          go_step3
          exact ⟨rfl, ⟨5, _, _, _, _, _, rfl, by omega, hrn, hA2, hG', hM2, ⟨by rw [← HN.out, ← HZ.out], HX.out, HV0.out, HV1.out, h10, HV2.out, HV3.out⟩⟩, by simp [intOf]⟩
      · have HF : Hid (tE2 bs = owE x.k z) := by rw [hxk, hz]; exact tE2_e hv0 hk0 h10 hl0 (by rw [← hz, ← hxk]; exact hE)
        have HE : Hid (owE x.k z ≠ 0) := hE
        generalize owE x.k z = E at hq hE HF HE
        have hE' : (E != 0) = true := by simpa using hE
        clear hE hp5 hz
        go_wp2_with fail
        refine hq.mono ?_
        rintro e wr' ⟨N, rfl, hGs, -⟩
        replace hG' := hG'.trans hGs
        have hgz := (HRR.out _ _ _ _ _ hrz hG').2.2.1
        have hbw := (HRR.out _ _ _ _ _ hrz hG').2.2.2.1
        go_wp2_with (refine wpList_store_row rfl 32 (.tmp 2) (.tmp 18) rfl w.heap.size _ rfl rfl 32 _ hgz (by kernel_rfl) rfl (by kernel_rfl) ?_)
        simp only [Exit.jump]
        refine bodyPost_ret (ret_obN rfl _ _ w.heap.size zeroOb rfl (setRow_heap _ _ _ _ _ _ hgz)) rfl ?_
        exact ⟨zeroOb, by rw [HF.out]; rfl, below_setRow hbw (Nat.le_refl _) _, zeroOb_in _, fun h => absurd (HF.out.symm.trans h) HE.out⟩
    · obtain ⟨hz, hod, hv0, hk0, h10, hl0, ho0⟩ := hst
      have hF := tE2_f hv0 hk0 h10 hl0 ho0
      have hkk := isK_iff.1 (kin2E_0 hk0).2
      have hxi : x.i = num ((bs.drop 2).take 8) := congrArg Od.i hod
      have hxk : x.k = bs.getD 1 0 := congrArg Od.k hod
      have hxd : x.d = 0 := congrArg Od.d hod
      have hbb : Byt bs := HR.out.byt
      have hib := num_bd ((bs.drop 2).take 8) ((hbb.drop 2).take 8)
      have hl8 : ((bs.drop 2).take 8).length = 8 := by simp; omega
      rw [hl8] at hib
      have hIn : x.In wr := hM.in ⟨by rw [hxi]; exact hib.1, by rw [hxi]; exact hib.2⟩ (by rw [hxk]; omega) (by rw [hxd]; omega)
      have hzn : n ≠ 0 ↔ ¬ (restO2 bs).length ≤ owN (bs.getD 1 0) (restO2 bs) := by
        have := congrArg List.length hz
        rw [List.length_drop] at this
        omega
      have HX : Hid (x.od = tkO2 bs) := hod
      have hm := obMay2_any x wr hIn
      have hcs := hA.cells
      have hbw := (HRR.out _ _ _ _ _ hrz hG').2.2.2.1
      have hgz := (HRR.out _ _ _ _ _ hrz hG').2.2.1
      rw [hod] at hm
      clear hp5 hz hod hv0 hk0 hl0 ho0 hkk hxi hxk hxd hib hl8 hbb
      cases hmd : mayD2 (tkO2 bs)
      · have hf : tE2 bs = 2 := by rw [hF, hmd]; simp
        have HF : Hid (tE2 bs = 2) := hf
        clear hf
        rw [hmd] at hm
        clear hmd hF hzn
        obtain ⟨c0, c1, c2, c3, c4, c5, c6, c7, c8, c9, c10, c11, c12⟩ := hcs
        go_wp2_with fail
        refine hm.mono ?_
        rintro e w1 ⟨rfl, b1⟩
        have hgz1 := hgz.below b1
        go_wp2_with (refine wpList_store_row rfl 32 (.tmp 2) (.tmp 33) rfl w.heap.size _ rfl rfl 32 _ hgz1 (by kernel_rfl) rfl (by kernel_rfl) ?_)
        simp only [Exit.jump]
        refine bodyPost_ret (ret_obN rfl _ _ w.heap.size zeroOb rfl (setRow_heap _ _ _ _ _ _ hgz1)) rfl ?_
        exact ⟨zeroOb, by rw [HF.out]; rfl, below_setRow (ext_trans hbw b1) (Nat.le_refl _) _, zeroOb_in _, fun h => absurd (HF.out.symm.trans h) (by decide)⟩
      · rw [hmd] at hm
        by_cases hn0 : n = 0
        · have hle : (restO2 bs).length ≤ owN (bs.getD 1 0) (restO2 bs) := Classical.byContradiction fun h => hzn.2 h hn0
          have hf : tE2 bs = 0 := by rw [hF, if_pos ⟨hmd, hle⟩]
          have HF : Hid (tE2 bs = 0) := hf
          clear hf hle
          clear hmd hF hzn
          subst hn0
          obtain ⟨c0, c1, c2, c3, c4, c5, c6, c7, c8, c9, c10, c11, c12⟩ := hcs
          go_wp2_with fail
          refine hm.mono ?_
          rintro e w1 ⟨rfl, b1⟩
          have hgz1 := hgz.below b1
          have hA1 := hA.below b1
          have hM1 := hM.below b1
          have hIn1 := hIn.below b1
          clear c0 c1 c2 c3 c4 c5 c6 c7 c8 c9 c10 c11 c12
          obtain ⟨c0, c1, c2, c3, c4, c5, c6, c7, c8, c9, c10, c11, c12⟩ := hA1.cells
          go_wp2_with (refine wpList_store_row rfl 32 (.tmp 2) (.tmp 34) rfl w.heap.size #[.int .u64 x.i, .int .i64 x.k, .int .u8 x.d, .slice x.a3 x.n3 x.m3, .slice x.a4 x.n4 x.m4, .slice x.a5 x.n5 x.m5, .slice x.a6 x.n6 x.m6, .int .i64 x.q, .int .i64 x.u, .int .i64 x.n, .slice x.a10 x.n10 x.m10, .slice x.a11 x.n11 x.m11, .slice x.a12 x.n12 x.m12] rfl rfl 32 _ hgz1 (by kernel_rfl) rfl (by simp [Value.oneCell']) ?_)
          simp only [Exit.jump]
          have hGG : w1.grownBy (w1.setRow w.heap.size #[.int .u64 x.i, .int .i64 x.k, .int .u8 x.d, .slice x.a3 x.n3 x.m3, .slice x.a4 x.n4 x.m4, .slice x.a5 x.n5 x.m5, .slice x.a6 x.n6 x.m6, .int .i64 x.q, .int .i64 x.u, .int .i64 x.n, .slice x.a10 x.n10 x.m10, .slice x.a11 x.n11 x.m11, .slice x.a12 x.n12 x.m12]) (some w.heap.size) := grown_setRowN _ _ _
          have hM2 := hM1.grown hGG (by have := HGG.out; omega)
          refine bodyPost_ret (ret_obN rfl _ _ w.heap.size x rfl (setRow_heap _ _ _ _ _ _ hgz1)) rfl ?_
          exact ⟨x, by rw [HF.out]; rfl, below_setRow (ext_trans hbw b1) (Nat.le_refl _) _, hM2.in hIn1.bi hIn1.bk hIn1.bd, fun _ => HX.out⟩
        · have hf : tE2 bs = 2 := by rw [hF, if_neg (fun h => hzn.1 hn0 h.2)]
          have HF : Hid (tE2 bs = 2) := hf
          clear hf
          have hnp : (0 : Int) < (n : Int) := by omega
          clear hmd hF hzn
          obtain ⟨c0, c1, c2, c3, c4, c5, c6, c7, c8, c9, c10, c11, c12⟩ := hcs
          go_wp2_with fail
          refine hm.mono ?_
          rintro e w1 ⟨rfl, b1⟩
          have hgz1 := hgz.below b1
          go_wp2_with (refine wpList_store_row rfl 32 (.tmp 2) (.tmp 33) rfl w.heap.size _ rfl rfl 32 _ hgz1 (by kernel_rfl) rfl (by kernel_rfl) ?_)
          simp only [Exit.jump]
          refine bodyPost_ret (ret_obN rfl _ _ w.heap.size zeroOb rfl (setRow_heap _ _ _ _ _ _ hgz1)) rfl ?_
          exact ⟨zeroOb, by rw [HF.out]; rfl, below_setRow (ext_trans hbw b1) (Nat.le_refl _) _, zeroOb_in _, fun h => absurd (HF.out.symm.trans h) (by decide)⟩
  · intro hpass
    go_wp2_with fail
    go_step3
    rename_i hK
    refine hK _ _ ?_
    rw [← HW0.out]
    exact hpass.out _ _ ⟨0, a, len, cap, bs, zeroOb, by rw [HGG.out]; rfl, by omega, HR.out, hg, World.grownBy.refl _ _, zeroOb_made _ _, rfl, rfl⟩
end Go.Proofs.Ytkmpmljohjelhaa
