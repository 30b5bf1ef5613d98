/- What lcode.Take answers: a contract, for every slice of bytes. -/
import Derived.Test.YtldkelpngeopmaaLc
import Derived.Test.YtldkelpngeopmaaJLabOut
import Derived.Test.YtldkelpngeopmaaJBase
namespace Go.Proofs.Ytldkelpngeopmaa
open Go.RowKit
set_option maxRecDepth 100000

/-- A slot of a run. -/
def slt (a : Act) (i : Nat) : Value := a.tmps.getD i undef
/-- A call that hands back a label by a variable of its own, and two more. -/
theorem ret_lab3 {fn : Func} {p u v : Tmp} (h : fn.results = #[.cell p 25, .tmp u, .tmp v]) (tmps : Array Value) (w : World) (g : Nat) (D : Int) (so : Option Addr) (no co : Nat) (hp : tmps.getD p undef = .pointer (some ⟨g, 0, none⟩))
    (hg : w.heap[g]? = some (.cells #[.int .u8 D, .slice so no co] 25 (0, 0))) : (results fn tmps).run Try.prog w = .ok (.tuple #[.agg #[.int .u8 D, .slice so no co], tmps.getD u undef, tmps.getD v undef]) w := by
  have hp' : tmps[p]?.getD undef = .pointer (some ⟨g, 0, none⟩) := by simpa using hp
  simp [results, h, hp', asAddr, run_loadVar_row w g 25 25 _ (0, 0) _ hg Try.underlying25 rfl (by kernel_rfl)]

theorem rowL_tail {w : World} {b off n cap : Nat} {xs : List Int} (h : Row w (some ⟨b, off, none⟩) n cap xs) (k : Nat) (hk : k ≤ n) : Row w (some ⟨b, off + k, none⟩) (n - k) (cap - k) (xs.drop k) := by
  have h1 := h.sub k (n - k) (by omega)
  rwa [List.take_of_length_le (by simp [h.len])] at h1

theorem takeV_bd (xs : List Int) (hb : Byt xs) (n : Nat) (hn : n ≤ 8) : 0 ≤ takeV xs n ∧ takeV xs n < 18446744073709551616 := by
  unfold takeV
  split
  · omega
  · rename_i h
    have h1 := num_bd (xs.take n) (hb.take n)
    rw [Int.toNat_natCast]
    have h2 : (256 : Int) ^ (xs.take n).length ≤ 18446744073709551616 := by
      have hl : (xs.take n).length ≤ 8 := by simp; omega
      match (xs.take n).length, hl with
      | 0, _ => decide
      | 1, _ => decide
      | 2, _ => decide
      | 3, _ => decide
      | 4, _ => decide
      | 5, _ => decide
      | 6, _ => decide
      | 7, _ => decide
      | 8, _ => decide
    omega

set_option maxHeartbeats 400000 in
theorem takeTwo_any (a : Option Addr) (len cap m M : Nat) (hm : m ≤ 2) (hM : M = m + 1) (xs : List Int) (w : World) (hr : Row w a len cap xs) :
    Calls Try.prog 60 #[.slice a len cap, .int .i64 m] w fun e w' => e = .returned (.tuple #[.int .u64 (takeV xs M / 256), .int .u8 (takeV xs M % 256), .int .i64 (takeE xs M)]) ∧ w' = w := by
  have ht := take_any a len cap M xs w hr
  have hV := takeV_bd xs hr.byt M (by omega)
  have hp : (m : Int) + 1 = (M : Int) := by omega
  generalize takeV xs M = V at *
  generalize takeE xs M = E at *
  have hw : IntKind.u8.wrap V = V % 256 := IntKind.wrap_u8 V
  clear hM
  go_enter Try.func60, Try.ntmps60
  go_wp2_with fail
  refine ht.mono ?_
  rintro e w1 ⟨rfl, rfl⟩
  go_wp2_with fail
  go_ret3
  exact ⟨rfl, rfl⟩
theorem takeTwo_short (a : Option Addr) (len cap m : Nat) (hm : m ≤ 2) (xs : List Int) (w : World) (hr : Row w a len cap xs) (h : len < m + 1) :
    Calls Try.prog 60 #[.slice a len cap, .int .i64 m] w fun e w' => e = .returned (.tuple #[.int .u64 0, .int .u8 0, .int .i64 3]) ∧ w' = w := by
  have h1 := takeTwo_any a len cap m (m + 1) hm rfl xs w hr
  have hl := hr.len
  have e1 : takeV xs ((m + 1 : Nat) : Int) = 0 := by unfold takeV; rw [if_pos (by omega)]
  have e2 : takeE xs ((m + 1 : Nat) : Int) = 3 := by unfold takeE; rw [if_neg (by omega), if_pos (by omega)]
  rw [e1, e2] at h1
  exact h1
theorem takeTwo_in (a : Option Addr) (len cap m : Nat) (hm : m ≤ 2) (xs : List Int) (w : World) (hr : Row w a len cap xs) (h : m + 1 ≤ len) :
    Calls Try.prog 60 #[.slice a len cap, .int .i64 m] w fun e w' => e = .returned (.tuple #[.int .u64 (num (xs.take m)), .int .u8 (xs.getD m 0), .int .i64 0]) ∧ w' = w := by
  have h1 := takeTwo_any a len cap m (m + 1) hm rfl xs w hr
  have hl := hr.len
  have e1 : takeV xs ((m + 1 : Nat) : Int) = num (xs.take m) * 256 + xs.getD m 0 := by
    unfold takeV
    rw [if_neg (by omega), Int.toNat_natCast, List.take_succ_eq_append_getElem (show m < xs.length by omega), num_snoc]
    simp [List.getElem?_eq_getElem (show m < xs.length by omega)]
  have e2 : takeE xs ((m + 1 : Nat) : Int) = 0 := by unfold takeE; rw [if_neg (by omega), if_neg (by omega)]
  have hb : 0 ≤ xs.getD m 0 ∧ xs.getD m 0 < 256 := by
    rw [getD_eq (show m < xs.length by omega)]
    exact hr.byt _ (List.getElem_mem _)
  rw [e1, e2, show (num (xs.take m) * 256 + xs.getD m 0) / 256 = num (xs.take m) by omega, show (num (xs.take m) * 256 + xs.getD m 0) % 256 = xs.getD m 0 by omega] at h1
  exact h1
theorem num2L_bd (bs : List Int) (hb : Byt bs) : 0 ≤ num (bs.take 2) ∧ num (bs.take 2) < 65536 := by
  have h1 := num_bd (bs.take 2) (hb.take 2)
  have h2 : (256 : Int) ^ (bs.take 2).length ≤ 65536 := by
    have hl : (bs.take 2).length ≤ 2 := by simp; omega
    match (bs.take 2).length, hl with
    | 0, _ => decide
    | 1, _ => decide
    | 2, _ => decide
  omega
theorem bytL_get {bs : List Int} (hb : Byt bs) (i : Nat) : 0 ≤ bs.getD i 0 ∧ bs.getD i 0 < 256 := by
  by_cases h : i < bs.length
  · rw [getD_eq h]; exact hb _ (List.getElem_mem _)
  · simp [List.getElem?_eq_none (Nat.le_of_not_lt h)]
theorem tl_short {bs : List Int} (h : shortL bs = true) : tlE bs = 3 ∧ tlN bs = 0 ∧ tlD bs = 0 ∧ tlP bs = [] := by
  have h2 : okL bs = false := by rw [okL, h]; rfl
  exact ⟨by rw [tlE, h]; rfl, by rw [tlN, h2]; rfl, by rw [tlD, h2]; rfl, by rw [tlP, h2]; rfl⟩
theorem tl_full {bs : List Int} (h : shortL bs = false) (hm : mayB (bs.getD 0 0) (decP bs (cntL bs)) = true) : tlE bs = 0 ∧ tlN bs = 2 + 3 * (cntL bs : Int) ∧ tlD bs = bs.getD 0 0 ∧ tlP bs = decP bs (cntL bs) := by
  have h2 : okL bs = true := by rw [okL, h, hm]; rfl
  exact ⟨by rw [tlE, h, hm]; rfl, by rw [tlN, h2]; rfl, by rw [tlD, h2]; rfl, by rw [tlP, h2]; rfl⟩
theorem tl_form {bs : List Int} (h : shortL bs = false) (hm : mayB (bs.getD 0 0) (decP bs (cntL bs)) = false) : tlE bs = 2 ∧ tlN bs = 0 ∧ tlD bs = 0 ∧ tlP bs = [] := by
  have h2 : okL bs = false := by rw [okL, h, hm]; rfl
  exact ⟨by rw [tlE, h, hm]; rfl, by rw [tlN, h2]; rfl, by rw [tlD, h2]; rfl, by rw [tlP, h2]; rfl⟩

/-- What a call that takes a label off bytes answers. -/
def LTake (F : FuncId) : Prop := ∀ (a : Option Addr) (len cap : Nat) (bs : List Int) (w : World), Row w a len cap bs → len ≤ 1000000 →
  Calls Try.prog F #[.slice a len cap] w fun e w' => ∃ so k co, e = .returned (.tuple #[.agg #[.int .u8 (tlD bs), .slice so k co], .int .i64 (tlN bs), .int .i64 (tlE bs)]) ∧ OwnG PE 46 w' w.heap.size so k co (tlP bs) ∧ Below w.heap.size w w'

set_option maxHeartbeats 400000 in
theorem ltake_none (a : Option Addr) (len cap : Nat) (bs : List Int) (w : World) (hr : Row w a len cap bs) (h : len < 2) :
    Calls Try.prog 47 #[.slice a len cap] w fun e w' => ∃ so k co, e = .returned (.tuple #[.agg #[.int .u8 (tlD bs), .slice so k co], .int .i64 (tlN bs), .int .i64 (tlE bs)]) ∧ OwnG PE 46 w' w.heap.size so k co (tlP bs) ∧ Below w.heap.size w w' := by
  have hs : shortL bs = true := by simp only [shortL, decide_eq_true_eq, hr.len]; omega
  obtain ⟨t1, t2, t3, t4⟩ := tl_short hs
  rw [t1, t2, t3, t4]
  clear t1 t2 t3 t4 hs
  have hb0 := below_alloc w (.cells #[.int .u8 0, .slice none 0 0] 25)
  have ht := takeTwo_short a len cap 1 (by omega) bs _ (hr.below hb0) (by omega)
  go_enter Try.func47, Try.ntmps47
  go_wp2_with fail
  refine wp_scope_once 0 (fun _ _ => False) (fun _ _ => 0) rfl ?_ ?_
  · intro _ _ h; exact h.elim
  · intro _
    go_wp2_with fail
    refine ht.mono ?_
    rintro e w1 ⟨rfl, rfl⟩
    go_wp2_with fail
    simp only [Exit.jump]
    refine bodyPost_ret (ret_lab3 rfl _ _ w.heap.size 0 none 0 0 rfl (heap_new_at w _ _ rfl)) rfl ?_
    exact ⟨none, 0, 0, rfl, OwnG.of_nil _ _ _ _, hb0⟩

/-- The run at the label: so many pairs are read. -/
def TAt (W0 : World) (G : Nat) (D : Int) (a : Option Addr) (len cap c : Nat) (bs : List Int) (a' : Act) (w' : World) : Prop :=
  ∃ (i k n : Nat) (so : Option Addr) (co : Nat), a' = { tmps := #[.slice a len cap, slt a' 1, .pointer (some ⟨G, 0, none⟩), .int .i64 n, .int .i64 0, slt a' 5, .int .u8 k, slt a' 7, slt a' 8, slt a' 9, slt a' 10, slt a' 11, slt a' 12, slt a' 13, slt a' 14, slt a' 15, slt a' 16, slt a' 17, slt a' 18, slt a' 19, slt a' 20, slt a' 21, slt a' 22, slt a' 23, slt a' 24, slt a' 25, slt a' 26, slt a' 27, slt a' 28, slt a' 29, slt a' 30, slt a' 31, slt a' 32, slt a' 33, slt a' 34, slt a' 35, slt a' 36, slt a' 37, slt a' 38, slt a' 39, slt a' 40, slt a' 41, slt a' 42, slt a' 43, slt a' 44, slt a' 45, slt a' 46, slt a' 47, slt a' 48, slt a' 49, slt a' 50, slt a' 51, slt a' 52, slt a' 53, slt a' 54, slt a' 55], defers := [] } ∧
    i + k = c ∧ n = 2 + 3 * i ∧ n ≤ len ∧ OutAt W0 G D w' so i co (decP bs i)

set_option maxHeartbeats 2000000 in
theorem ltake_some (a : Option Addr) (len cap : Nat) (bs : List Int) (w : World) (hr : Row w a len cap bs) (hbd : len ≤ 1000000) (h : 2 ≤ len) :
    Calls Try.prog 47 #[.slice a len cap] w fun e w' => ∃ so k co, e = .returned (.tuple #[.agg #[.int .u8 (tlD bs), .slice so k co], .int .i64 (tlN bs), .int .i64 (tlE bs)]) ∧ OwnG PE 46 w' w.heap.size so k co (tlP bs) ∧ Below w.heap.size w w' := by
  obtain ⟨b, off, rfl, hcell⟩ := hr.at (by omega)
  have hblt : b < w.heap.size := lt_of_cell (hcell 0 (by omega))
  clear hcell
  have hl : Hid (bs.length = len) := hr.len
  have hcap := hr.cap_le
  have hb0 := below_alloc w (.cells #[.int .u8 0, .slice none 0 0] 25)
  have ht := takeTwo_in _ len cap 1 (by omega) bs _ (hr.below hb0) (by omega)
  have hD := bytL_get hr.byt 0
  have hC := bytL_get hr.byt 1
  have eD : num (bs.take 1) = bs.getD 0 0 := by
    have := hr.len
    match bs, (show 1 ≤ bs.length by omega) with
    | x :: r, _ => simp [num]
  obtain ⟨c, hc⟩ := Int.eq_ofNat_of_zero_le hC.1
  have HC : Hid (cntL bs = c) := by show (bs.getD 1 0).toNat = c; rw [hc]; rfl
  rw [eD, hc] at ht
  rw [hc] at hC
  clear eD hc
  obtain ⟨D, hDe⟩ : ∃ D, D = bs.getD 0 0 := ⟨_, rfl⟩
  rw [← hDe] at ht hD
  have HD : Hid (bs.getD 0 0 = D) := hDe.symm
  clear hDe
  have hwD : IntKind.u8.wrap D = D := by rw [IntKind.wrap_u8]; omega
  obtain ⟨W0, hW0⟩ : ∃ W0, W0 = w.alloc (.cells #[.int .u8 D, .slice none 0 0] 25) := ⟨_, rfl⟩
  have hGW : W0.heap[w.heap.size]? = some (.cells #[.int .u8 D, .slice none 0 0] 25 (0, 0)) := by rw [hW0]; exact heap_new_at w _ _ rfl
  have hbW : Below w.heap.size w W0 := by rw [hW0]; exact below_alloc _ _
  have hszW : W0.heap.size = w.heap.size + 1 := by rw [hW0]; simp
  have HW0 : Hid (W0 = w.alloc (.cells #[.int .u8 D, .slice none 0 0] 25)) := hW0
  clear hW0
  go_enter Try.func47, Try.ntmps47
  go_wp2_with fail
  refine wp_scope_once 0 (TAt W0 w.heap.size D (some ⟨b, off, none⟩) len cap c bs) (fun a' _ => (intOf (a'.tmps.getD 6 undef)).toNat) rfl ?_ ?_
  · rintro a' wr ⟨i, k, n, so, co, hact, hik, hn, hnl, hout⟩
    generalize slt a' = s at hact
    subst hact
    have HN : Hid (n = 2 + 3 * i) := hn
    clear hn ht
    have hrr : Row wr (some ⟨b, off, none⟩) len cap bs := rowL_grown (hr.below hbW) hout.gr (fun _ x hx e => by obtain rfl := Option.some.inj hx; simp at e; omega)
    have hszr := hout.gr.size
    have hbwr : Below w.heap.size w wr := hbW.trans (below_of_grown hout.gr (by omega) (fun x hx => by simp at hx; omega))
    by_cases hk : k = 0
    · subst hk
      obtain rfl : i = c := by omega
      have hm := mayL_any D hD.1 so i co _ wr hout.own.row
      have hs : shortL bs = false := by
        have := hl.out; have := HC.out; have := HN.out
        simp only [shortL, decide_eq_false_iff_not]; omega
      have c0 := hout.c0
      have c1 := hout.c1
      cases hmm : mayB D (decP bs i)
      · have TT : Hid (_ ∧ _) := tl_form hs (by rw [HC.out, HD.out]; exact hmm)
        rw [hmm] at hm
        clear hs hmm
        go_wp2_with fail
        refine hm.mono ?_
        rintro e w2 ⟨rfl, hb2⟩
        have hout2 := hout.below hb2
        have d0 := hout2.c0
        have d1 := hout2.c1
        have f0 := hout2.fz 0
        have f1 := hout2.fz 1
        have hbw2 := ext_trans hbwr hb2
        go_wp2_with fail
        simp only [Exit.jump]
        obtain ⟨e1, o1, b1⟩ := ret_store (D := 0) (so := none) (no := 0) (co := 0) hout2.hp (Nat.le_refl _) (by omega) hbw2 (OwnG.of_nil PE 46 w2 W0.heap.size)
        refine bodyPost_ret (ret_lab3 rfl _ _ w.heap.size 0 none 0 0 rfl e1) rfl ?_
        exact ⟨none, 0, 0, by rw [TT.out.1, TT.out.2.1, TT.out.2.2.1]; rfl, by rw [TT.out.2.2.2]; exact o1, b1⟩
      · have TT : Hid (_ ∧ _) := tl_full hs (by rw [HC.out, HD.out]; exact hmm)
        rw [hmm] at hm
        clear hs hmm
        go_wp2_with fail
        refine hm.mono ?_
        rintro e w2 ⟨rfl, hb2⟩
        have hout2 := hout.below hb2
        have d0 := hout2.c0
        have d1 := hout2.c1
        have f0 := hout2.fz 0
        have f1 := hout2.fz 1
        have hbw2 := ext_trans hbwr hb2
        go_wp2_with fail
        simp only [Exit.jump]
        obtain ⟨e1, o1, b1⟩ := ret_store (D := D) hout2.hp (Nat.le_refl _) (by omega) hbw2 hout2.own
        refine bodyPost_ret (ret_lab3 rfl _ _ w.heap.size D so i co rfl e1) rfl ?_
        exact ⟨so, i, co, by rw [TT.out.1, TT.out.2.1, TT.out.2.2.1, HC.out, HD.out, show 2 + 3 * (i : Int) = (n : Int) by have := HN.out; omega]; rfl, by rw [TT.out.2.2.2, HC.out]; exact o1, b1⟩
    · obtain ⟨k1, hk1⟩ : ∃ k1, k = k1 + 1 := ⟨k - 1, by omega⟩
      have hk0 : (0 : Int) < (k : Int) := by omega
      have hkk : (k : Int) - 1 = (k1 : Int) := by omega
      have hkw : IntKind.u8.wrap (k1 : Int) = (k1 : Int) := by rw [IntKind.wrap_u8]; omega
      have HK1 : Hid (k = k1 + 1) := hk1
      clear hk1
      have hnl' : (n : Int) ≤ (len : Int) := by omega
      by_cases hsh : len < n + 3
      · have hs : shortL bs = true := by
          have := hl.out; have := HC.out; have := HN.out
          simp only [shortL, decide_eq_true_eq]; omega
        have TT : Hid (_ ∧ _) := tl_short hs
        clear hs
        have d0 := hout.c0
        have d1 := hout.c1
        have f0 := hout.fz 0
        have f1 := hout.fz 1
        by_cases hne : cap = n
        · obtain rfl : len = n := by omega
          subst hne
          have ht2 := takeTwo_short (some ⟨b, off, none⟩) 0 0 2 (by omega) [] wr (Row.none_of _ _ _ (by omega)) (by omega)
          go_wp2_with fail
          refine ht2.mono ?_
          rintro e w2 ⟨rfl, rfl⟩
          go_wp2_with fail
          simp only [Exit.jump]
          obtain ⟨e1, o1, b1⟩ := ret_store (D := 0) (so := none) (no := 0) (co := 0) hout.hp (Nat.le_refl _) (by omega) hbwr (OwnG.of_nil PE 46 _ W0.heap.size)
          refine bodyPost_ret (ret_lab3 rfl _ _ w.heap.size 0 none 0 0 rfl e1) rfl ?_
          exact ⟨none, 0, 0, by rw [TT.out.1, TT.out.2.1, TT.out.2.2.1]; rfl, by rw [TT.out.2.2.2]; exact o1, b1⟩
        · have ht2 := takeTwo_short _ _ _ 2 (by omega) _ _ (rowL_tail hrr n hnl) (by omega)
          go_wp2_with fail
          refine ht2.mono ?_
          rintro e w2 ⟨rfl, rfl⟩
          go_wp2_with fail
          simp only [Exit.jump]
          obtain ⟨e1, o1, b1⟩ := ret_store (D := 0) (so := none) (no := 0) (co := 0) hout.hp (Nat.le_refl _) (by omega) hbwr (OwnG.of_nil PE 46 _ W0.heap.size)
          refine bodyPost_ret (ret_lab3 rfl _ _ w.heap.size 0 none 0 0 rfl e1) rfl ?_
          exact ⟨none, 0, 0, by rw [TT.out.1, TT.out.2.1, TT.out.2.2.1]; rfl, by rw [TT.out.2.2.2]; exact o1, b1⟩
      · have hne : ¬ cap = n := by omega
        have hrow := rowL_tail hrr n hnl
        have ht2 := takeTwo_in _ _ _ 2 (by omega) _ _ hrow (by omega)
        have hX := num2L_bd _ hrow.byt
        have hY := bytL_get hrow.byt 2
        have HS : Hid (decP bs (i + 1) = decP bs i ++ [(num ((bs.drop n).take 2), (bs.drop n).getD 2 0)]) := by
          have := decP_succ bs i
          rw [← HN.out] at this
          exact this
        generalize num ((bs.drop n).take 2) = X at hX ht2 HS
        generalize (bs.drop n).getD 2 0 = Y at hY ht2 HS
        have hu : IntKind.u16.wrap X = X := by rw [IntKind.wrap_u16]; omega
        have c1 := hout.c1
        obtain ⟨n3, hn3⟩ : ∃ n3, n3 = n + 3 := ⟨_, rfl⟩
        have hnn : (n : Int) + 3 = (n3 : Int) := by omega
        have HN3 : Hid (n3 = n + 3) := hn3
        clear hn3 hrow
        have h1 := below_alloc wr (.cells #[.int .u16 X, .int .u8 Y] 46)
        have hout1 := hout.below h1
        have hil : i ≤ 1000000 := by have := HN.out; omega
        go_wp2_with fail
        refine ht2.mono ?_
        rintro e w2 ⟨rfl, rfl⟩
        go_wp2_with (at_builtin; refine wp_append_g (E := PE) _ rfl (.tmp 38) (.tmp 43) 23 rfl 46 Try.underlying23 (.agg #[.int .u16 0, .int .u8 0]) 4 info29 rfl (by omega) W0.heap.size i co so _ rfl hout1.own (some ⟨w2.heap.size, 0, none⟩) 1 1 [(X, Y)] rfl (owng_lit PE _ 46 [(X, Y)] _ rfl 1 rfl (by omega) (Enc.Ok.one ⟨hX, hY⟩) _ w2.heap.size (by simp) (by omega)).row (by omega) (by simp; omega) w2 (h1.mono hszr) ?_; intro so' co' w3 hown3 hbel3 hgr3; obtain ⟨_, _, m1, m2, m3⟩ := hout1.mid hgr3)
        go_step3
        refine ⟨rfl, ⟨i + 1, k1, n3, so', co', rfl, ?_, ?_, ?_, ?_⟩, ?_⟩
        · have := HK1.out; omega
        · have := HN.out; have := HN3.out; omega
        · have := HN3.out; omega
        · rw [HS.out]
          exact hout1.store hgr3 hown3
        · have := HK1.out; simp [intOf]; omega
  · intro hpass
    go_wp2_with fail
    refine ht.mono ?_
    rintro e w1 ⟨rfl, rfl⟩
    go_wp2_with fail
    go_step3
    rename_i hK
    refine hK _ _ ?_
    rw [← HW0.out]
    exact hpass.out _ _ ⟨0, c, 2, none, 0, rfl, by omega, by omega, by omega, OutAt.init hGW⟩

theorem ltake_any : LTake 47 := fun a len cap bs w hr hbd => by
  by_cases h : len < 2
  · exact ltake_none a len cap bs w hr h
  · exact ltake_some a len cap bs w hr hbd (by omega)
end Go.Proofs.Ytldkelpngeopmaa
