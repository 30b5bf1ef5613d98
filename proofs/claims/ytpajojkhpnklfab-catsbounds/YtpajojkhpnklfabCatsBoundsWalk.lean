/- CatsBounds walked: it answers true, and turns nothing that was there. -/
import Derived.Test.YtpajojkhpnklfabCatsBegun
import Derived.Test.YtpajojkhpnklfabDec
import Derived.Test.YtpajojkhpnklfabRegion
namespace Go.Proofs.Ytpajojkhpnklfab
open Go.RowKit

section
variable {P : Program} {o : Oper} {a : Act} {Q : Exit → Act → World → Prop}
/-- 'append(s, x...)' of bytes, as one operation. -/
theorem op_append_bytes {K : Act → World → Prop} (w : World) (s x : Operand) (t : TypeId) (ho : o.op = .call { callee := .builtin .append, args := #[s, x], argTypes := #[t, t] })
    (e : TypeId) (ht : P.underlying t = some (.slice e)) (hinfo : (P.info? e).map (fun i => (i.zero, i.size, i.bytes)) = some (some (.int .u8 0), 1, 1))
    (B g n cap : Nat) (ys : List Int) (hs : a.eval s = .slice (some ⟨g, 0, none⟩) n cap) (hown : Own e w B g n cap ys)
    (ad : Addr) (m c : Nat) (xs : List Int) (hx : a.eval x = .slice (some ad) m c) (hrow : Row w (some ad) m c xs) (hbd : n + m ≤ 140737488355328) (hB : B ≤ w.heap.size)
    (w0 : World) (hbel : Below B w0 w)
    (h : ∀ g' cap' w', Own e w' B g' (n + m) cap' (ys ++ xs) → Below B w0 w' → K (a.put o.dst (.slice (some ⟨g', 0, none⟩) (n + m) cap')) w') : Oper.wp P o a w K Q := by
  obtain ⟨i, hi, hz0, hz1, hz2⟩ := info_parts hinfo
  have hbn : ∀ k, (Value.slice (some ⟨g, 0, none⟩) n cap).ownBlock = some k → B ≤ k := by
    intro k hk; obtain rfl : g = k := by simpa [Value.ownBlock] using hk
    exact hown.lt.1
  refine wp_append_own w s x t ho B e i (.int .u8 0) 1 1 ht hi hz0 hz1 hz2 rfl (by decide) _ n _ hs hown.2.2 ad m c (xs.map (Value.int .u8)) hx (by simp [hrow.1]) hrow.news (ints_one xs) (by unfold maxLen; omega) (by omega) hB ?_
  intro v' w' h1 h2 h3
  have hne : v' ≠ .slice none 0 0 := fun hv => by have := h3.1 hv; simp at this
  rcases h1.2 with ⟨hv, _⟩ | ⟨g', cap', cur, hv, r⟩
  · exact absurd hv hne
  · subst hv
    exact h g' cap' w' ⟨by simp [hown.1, hrow.1], hown.2.1.append hrow.byt, by simpa using h1⟩ (hbel.grown h2 hB hbn)
end

theorem list_ext2 {xs ys : List Int} (hl : xs.length = ys.length) (h : ∀ j, j < xs.length → xs.getD j 0 = ys.getD j 0) : xs = ys := by
  apply List.ext_getElem hl
  intro i h1 h2
  have := h i h1
  rwa [getD_eq h1, getD_eq h2] at this
/-- f, f + 1, .. : so many. -/
def upl (f i : Nat) : List Int := (List.range i).map fun j => ((f + j : Nat) : Int)
theorem upl_len (f i : Nat) : (upl f i).length = i := by simp [upl]
theorem upl_succ (f i : Nat) : upl f (i + 1) = upl f i ++ [((f + i : Nat) : Int)] := by simp [upl, List.range_succ]
theorem upl_get (f i j : Nat) (h : j < i) : (upl f i).getD j 0 = ((f + j : Nat) : Int) := by
  rw [getD_eq (by rw [upl_len]; exact h)]; simp [upl]
theorem upl_srt (f i : Nat) : Srt (upl f i) := Srt.of_steps fun j hj => by
  rw [upl_len] at hj
  rw [upl_get _ _ _ hj, upl_get _ _ _ (by omega)]; omega
theorem upl_wrd (f i : Nat) (h : f + i ≤ 65536) : Wrd (upl f i) := by
  intro x hx
  obtain ⟨j, hj, rfl⟩ := mem_getD.1 hx
  rw [upl_len] at hj
  rw [upl_get _ _ _ hj]; omega
theorem upl_take (f k i : Nat) (h : i ≤ k) : (upl f k).take i = upl f i := by
  apply list_ext2 (by simp [upl_len]; omega)
  intro j hj
  simp [upl_len] at hj
  rw [upl_get _ _ _ (by omega), List.getD_eq_getElem?_getD, List.getElem?_take_of_lt (by omega), ← List.getD_eq_getElem?_getD, upl_get _ _ _ (by omega)]
theorem two_bytes (x : Nat) (h : x < 65536) : [((x : Int) / 256) , (x : Int) % 256] = putB x 2 := by
  simp only [putB, Int.pow_zero, Int.ediv_one, show (256 : Int) ^ 1 = 256 from rfl]
  rw [show ((x : Int) / 256) % 256 = (x : Int) / 256 by omega]

set_option maxHeartbeats 4000000 in
theorem catsBounds_walk (N F : Int) (hN : 0 ≤ N ∧ N ≤ 255) (hF : 0 ≤ F ∧ F ≤ 65535) (w : World) :
    Calls Try.prog 3 #[.int .u8 N, .int .u16 F] w fun e w' => e = .returned (.bool true) ∧ Below w.heap.size w w' := by
  obtain ⟨k, hk⟩ : ∃ k : Nat, N % 24 = (k : Int) := ⟨(N % 24).toNat, by omega⟩
  obtain ⟨f, hf⟩ : ∃ f : Nat, F % 60000 = (f : Int) := ⟨(F % 60000).toNat, by omega⟩
  have hk' : N.tmod 24 = (k : Int) := by rw [Int.tmod_eq_emod_of_nonneg hN.1]; exact hk
  have hf' : F.tmod 60000 = (f : Int) := by rw [Int.tmod_eq_emod_of_nonneg hF.1]; exact hf
  have hk24 : k < 24 := by omega
  have hf6 : f < 60000 := by omega
  clear hN hF
  go_enter Try.func3, Try.ntmps3
  go_wp2_with fail
  refine (begun_true _).mono ?_
  rintro e w1 ⟨rfl, b1⟩
  go_wp2_with fail
  go_loopw [6, 7] (fun o iv wr => ∃ (i : Nat) (so : Option Addr) (co : Nat), i ≤ k ∧ iv = .int .i64 i ∧ o = .slice so i co ∧ OwnW 22 wr w.heap.size so i co (upl f i) ∧ Below w.heap.size w wr) (fun _ iv _ => k - (intOf iv).toNat)
  case atStart => exact ⟨0, none, 0, by omega, rfl, rfl, OwnW.of_nil _ _ _, b1⟩
  case round =>
    clear b1
    obtain ⟨i, so, co, hi, rfl, rfl, ol, b1⟩ := hrel
    have hsz := b1.size
    by_cases hlt : i < k
    · have p1 : (i : Int) < (k : Int) := by omega
      have e1 : IntKind.u16.wrap (i : Int) = (i : Int) := by rw [IntKind.wrap_u16]; omega
      obtain ⟨x, hx⟩ : ∃ x : Nat, x = f + i := ⟨_, rfl⟩
      have e2 : (f : Int) + (i : Int) = (x : Int) := by omega
      have e3 : IntKind.u16.wrap (x : Int) = (x : Int) := by rw [IntKind.wrap_u16]; omega
      have hxb : x < 65536 := by omega
      have HX : Hid (x = f + i) := hx
      clear hx
      go_wp2_with (at_builtin; refine wp_append_words _ rfl (.tmp 23) (.tmp 29) 24 rfl 22 Try.underlying24 info27 w.heap.size i co so _ rfl (ol.below (below_alloc _ _)) _ 1 1 [(x : Int)] rfl (roww_lit wr 22 [_] 1 rfl (by omega) (Wrd.one (by omega))) (by omega) (by simp; omega) w (b1.alloc hsz _) ?_; intro so' co' w2 o2 b2)
      go_roundw
      case rel => exact ⟨i + 1, so', co', by omega, by go_num, rfl, by rw [upl_succ, ← HX.out]; exact o2, b2⟩
      case measure => simp [intOf]; omega
    · obtain rfl : i = k := by omega
      have e1 : IntKind.u8.wrap (i : Int) = (i : Int) := by rw [IntKind.wrap_u8]; omega
      have oln := ol.1
      go_wp2_with fail
      obtain ⟨wo, rfl⟩ : ∃ x, x = wr := ⟨_, rfl⟩
      obtain ⟨k, rfl⟩ : ∃ x, x = i := ⟨_, rfl⟩
      have rl := ol.row
      go_loopw [8, 9] (fun o iv wr => ∃ (i g c : Nat), i ≤ k ∧ iv = .int .i64 i ∧ o = .slice (some ⟨g, 0, none⟩) (1 + 2 * i) c ∧ Own 5 wr wo.heap.size g (1 + 2 * i) c ((k : Int) :: encS (upl f i)) ∧ Below wo.heap.size wo wr) (fun _ iv _ => k - (intOf iv).toNat)
      case atStart => exact ⟨0, wo.heap.size, 1, by omega, rfl, rfl, own_lit wo 5 [(k : Int)] 1 rfl (by omega) (Byt.one (by omega)), below_alloc _ _⟩
      case round =>
        obtain ⟨i, g, c, hik, rfl, rfl, ow, b2⟩ := hrel
        have hsz2 := b2.size
        by_cases hlt2 : i < k
        · have p1 : (i : Int) < (k : Int) := by omega
          obtain ⟨bl, ofl, rfl, hcl⟩ := rl.at (by omega)
          obtain ⟨x, hx⟩ : ∃ x : Nat, x = f + i := ⟨_, rfl⟩
          have c1 := hcl i hlt2
          rw [upl_get _ _ _ hlt2, ← hx] at c1
          have hxb : x < 65536 := by omega
          have HX : Hid (x = f + i) := hx
          have HO : Hid ((k : Int) :: encS (upl f (i + 1)) = ((k : Int) :: encS (upl f i)) ++ [(x : Int) / 256, (x : Int) % 256]) := by
            show _ = _
            rw [two_bytes x hxb, upl_succ, encS, List.flatMap_append, ← hx]
            simp [encS]
          clear hx hcl
          have e5 : IntKind.u8.wrap ((x : Int) / 256) = (x : Int) / 256 := by rw [IntKind.wrap_u8]; omega
          have e6 : IntKind.u8.wrap (x : Int) = (x : Int) % 256 := by rw [IntKind.wrap_u8]
          have hSat : Hid (∀ W, Below wo.heap.size wo W → W.cell? ⟨bl, ofl + i, none⟩ = some (.int .u16 x)) := fun W h => by rw [h.cell (lt_of_cell c1)]; exact c1
          clear c1
          go_wp2_with fail
          refine wp_region_noPanic ?_
          refine wp_region_held_drew (S := fun W => W.cell? ⟨bl, ofl + i, none⟩ = some (.int .u16 x)) (by kernel_rfl) (hSat.out _ b2.drew) fun hS => ?_
          refine take_to (i := 0) (v := ?_) 39 rfl rfl (by kernel_rfl) (by kernel_rfl) (by kernel_rfl) (fun _ _ _ h => h) (Or.inl ⟨by rfl, ?_⟩) hS ?_
          rotate_left
          · intro W hW
            go_simp
            try with_reducible rfl
          simp only [List.setIfInBounds_toArray, List.set_cons_zero, List.set_cons_succ]
          refine take_to (i := 1) (v := ?_) 40 rfl rfl (by kernel_rfl) (by kernel_rfl) (by kernel_rfl) (fun _ _ _ h => h) (Or.inl ⟨by rfl, ?_⟩) hS ?_
          rotate_left
          · intro W hW
            go_simp
            try with_reducible rfl
          simp only [List.setIfInBounds_toArray, List.set_cons_zero, List.set_cons_succ]
          refine take_to (i := 2) (v := ?_) 41 rfl rfl (by kernel_rfl) (by kernel_rfl) (by kernel_rfl) (fun _ _ _ h => h) (Or.inl ⟨by rfl, ?_⟩) hS ?_
          rotate_left
          · intro W hW
            go_simp
            try with_reducible rfl
          simp only [List.setIfInBounds_toArray, List.set_cons_zero, List.set_cons_succ]
          refine take_to (i := 3) (v := ?_) 42 rfl rfl (by kernel_rfl) (by kernel_rfl) (by kernel_rfl) (fun _ _ _ h => h) (Or.inl ⟨by rfl, ?_⟩) hS ?_
          rotate_left
          · intro W hW
            go_simp
            try with_reducible rfl
          simp only [List.setIfInBounds_toArray, List.set_cons_zero, List.set_cons_succ]
          refine take_to (i := 4) (v := ?_) 43 rfl rfl (by kernel_rfl) (by kernel_rfl) (by kernel_rfl) (fun _ _ _ h => h) (Or.inl ⟨by rfl, ?_⟩) hS ?_
          rotate_left
          · intro W hW
            go_simp
            try with_reducible rfl
          simp only [List.setIfInBounds_toArray, List.set_cons_zero, List.set_cons_succ]
          refine take_to (i := 5) (v := ?_) 44 rfl rfl (by kernel_rfl) (by kernel_rfl) (by kernel_rfl) (fun _ _ _ h => h) (Or.inl ⟨by rfl, ?_⟩) hS ?_
          rotate_left
          · intro W hW
            go_simp
            try with_reducible rfl
          simp only [List.setIfInBounds_toArray, List.set_cons_zero, List.set_cons_succ]
          refine take_to (i := 6) (v := ?_) 45 rfl rfl (by kernel_rfl) (by kernel_rfl) (by kernel_rfl) (fun _ _ _ h => h) (Or.inl ⟨by rfl, ?_⟩) hS ?_
          rotate_left
          · intro W hW
            go_simp
            try with_reducible rfl
          simp only [List.setIfInBounds_toArray, List.set_cons_zero, List.set_cons_succ]
          refine take_to (i := 7) (v := ?_) 46 rfl rfl (by kernel_rfl) (by kernel_rfl) (by kernel_rfl) (fun _ _ _ h => h) (Or.inl ⟨by rfl, ?_⟩) hS ?_
          rotate_left
          · intro W hW
            go_simp
            try with_reducible rfl
          simp only [List.setIfInBounds_toArray, List.set_cons_zero, List.set_cons_succ]
          refine take_to (i := 8) (v := ?_) 47 rfl rfl (by kernel_rfl) (by kernel_rfl) (by kernel_rfl) (fun _ _ _ h => h) (Or.inl ⟨by rfl, ?_⟩) hS ?_
          rotate_left
          · intro W hW
            go_simp
            try with_reducible rfl
          simp only [List.setIfInBounds_toArray, List.set_cons_zero, List.set_cons_succ]
          refine take_to (i := 9) (v := ?_) 48 rfl rfl (by kernel_rfl) (by kernel_rfl) (by kernel_rfl) (fun _ _ _ h => h) (Or.inl ⟨by rfl, ?_⟩) hS ?_
          rotate_left
          · intro W hW
            go_simp
            try with_reducible rfl
          simp only [List.setIfInBounds_toArray, List.set_cons_zero, List.set_cons_succ]
          refine take_to (i := 10) (v := ?_) 49 rfl rfl (by kernel_rfl) (by kernel_rfl) (by kernel_rfl) (fun _ _ _ h => h) (Or.inl ⟨by rfl, ?_⟩) hS ?_
          rotate_left
          · intro W hW
            go_simp
            try with_reducible rfl
          simp only [List.setIfInBounds_toArray, List.set_cons_zero, List.set_cons_succ]
          refine take_to (i := 11) (v := ?_) 50 rfl rfl (by kernel_rfl) (by kernel_rfl) (by kernel_rfl) (fun _ _ _ h => h) (Or.inl ⟨by rfl, ?_⟩) hS ?_
          rotate_left
          · intro W hW
            go_simp
            try with_reducible rfl
          simp only [List.setIfInBounds_toArray, List.set_cons_zero, List.set_cons_succ]

          refine wpAnyH_ready (rs := [12]) (by kernel_rfl) (by simp) ?_
          refine AllReadyH.cons rfl (fun K hK => ?_) AllReadyH.nil
          go_simp
          have b3 := b2.drew.alloc (by simpa using hsz2) (.cells #[Value.int .u8 ((x : Int) / 256), Value.int .u8 ((x : Int) % 256)] 5)
          refine hK.out _ _ (hSat.out _ b3) fun _ => ?_
          clear hK K
          refine wpAnyH_ready (rs := [13]) (by kernel_rfl) (by simp) ?_
          refine AllReadyH.cons rfl (fun K hK => ?_) AllReadyH.nil
          refine Eq.mpr (if_pos (by kernel_rfl)) ?_
          refine op_append_bytes _ (.tmp 39) (.tmp 51) 25 rfl 5 Try.underlying25 info5 wo.heap.size g (1 + 2 * i) c _ rfl ((ow.below (ext_drew _)).below (below_alloc _ _)) ⟨wr.heap.size, 0, none⟩ 2 2 [(x : Int) / 256, (x : Int) % 256] rfl (row_lit wr.drew 5 [(x : Int) / 256, (x : Int) % 256] 2 rfl (by omega) (by intro y hy; simp at hy; omega)) (by omega) b3.size wo b3 ?_
          intro g4 c4 w4 o4 b4
          refine hK.out _ _ (hSat.out _ b4) fun _ => ?_
          clear hK K
          refine wpAnyH_ready (rs := [14]) (by kernel_rfl) (by simp) ?_
          refine AllReadyH.cons rfl (fun K hK => ?_) AllReadyH.nil
          go_simp
          refine hK.out _ _ (hSat.out _ b4) fun _ => ?_
          clear hK K
          refine wpAnyH_done (by kernel_rfl) ?_ _
          refine NoPanic.normal ?_
          go_wp2_with fail
          go_roundw
          case rel => exact ⟨i + 1, g4, c4, by omega, by go_num, by rw [show 1 + 2 * (i + 1) = 1 + 2 * i + 2 by omega], by rw [HO.out, show 1 + 2 * (i + 1) = 1 + 2 * i + 2 by omega]; exact o4, b4⟩
          case measure => simp [intOf]; omega
        · obtain rfl : i = k := by omega
          have p1 : decide ((i : Int) < (i : Int)) = false := by simp
          have b1w := ext_trans b1 b2
          have rlw := rl.below b2
          have htk := takeSet_any _ _ _ _ _ ow.row
          have hwl := upl_wrd f i (by omega)
          clear ol rl
          by_cases h16 : 16 < i
          · have q16 : (i : Int) > 16 := by omega
            have hmay : mayS (upl f i) = false := by simp [mayS, upl_len]; omega
            have hts := ts_form (upl f i) [] hwl hmay (by rw [upl_len]; omega)
            rw [upl_len, List.append_nil] at hts
            rw [hts.1, hts.2.1, hts.2.2] at htk
            have hmy := fun W (hW : Below wr.heap.size wr W) => may_any so i co (upl f i) W (rlw.below hW)
            rw [hmay] at hmy
            clear hts hmay oln
            go_wp2_with fail
            refine htk.mono ?_
            rintro e w5 ⟨sx, nx, cx, rfl, ox, b5⟩
            obtain rfl : nx = 0 := ox.1.symm
            go_wp2_with fail
            refine (hmy _ b5).mono ?_
            rintro e w6 ⟨rfl, b6⟩
            go_wp2_with fail
            go_ret
            exact ⟨rfl, ext_trans b1w (ext_trans b5 b6)⟩
          · have q16 : ¬ (i : Int) > 16 := by omega
            have q17 : decide ((16 : Int) < (i : Int)) = false := by simp; omega
            have hmay : mayS (upl f i) = true := by
              simp only [mayS, upl_len, (asc_iff _).2 (upl_srt f i), Bool.and_true, decide_eq_true_eq]; omega
            have hts := ts_ok (upl f i) [] hwl hmay
            rw [upl_len, List.append_nil] at hts
            rw [hts.1, hts.2.1, hts.2.2, show 1 + 2 * (i : Int) = ((1 + 2 * i : Nat) : Int) by omega] at htk
            have hmy := fun W (hW : Below wr.heap.size wr W) => may_any so i co (upl f i) W (rlw.below hW)
            rw [hmay] at hmy
            have HM : Hid (mayS (upl f i) = true) := hmay
            have HP : Hid (putB (i : Nat) 1 = [(i : Int)]) := putB_one i (by omega)
            have hst := fun (W : World) (ao : Option Addr) (n c : Nat) (zs : List Int) (hrow : Row W ao n c zs) => run_str (P := Try.prog) W 25 9 5 Try.underlying25 Try.underlying5 Try.underlying9 ao n c zs hrow
            have HS : Hid (∀ (W : World) (ao : Option Addr) (n c : Nat) (zs : List Int), Row W ao n c zs → (convert 25 9 (.slice ao n c)).run Try.prog W = .ok (.string (strOfNums zs)) W) := hst
            have rw0 := ow.row
            generalize hzz : 1 + 2 * i = zz at htk rw0 ⊢
            have HZ : Hid (1 + 2 * i = zz) := hzz
            clear hst hts hmay hzz ow oln
            go_wp2_with fail
            refine htk.mono ?_
            rintro e w5 ⟨sx, nx, cx, rfl, ox, b5⟩
            obtain rfl : nx = i := by have := ox.1; rw [upl_len] at this; exact this.symm
            clear htk
            go_wp2_with fail
            refine wp_region_noPanic ?_
            refine wp_region_held_drew (S := fun _ => True) (by kernel_rfl) trivial fun hT => ?_
            refine take_to (i := 0) (v := ?_) 77 rfl rfl (by kernel_rfl) (by kernel_rfl) (by kernel_rfl) (fun _ _ _ h => h) (Or.inl ⟨by rfl, ?_⟩) hT ?_
            rotate_left
            · intro W hW
              go_simp
              try with_reducible rfl
            simp only [List.setIfInBounds_toArray, List.set_cons_zero, List.set_cons_succ]

            refine wpAnyH_ready (rs := [1]) (by kernel_rfl) (by simp) ?_
            refine AllReadyH.cons rfl (fun K hK => ?_) AllReadyH.nil
            go_simp
            refine (hmy _ (b5.drew)).mono ?_
            rintro e w6 ⟨rfl, b6⟩
            replace b5 := ext_trans b5.drew b6
            refine hK.out _ _ trivial fun _ => ?_
            clear hK K
            refine wpAnyH_more (S' := fun W => Row W (some ⟨g, 0, none⟩) zz c ((nx : Int) :: encS (upl f nx))) (fun _ _ => trivial) _ _ _ _ ?_
            have hS1 := rw0.below b5
            refine take_to (i := 2) (v := ?_) 79 rfl rfl (by kernel_rfl) (by kernel_rfl) (by kernel_rfl) (fun _ _ _ h => h) (Or.inl ⟨by rfl, ?_⟩) hS1 ?_
            rotate_left
            · intro W hW
              go_simp
              try with_reducible rfl
            simp only [List.setIfInBounds_toArray, List.set_cons_zero, List.set_cons_succ]
            refine take_to (i := 3) (v := ?_) 80 rfl rfl (by kernel_rfl) (by kernel_rfl) (by kernel_rfl) (fun _ _ _ h => h) (Or.inl ⟨by rfl, ?_⟩) hS1 ?_
            rotate_left
            · intro W hW
              go_simp
              try with_reducible rfl
            simp only [List.setIfInBounds_toArray, List.set_cons_zero, List.set_cons_succ]
            refine take_to (i := 4) (v := ?_) 81 rfl rfl (by kernel_rfl) (by kernel_rfl) (by kernel_rfl) (fun _ _ _ h => h) (Or.inl ⟨by rfl, ?_⟩) hS1 ?_
            rotate_left
            · intro W hW
              go_simp
              try with_reducible rfl
            simp only [List.setIfInBounds_toArray, List.set_cons_zero, List.set_cons_succ]
            refine take_to (i := 5) (v := ?_) 82 rfl rfl (by kernel_rfl) (by kernel_rfl) (by kernel_rfl) (fun _ _ _ h => h) (Or.inl ⟨by rfl, ?_⟩) hS1 ?_
            rotate_left
            · intro W hW
              go_simp
              try with_reducible rfl
            simp only [List.setIfInBounds_toArray, List.set_cons_zero, List.set_cons_succ]
            refine take_to (i := 6) (v := ?_) 83 rfl rfl (by kernel_rfl) (by kernel_rfl) (by kernel_rfl) (fun _ _ _ h => h) (Or.inl ⟨by rfl, ?_⟩) hS1 ?_
            rotate_left
            · intro W hW
              go_simp
              try with_reducible rfl
            simp only [List.setIfInBounds_toArray, List.set_cons_zero, List.set_cons_succ]
            refine take_to (i := 7) (v := ?_) 84 rfl rfl (by kernel_rfl) (by kernel_rfl) (by kernel_rfl) (fun _ _ _ h => h) (Or.inl ⟨by rfl, ?_⟩) hS1 ?_
            rotate_left
            · intro W hW
              go_simp
              try with_reducible rfl
            simp only [List.setIfInBounds_toArray, List.set_cons_zero, List.set_cons_succ]
            refine take_to (i := 8) (v := ?_) 85 rfl rfl (by kernel_rfl) (by kernel_rfl) (by kernel_rfl) (fun _ _ _ h => h) (Or.inl ⟨by rfl, ?_⟩) hS1 ?_
            rotate_left
            · intro W hW
              go_simp
              try with_reducible rfl
            simp only [List.setIfInBounds_toArray, List.set_cons_zero, List.set_cons_succ]
            refine take_to (i := 9) (v := ?_) 86 rfl rfl (by kernel_rfl) (by kernel_rfl) (by kernel_rfl) (fun _ _ _ h => h) (Or.inl ⟨by rfl, ?_⟩) hS1 ?_
            rotate_left
            · intro W hW
              go_simp
              try with_reducible rfl
            simp only [List.setIfInBounds_toArray, List.set_cons_zero, List.set_cons_succ]
            refine take_to (i := 10) (v := ?_) 87 rfl rfl (by kernel_rfl) (by kernel_rfl) (by kernel_rfl) (fun _ _ _ h => h) (Or.inl ⟨by rfl, ?_⟩) hS1 ?_
            rotate_left
            · intro W hW
              go_simp
              try with_reducible rfl
            simp only [List.setIfInBounds_toArray, List.set_cons_zero, List.set_cons_succ]
            refine take_to (i := 11) (v := ?_) 88 rfl rfl (by kernel_rfl) (by kernel_rfl) (by kernel_rfl) (fun _ _ _ h => h) (Or.inl ⟨by rfl, ?_⟩) hS1 ?_
            rotate_left
            · intro W hW
              go_simp
              try with_reducible rfl
            simp only [List.setIfInBounds_toArray, List.set_cons_zero, List.set_cons_succ]
            refine take_to (i := 12) (v := ?_) 89 rfl rfl (by kernel_rfl) (by kernel_rfl) (by kernel_rfl) (fun _ _ _ h => h) (Or.inl ⟨by rfl, ?_⟩) hS1 ?_
            rotate_left
            · intro W hW
              go_simp
              try with_reducible rfl
            simp only [List.setIfInBounds_toArray, List.set_cons_zero, List.set_cons_succ]
            refine take_to (i := 13) (v := ?_) 90 rfl rfl (by kernel_rfl) (by kernel_rfl) (by kernel_rfl) (fun _ _ _ h => h) (Or.inl ⟨by rfl, ?_⟩) hS1 ?_
            rotate_left
            · intro W hW
              go_simp
              try with_reducible rfl
            simp only [List.setIfInBounds_toArray, List.set_cons_zero, List.set_cons_succ]
            refine take_to (i := 14) (v := ?_) 91 rfl rfl (by kernel_rfl) (by kernel_rfl) (by kernel_rfl) (fun _ _ _ h => h) (Or.inl ⟨by rfl, ?_⟩) hS1 ?_
            rotate_left
            · intro W hW
              go_simp
              try with_reducible rfl
            simp only [List.setIfInBounds_toArray, List.set_cons_zero, List.set_cons_succ]
            refine take_to (i := 15) (v := ?_) 92 rfl rfl (by kernel_rfl) (by kernel_rfl) (by kernel_rfl) (fun _ _ _ h => h) (Or.inl ⟨by rfl, ?_⟩) hS1 ?_
            rotate_left
            · intro W hW
              go_simp
              try with_reducible rfl
            simp only [List.setIfInBounds_toArray, List.set_cons_zero, List.set_cons_succ]
            refine take_to (i := 16) (v := ?_) 93 rfl rfl (by kernel_rfl) (by kernel_rfl) (by kernel_rfl) (fun _ _ _ h => h) (Or.inl ⟨by rfl, ?_⟩) hS1 ?_
            rotate_left
            · intro W hW
              go_simp
              try with_reducible rfl
            simp only [List.setIfInBounds_toArray, List.set_cons_zero, List.set_cons_succ]
            refine take_to (i := 17) (v := ?_) 94 rfl rfl (by kernel_rfl) (by kernel_rfl) (by kernel_rfl) (fun _ _ _ h => h) (Or.inl ⟨by rfl, ?_⟩) hS1 ?_
            rotate_left
            · intro W hW
              go_simp
              try with_reducible rfl
            simp only [List.setIfInBounds_toArray, List.set_cons_zero, List.set_cons_succ]
            refine take_to (i := 18) (v := ?_) 95 rfl rfl (by kernel_rfl) (by kernel_rfl) (by kernel_rfl) (fun _ _ _ h => h) (Or.inl ⟨by rfl, ?_⟩) hS1 ?_
            rotate_left
            · intro W hW
              go_simp
              try with_reducible rfl
            simp only [List.setIfInBounds_toArray, List.set_cons_zero, List.set_cons_succ]
            refine take_to (i := 19) (v := ?_) 96 rfl rfl (by kernel_rfl) (by kernel_rfl) (by kernel_rfl) (fun _ _ _ h => h) (Or.inl ⟨by rfl, ?_⟩) hS1 ?_
            rotate_left
            · intro W hW
              go_simp
              try with_reducible rfl
            simp only [List.setIfInBounds_toArray, List.set_cons_zero, List.set_cons_succ]
            refine take_to (i := 22) (v := ?_) 99 rfl rfl (by kernel_rfl) (by kernel_rfl) (by kernel_rfl) (fun _ _ _ h => h) (Or.inl ⟨by rfl, ?_⟩) hS1 ?_
            rotate_left
            · intro W hW
              go_simp
              try with_reducible rfl
            simp only [List.setIfInBounds_toArray, List.set_cons_zero, List.set_cons_succ]
            refine take_to (i := 23) (v := ?_) 100 rfl rfl (by kernel_rfl) (by kernel_rfl) (by kernel_rfl) (fun _ _ _ h => h) (Or.inl ⟨by rfl, ?_⟩) hS1 ?_
            rotate_left
            · intro W hW
              have hc := HS.out W _ _ _ _ hW
              go_simp
              try with_reducible rfl
            simp only [List.setIfInBounds_toArray, List.set_cons_zero, List.set_cons_succ]

            refine wpAnyH_ready (rs := [20]) (by kernel_rfl) (by simp) ?_
            refine AllReadyH.cons rfl (fun K hK => ?_) AllReadyH.nil
            go_simp
            refine (putSet_any none so 0 0 nx co [] (upl f nx) _ (Row.nil _) (rlw.below b5) HM.out (by omega)).mono ?_
            rintro e w7 ⟨g7, c7, rfl, o7, b7⟩
            rw [Nat.zero_add, HZ.out, List.nil_append, HP.out] at o7
            rw [Nat.zero_add, HZ.out]
            refine hK.out _ _ (hS1.below b7) fun _ => ?_
            clear hK K
            refine wpAnyH_more (S' := fun W => Row W (some ⟨g, 0, none⟩) zz c ((nx : Int) :: encS (upl f nx)) ∧ Row W (some ⟨g7, 0, none⟩) zz c7 ([(nx : Int)] ++ encS (upl f nx))) (fun _ h => h.1) _ _ _ _ ?_
            have hS2 : (fun W => Row W (some ⟨g, 0, none⟩) zz c ((nx : Int) :: encS (upl f nx)) ∧ Row W (some ⟨g7, 0, none⟩) zz c7 ([(nx : Int)] ++ encS (upl f nx))) w7 := ⟨hS1.below b7, o7.row⟩
            replace b5 := ext_trans b5 b7
            refine take_to (i := 21) (v := ?_) 98 rfl rfl (by kernel_rfl) (by kernel_rfl) (by kernel_rfl) (fun _ _ _ h => h) (Or.inl ⟨by rfl, ?_⟩) hS2 ?_
            rotate_left
            · intro W hW
              have hc := HS.out W _ _ _ _ hW.2
              go_simp
              try with_reducible rfl
            simp only [List.setIfInBounds_toArray, List.set_cons_zero, List.set_cons_succ]
            refine take_to (i := 24) (v := ?_) 101 rfl rfl (by kernel_rfl) (by kernel_rfl) (by kernel_rfl) (fun _ _ _ h => h) (Or.inl ⟨by rfl, ?_⟩) hS2 ?_
            rotate_left
            · intro W hW
              go_simp
              try with_reducible rfl
            simp only [List.setIfInBounds_toArray, List.set_cons_zero, List.set_cons_succ]
            refine take_to (i := 25) (v := ?_) 102 rfl rfl (by kernel_rfl) (by kernel_rfl) (by kernel_rfl) (fun _ _ _ h => h) (Or.inl ⟨by rfl, ?_⟩) hS2 ?_
            rotate_left
            · intro W hW
              go_simp
              try with_reducible rfl
            simp only [List.setIfInBounds_toArray, List.set_cons_zero, List.set_cons_succ]
            refine take_to (i := 26) (v := ?_) 4 rfl rfl (by kernel_rfl) (by kernel_rfl) (by kernel_rfl) (fun _ _ _ h => h) (Or.inl ⟨by rfl, ?_⟩) hS2 ?_
            rotate_left
            · intro W hW
              go_simp
              try with_reducible rfl
            simp only [List.setIfInBounds_toArray, List.set_cons_zero, List.set_cons_succ]

            refine wpAnyH_done (by kernel_rfl) ?_ _
            refine NoPanic.normal ?_
            go_wp2_with fail
            go_ret
            exact ⟨rfl, ext_trans b1w b5⟩
end Go.Proofs.Ytpajojkhpnklfab
