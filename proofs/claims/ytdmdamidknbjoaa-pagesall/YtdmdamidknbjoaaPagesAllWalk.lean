/- 'PagesAll' answers true: in any run of up to 50 operations memory says what texts by names say. -/
import Derived.Test.YtdmdamidknbjoaaPgAllRound
import Derived.Test.YtdmdamidknbjoaaPgOpsArg
import Derived.Test.YtdmdamidknbjoaaParts
import Derived.Deep.CutRange
import Derived.Deep.QuietTactic
import Derived.BigQuiet
namespace Go.Proofs.Ytdmdamidknbjoaa
open Go.RowKit
set_option maxRecDepth 100000

theorem Md.room {W w : World} {q K c free : Nat} {ls : List Nm} {ia da : Option Addr} {ic dc : Nat} (h : Md W w q K c free ls ia da ic dc) : free ≤ 512 := by
  obtain ⟨S, T, h⟩ := h
  obtain ⟨S0, p, A, g, b, m, E, hR, hc, _⟩ := h.spc
  have := hR.lid
  omega
theorem Mdx.idAt {W w : World} {S : Nat → Prop} {q k c fr v : Nat} {T : Txt} {ls : List Nm} {ia da : Option Addr} {ic dc : Nat} {vo : Array Value} (h : Mdx W w S q k c fr T (ls.map Nm.id) (ls.map fun e => (e.db, e.n)) ls ia da ic dc ls.length ls.length v vo) {t : Nat} {e : Nm} (hk : ls[t]? = some e) : ∃ ib ob, ia = some ⟨ib, ob, none⟩ ∧ w.cell? ⟨ib, ob + t, none⟩ = some (.int .u64 e.id) := by
  have hkl : t < ls.length := (List.getElem?_eq_some_iff.1 hk).1
  obtain ⟨ib, ob, rfl, _⟩ := h.ids.row.at (by omega)
  refine ⟨ib, ob, rfl, ?_⟩
  have := h.ids.row.cells t e.id (by simp [hk]) 0 (.int .u64 e.id) rfl
  simpa [EU] using this
theorem md_start {W w : World} {q k : Nat} {S : Nat → Prop} (h : Spc w S q k 0 k (fun _ => none)) (hb : Below W.heap.size W w) (hS : ∀ x, S x → W.heap.size ≤ x) : Md W w q k 0 k [] none none 0 0 :=
  ⟨S, _, h, hS, hb, OwnG.of_nil _ _ _ _, OwnG.of_nil _ _ _ _, fun x hx => (by cases hx), fun x hx => (by cases hx), ⟨fun e he => (by cases he), fun e he => (by cases he), fun j k e e' hj => (by simp at hj)⟩, ⟨fun e he => (by cases he), fun _ _ => rfl, fun j k e e' hj => (by simp at hj)⟩⟩
set_option maxHeartbeats 4000000 in
set_option maxRecDepth 100000 in
theorem pagesAll_all (n : Int) (a : Option Addr) (len cap : Nat) (K F O : Nat → Int) (B : Nat → Ob) (W : World) (hr : OpsIn W a len cap K F O B) :
    Calls Try.prog 3 #[.int .i64 n, .slice a len cap] W fun e w' => e = .returned (.bool true) ∧ Below W.heap.size W w' := by
  obtain ⟨k, hk⟩ : ∃ k : Nat, min (max n 0) 512 = (k : Int) := ⟨(min (max n 0) 512).toNat, by omega⟩
  have hk5 : k ≤ 512 := by omega
  have hlid := hr.lid
  by_cases hl : len ≤ 50
  case neg =>
    have hz : (50 : Int) < (len : Int) := by omega
    go_enter Try.func3, Try.ntmps3
    go_wp2_with fail
    refine (begun13_true _).mono ?_
    rintro e w1 ⟨rfl, hb1⟩
    go_wp2_with fail
    go_ret
    exact ⟨rfl, hb1⟩
  have hz : decide ((50 : Int) < (len : Int)) = false := by simp; omega
  go_enter Try.func3, Try.ntmps3
  go_wp2_with fail
  refine (begun13_true _).mono ?_
  rintro e w1 ⟨rfl, hb1⟩
  go_wp2_with fail
  refine (pnew_any n k hk _).mono ?_
  rintro e w2 ⟨q, S, rfl, hs2, hb2, hS2⟩
  have hmd := md_start hs2 (hb1.trans (hb2.mono hb1.size)) (fun x hx => Nat.le_trans hb1.size (hS2 x hx))
  clear hb1 hs2 hb2 hS2
  go_wp2_with fail
  go_loopw [6, 7, 8, 9] (fun s6 s7 s8 s9 wr => ∃ (j fr c : Nat) (ls : List Nm) (ia da : Option Addr) (ic dc : Nat), j ≤ len ∧ s6 = .int .i64 fr ∧ s7 = .slice ia ls.length ic ∧ s8 = .slice da ls.length dc ∧ s9 = .int .i64 j ∧ Hid (c ≤ j ∧ ls.length ≤ j) ∧ Md W wr q k c fr ls ia da ic dc) (fun _ _ _ s9 _ => len - (intOf s9).toNat)
  case atStart => exact ⟨0, k, 0, [], none, none, 0, 0, by omega, rfl, rfl, rfl, rfl, ⟨Nat.le_refl _, Nat.le_refl _⟩, hmd⟩
  case round =>
    obtain ⟨j, fr, c, ls, ia, da, ic, dc, hj, rfl, rfl, rfl, rfl, hcj, hmr⟩ := hrel
    clear hmd
    by_cases e : j < len
    · have hp : (j : Int) < (len : Int) := by omega
      obtain ⟨w0, rfl⟩ : ∃ w0, w0 = wr := ⟨_, rfl⟩
      have hops := hr.below hmr.bel
      obtain ⟨bb, off, rfl, hc⟩ := hops.spot (by omega)
      obtain ⟨c0, c1, c2, c3, c4⟩ := hc j e
      obtain ⟨bk, bf, bo, bu⟩ := hr.bd j e
      have hrow := hr.row j e
      clear hc hops
      generalize K j = K' at *
      generalize F j = F' at *
      generalize O j = O' at *
      generalize B j = B' at *
      have hrl := hrow.cap_le
      by_cases hn : B'.n ≤ 100
      case neg =>
        have hz2 : (100 : Int) < (B'.n : Int) := by omega
        have hb := hmr.bel
        clear hmr hrow
        go_wp2_with fail
        go_ret
        exact ⟨rfl, hb.trans (pnew _ _ hb.size)⟩
      have hz2 : decide ((100 : Int) < (B'.n : Int)) = false := by simp; omega
      obtain ⟨S, T, hms⟩ := hmr
      have hx0 : Mdx W (w0.alloc (.cells #[.int .i64 K', .int .i64 F', .int .i64 O', .int .u64 B'.id, .slice B'.a B'.n B'.c] 31)) S q k c fr T (ls.map Nm.id) (ls.map fun e => (e.db, e.n)) ls ia da ic dc ls.length ls.length w0.heap.size #[.int .i64 K', .int .i64 F', .int .i64 O', .int .u64 B'.id, .slice B'.a B'.n B'.c] := by
        have hb := below_alloc w0 (.cells #[.int .i64 K', .int .i64 F', .int .i64 O', .int .u64 B'.id, .slice B'.a B'.n B'.c] 31)
        exact ⟨hms.spc.below hb, hms.sS, hms.bel.trans (hb.mono hms.bel.size), hms.ids.below hb, hms.dat.below hb, hms.si, hms.sd, hms.txs.below hb, hnew_at _ _ _ rfl, fun hc => by have := hms.spc.lt _ hc; omega⟩
      have hsay := hms.say
      have hfr := (show Md W w0 q k c fr ls ia da ic dc from ⟨S, T, hms⟩).room
      have hlen50 : ls.length ≤ 50 := by have := hcj.out; omega
      have hdl := hms.dat.row.cap_le
      have hil := hms.ids.row.cap_le
      clear hms
      obtain ⟨v, hv⟩ : ∃ v, v = w0.heap.size := ⟨_, rfl⟩
      go_wp2_with fail
      rw [← hv] at hx0 ⊢
      generalize (w0.alloc (.cells #[.int .i64 K', .int .i64 F', .int .i64 O', .int .u64 B'.id, .slice B'.a B'.n B'.c] 31)) = wv at hx0 ⊢
      clear c0 c1 c2 c3 c4 hv
      go_loopw [11, 12] (fun s11 s12 wr => ∃ (t : Nat) (z : Int), t ≤ ls.length ∧ s11 = .int .i64 z ∧ s12 = .int .i64 t ∧ Hid ((z = -1 ∧ ∀ y e, y < t → ls[y]? = some e → e.id ≠ B'.id) ∨ ∃ (i : Nat) (e0 : Nm), z = (i : Int) ∧ ls[i]? = some e0 ∧ e0.id = B'.id) ∧ Mdx W wr S q k c fr T (ls.map Nm.id) (ls.map fun e => (e.db, e.n)) ls ia da ic dc ls.length ls.length v #[.int .i64 K', .int .i64 F', .int .i64 O', .int .u64 B'.id, .slice B'.a B'.n B'.c]) (fun _ s12 _ => ls.length - (intOf s12).toNat)
      case atStart => exact ⟨0, -1, by omega, rfl, rfl, (Or.inl ⟨rfl, fun y e hy => by omega⟩), hx0⟩
      case round =>
        obtain ⟨t, z, ht, rfl, rfl, hz3, hx⟩ := hrel
        clear hx0
        by_cases e2 : t < ls.length
        · have g1 : (t : Int) < (ls.length : Int) := by omega
          obtain ⟨e0, hke⟩ : ∃ e0, ls[t]? = some e0 := ⟨_, List.getElem?_eq_getElem e2⟩
          obtain ⟨ib, ob, rfl, ci⟩ := hx.idAt hke
          obtain ⟨o0, o1, o2, o3, o4⟩ := var5 hx.var.1
          by_cases hid : e0.id = B'.id
          · have g2 : (e0.id == B'.id) = true := by simpa using hid
            rw [hid] at ci
            go_wp2_with fail
            go_quiet (fail)
            go_wp2_with fail
            go_roundw
            case rel => exact ⟨t + 1, t, by omega, rfl, by go_num, (Or.inr ⟨t, e0, rfl, hke, hid⟩), hx.below (below_drewN (Below.refl _ _) _)⟩
            case measure => simp [intOf]; omega
          · have g2 : (e0.id == B'.id) = false := by simpa using hid
            go_wp2_with fail
            go_quiet (fail)
            go_wp2_with fail
            go_roundw
            case rel =>
              refine ⟨t + 1, z, by omega, rfl, by go_num, ?_, hx.below (below_drewN (Below.refl _ _) _)⟩
              rcases hz3.out with ⟨h1, h2⟩ | h1
              · refine Or.inl ⟨h1, fun y e3 hy h3 => ?_⟩
                by_cases hyt : y = t
                · subst hyt
                  rw [hke] at h3
                  cases h3
                  exact hid
                · exact h2 y e3 (by omega) h3
              · exact Or.inr h1
            case measure => simp [intOf]; omega
        · obtain rfl : t = ls.length := by omega
          obtain ⟨o0, o1, o2, o3, o4⟩ := var5 hx.var.1
          have hz4 : Hid ((z = -1 ∧ ∀ e ∈ ls, e.id ≠ B'.id) ∨ ∃ (i : Nat) (e0 : Nm), z = (i : Int) ∧ ls[i]? = some e0 ∧ e0.id = B'.id) := by
            show _ ∨ _
            rcases hz3.out with ⟨h1, h2⟩ | h1
            · refine Or.inl ⟨h1, fun e3 he => ?_⟩
              obtain ⟨y, hy, hy2⟩ := List.mem_iff_getElem.1 he
              exact h2 y e3 hy (by rw [List.getElem?_eq_getElem hy, hy2])
            · exact Or.inr h1
          clear hz3
          have hm0 : -10 < K'.tmod 10 ∧ K'.tmod 10 < 10 := ⟨Int.lt_tmod_of_pos K' (by omega), Int.tmod_lt_of_pos K' (by omega)⟩
          go_upto_region 21 with fail
          go_cut [13] from 65 to 69 (fun s13 wc => ∃ X : Int, s13 = .int .i64 X ∧ wc = wr)
          case first =>
            go_wp2_with fail
            go_meet
            case rel => exact ⟨_, rfl, rfl⟩
          case rest =>
            obtain ⟨X, rfl, rfl⟩ := hcut
            rename_i K1 hK1 K0 hK0
            have hj50 : j < 50 := by omega
            apply hK0
            refine wp_block ?_
            show Code.wp Try.prog (part Try.f3 26) (Exit.inBlock 4 (Exit.then K1 _)) _ _
            refine round_rest hfr hj50 hcj hx hsay bu bo bf hrow hn hz4 ?_
            intro f2 c2 l2 i2 d2 ic2 dc2 w2 hl2 hm2
            intros
            apply hK1
            clear hK0 hK1 hx hsay hz4 hrow hil hdl hlen50 hm0 o0 o1 o2 o3 o4
            go_wp2_with fail
            refine (same_true hm2).mono ?_
            rintro e w3 ⟨rfl, hb3⟩
            dsimp only
            have hm3 := hm2.below hb3
            clear hm2 hb3
            go_wp2_with fail
            go_roundw
            case rel => exact ⟨j + 1, f2, c2, l2, i2, d2, ic2, dc2, by omega, rfl, rfl, rfl, by go_num, hl2, hm3⟩
            case measure => simp [intOf]; omega
    · obtain rfl : j = len := by omega
      have hb := hmr.bel
      clear hr hmr
      go_wp2_with fail
      refine (read_nil 1 0 0 _).mono ?_
      rintro e w3 ⟨rfl, hb3⟩
      have hb := hb.trans (hb3.mono hb.size)
      go_wp2_with fail
      refine (len_nil 1 _).mono ?_
      rintro e w4 ⟨rfl, hb4⟩
      have hb := hb.trans (hb4.mono hb.size)
      go_wp2_with fail
      refine (map_nil_arg 1 1 _).mono ?_
      rintro e w5 ⟨rfl, hb5⟩
      have hb := hb.trans (hb5.mono hb.size)
      go_wp2_with fail
      refine (unmap_nil 1 _).mono ?_
      rintro e w6 ⟨rfl, hb6⟩
      have hb := hb.trans (hb6.mono hb.size)
      go_wp2_with fail
      refine (write_nil 1 0 _ none 0 0).mono ?_
      rintro e w7 ⟨rfl, hb7⟩
      have hb := hb.trans (hb7.mono hb.size)
      go_wp2_with fail
      refine (pfree_nil _).mono ?_
      rintro e w8 ⟨rfl, hb8⟩
      have hb := hb.trans (hb8.mono hb.size)
      go_wp2_with fail
      go_ret
      exact ⟨rfl, hb⟩
end Go.Proofs.Ytdmdamidknbjoaa
