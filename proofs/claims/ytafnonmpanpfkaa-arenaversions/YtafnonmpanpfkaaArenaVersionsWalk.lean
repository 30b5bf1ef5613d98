/- No arena takes a record of another version: the walk. -/
import Derived.Test.YtafnonmpanpfkaaArBegun
namespace Go.Proofs.Ytafnonmpanpfkaa
open Go.RowKit
set_option maxRecDepth 100000
set_option linter.unusedVariables false

section
variable {w : World}
set_option maxHeartbeats 1000000 in
theorem arenaVersions_true (v : Int) (a : Option Addr) (n c : Nat) (ps : List Le) (w : World) (hr : RowR w a n c ps) :
    Calls Try.prog 4 #[.int .u8 v, .slice a n c] w fun e w' => e = .returned (.bool true) ∧ Below w.heap.size w w' := by
  have hcap := hr.cap_le
  go_enter Try.func4, Try.ntmps4
  go_wp2_with fail
  refine (begun19_true w).mono ?_
  rintro e w0 ⟨rfl, b0⟩
  by_cases h20 : 20 < n
  · have h1 : (20 : Int) < (n : Int) := by omega
    go_wp2_with fail
    go_ret
    exact ⟨rfl, b0⟩
  · have h1 : decide ((20 : Int) < (n : Int)) = false := by simp; omega
    go_wp2_with fail
    refine (arn_new v w w0 b0).mono ?_
    rintro e w1 ⟨rfl, hA, _⟩
    clear b0
    go_wp2_with fail
    go_loopw [6, 7, 8] (fun s6 s7 s8 wr => ∃ (k t : Nat) (T : Tx) (ls : List (Int × List Int)), k ≤ n ∧ t ≤ k ∧ s6 = .int .i64 t ∧ s7 = .int .i64 k ∧ (∃ z : Value, s8 = z) ∧ ArN w wr w0.heap.size v T (2 * t) ∧ Lst T ls ∧ ls.length = t ∧ ∀ q ∈ ls, q.1 < k) (fun _ s7 _ _ => n - (intOf s7).toNat)
    case atStart => exact ⟨0, 0, _, [], by omega, by omega, rfl, rfl, ⟨_, rfl⟩, hA, ⟨by simp, fun i xs => by simp⟩, rfl, fun q hq => by simp at hq⟩
    case round =>
      clear hA
      obtain ⟨k, t, T, ls, hk, ht, rfl, rfl, ⟨z, rfl⟩, hA, hL, hlen, hlt0⟩ := hrel
      by_cases hlt : k < n
      · have h2 : (k : Int) < (n : Int) := by omega
        have hb := hA.new
        obtain ⟨g, off, rfl, hr'⟩ := (hr.below hb).at (by omega)
        obtain ⟨p, hp⟩ := hr.get k hlt
        obtain ⟨c1, hrow⟩ := hr'.cell hp
        have hrw := (hr.cell hp).2
        have hpc := hrow.cap_le
        have HP : Hid (ps[k]? = some p) := hp
        have HL : Hid (Lst T ls ∧ ls.length = t ∧ ∀ q ∈ ls, q.1 < k) := ⟨hL, hlen, hlt0⟩
        have hw : IntKind.u64.wrap (k : Int) = (k : Int) := by rw [IntKind.wrap_u64]; omega
        clear hp hL hlen hlt0
        by_cases h100 : 100 < p.n
        · have h3 : (100 : Int) < (p.n : Int) := by omega
          go_wp2_with fail
          go_ret
          exact ⟨rfl, hb⟩
        · have h3 : decide ((100 : Int) < (p.n : Int)) = false := by simp; omega
          have hpl := hrow.len
          have hrelNo : ∀ wz, Below wr.heap.size wr wz → ∃ (k' t' : Nat) (T : Tx) (ls : List (Int × List Int)), k' = k + 1 ∧ t' = t ∧ ArN w wz w0.heap.size v T (2 * t') ∧ Lst T ls ∧ ls.length = t' ∧ ∀ q ∈ ls, q.1 < k' := fun wz bz => ⟨k + 1, t, T, ls, rfl, rfl, hA.below bz, HL.out.1, HL.out.2.1, fun q hq => by have := HL.out.2.2 q hq; omega⟩
          by_cases hv : p.xs.head? = some v
          · obtain ⟨r, hxr, _⟩ := (show Rec v p.xs from ⟨hv, by omega⟩).cons
            have hpn : p.n = r.length + 1 := by rw [← hpl, hxr]; rfl
            obtain ⟨b, o, hpa, hcs⟩ := hrow.at (by omega)
            obtain ⟨b', o', hpa', hcs'⟩ := hrw.at (by omega)
            have d1 := hcs 0 (by omega)
            rw [hxr] at d1
            simp at d1
            have hbl : b < w.heap.size := by
              have := lt_of_cell (hcs' 0 (by omega))
              rw [hpa] at hpa'
              simp only [Option.some.injEq, Addr.mk.injEq] at hpa'
              rw [hpa'.1]
              exact this
            have hput := hA.put (Below.refl _ _) (by omega) (k : Int) (by unfold U; omega) hrow (show Rec v p.xs from ⟨hv, by omega⟩) (fun y hy => .inl (by rw [hpa] at hy; obtain rfl := Option.some.inj hy; exact hbl))
            rw [hpa] at c1 hput
            have h4 : (0 : Int) < (p.n : Int) := by omega
            have HX : Hid (p.xs.length = p.n ∧ p.xs.head? = some v) := ⟨hpl, hv⟩
            clear hpl hpn hxr hpa hpa' hcs hcs' hv hrelNo hrow hrw
            go_wp2_with fail
            refine hput.mono ?_
            rintro e w2 ⟨rfl, hA2⟩
            go_wp2_with fail
            go_roundw
            case rel =>
              refine ⟨k + 1, t + 1, _, ls ++ [((k : Int), p.xs)], by omega, by omega, by go_num, by go_num, ⟨_, rfl⟩, hA2, HL.out.1.snoc (fun q hq => HL.out.2.2 q hq), by rw [List.length_append, HL.out.2.1]; rfl, fun q hq => ?_⟩
              simp only [List.mem_append, List.mem_singleton] at hq
              rcases hq with hq | rfl
              · have := HL.out.2.2 q hq; omega
              · show (k : Int) < ((k + 1 : Nat) : Int)
                omega
            case measure => simp [intOf]; omega
          · have hput : Calls Try.prog 9 #[.pointer (some ⟨w0.heap.size, 0, none⟩), .int .u64 k, .slice p.a p.n p.c] wr fun e w3 => e = .returned (.int .i64 1) ∧ Below wr.heap.size wr w3 := by
              obtain ⟨S, q1, q2, q3⟩ := id hA
              exact put_no q1 k hrow hv
            have HNO : Hid _ := hrelNo
            clear hrelNo
            cases hxs : p.xs with
            | nil =>
              have hp0 : p.n = 0 := by rw [← hpl, hxs]; rfl
              have h4 : decide ((0 : Int) < (p.n : Int)) = false := by simp; omega
              rw [hp0] at c1 hput hpc h100 h3
              clear hpl hxs hv hrow hrw hp0 h4
              go_wp2_with fail
              refine hput.mono ?_
              rintro e w2 ⟨rfl, b2⟩
              go_wp2_with fail
              go_roundw
              case rel =>
                obtain ⟨k', t', T', ls', rfl, rfl, r1, r2, r3, r4⟩ := HNO.out w2 b2
                exact ⟨k + 1, _, T', ls', by omega, by omega, rfl, by go_num, ⟨_, rfl⟩, r1, r2, r3, r4⟩
              case measure => simp [intOf]; omega
            | cons y r =>
              have hpn : p.n = r.length + 1 := by rw [← hpl, hxs]; rfl
              obtain ⟨b, o, hpa, hcs⟩ := hrow.at (by omega)
              have d1 := hcs 0 (by omega)
              rw [hxs] at d1
              simp at d1
              have h5 : (y == v) = false := by rw [hxs] at hv; simp at hv; simpa using hv
              rw [hpa] at c1 hput
              have h4 : (0 : Int) < (p.n : Int) := by omega
              clear hpl hxs hv hrow hrw hpn hpa hcs
              go_wp2_with fail
              refine hput.mono ?_
              rintro e w2 ⟨rfl, b2⟩
              go_wp2_with fail
              go_roundw
              case rel =>
                obtain ⟨k', t', T', ls', rfl, rfl, r1, r2, r3, r4⟩ := HNO.out w2 b2
                exact ⟨k + 1, _, T', ls', by omega, by omega, rfl, by go_num, ⟨_, rfl⟩, r1, r2, r3, r4⟩
              case measure => simp [intOf]; omega
      · obtain rfl : k = n := by omega
        go_wp2_with fail
        obtain ⟨S, q1, q2, q3⟩ := hA
        refine (ids_any q1 (by omega) hL).mono ?_
        rintro e w2 ⟨ia, ic, rfl, _, b2⟩
        rw [hlen]
        go_wp2_with fail
        go_ret
        exact ⟨by simp, q3.trans (b2.mono q3.size)⟩
end
end Go.Proofs.Ytafnonmpanpfkaa
