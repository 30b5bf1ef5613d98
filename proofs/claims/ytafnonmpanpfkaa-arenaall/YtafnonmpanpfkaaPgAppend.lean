/- 'append' once more: where what it answers lies: where the slice lay, or in a new block. No program of the seat is named here. -/
import Derived.Test.YtafnonmpanpfkaaCells
namespace Go.Proofs.Ytafnonmpanpfkaa
open Go.RowKit
set_option maxRecDepth 100000

section
variable {P : Program} {w : World}
theorem append_where (base : Nat) (t ty e : TypeId) (i : TypeInfo) (z : Value) (size bytes : Nat) (ht : P.underlying t = some (.slice e)) (hi : P.info? e = some i) (hz : i.zero = some z)
    (hsize : i.size = size) (hby : i.bytes = bytes) (hsz : 0 < size)
    (v : Value) (n : Nat) (xs : List Value) (hown : w.ownsRow base e size v n xs)
    (a : Addr) (m c : Nat) (news : List Value) (hl : news.length = m * size) (hnews : ∀ j u, news[j]? = some u → w.cell? (a.add j) = some u) (h1 : ∀ u ∈ news, u.oneCell' = true)
    (h63 : n + m ≤ maxLen) (hbytes : (n + m) * bytes ≤ 140737488355328) {v' : Value} {w' : World} (hrun : (Builtin.append_ #[t, t] ty #[v, .slice (some a) m c]).run P w = .ok v' w') :
    v' = .slice none 0 0 ∨ ∃ g l k, v' = .slice (some ⟨g, 0, none⟩) l k ∧ (v.ownBlock = some g ∨ g = w.heap.size) := by
  subst hsize
  subst hby
  have hsmall : n + m ≤ 9223372036854775807 := by simp only [maxLen] at h63; omega
  rcases hown.2 with ⟨rfl, rfl⟩ | ⟨g, cap, cur, rfl, hbg, hg, hnc, hcm, hcs, htake⟩
  · have hx : xs = [] := List.eq_nil_of_length_eq_zero (by simpa using hown.1)
    subst hx
    by_cases hm : m = 0
    · subst hm
      have hn : news = [] := List.eq_nil_of_length_eq_zero (by simpa using hl)
      subst hn
      have hr : (Builtin.append_ #[t, t] ty #[.slice none 0 0, .slice (some a) 0 c]).run P w = .ok (.slice none 0 0) w := by
        simp [Builtin.append_, run_underlying ht, sizeOf, typeInfo, hi, Builtin.lenOf, Builtin.firstCells, loadCells, loadCellsFrom]
      rw [hr] at hrun
      simp only [Result.ok.injEq] at hrun
      exact .inl hrun.1.symm
    · have hr := run_append_nil (P := P) w t ty e i z ht hi hz a m c news hl hnews (by omega) (by omega) (by have hb := hbytes; simp only [Nat.zero_add] at hb; omega)
      rw [hr] at hrun
      simp only [Result.ok.injEq] at hrun
      exact .inr ⟨_, _, _, hrun.1.symm, .inr rfl⟩
  · by_cases hroom : n + m ≤ cap
    · have hfit : n * i.size + news.length ≤ cur.size := by rw [hl, hcs, ← Nat.add_mul]; exact Nat.mul_le_mul_right _ hroom
      have hr := run_append_room (P := P) w t ty e i ht hi g n cap cur hg a m c news hl hnews h1 hroom hfit
      rw [hr] at hrun
      simp only [Result.ok.injEq] at hrun
      exact .inr ⟨_, _, _, hrun.1.symm, .inl rfl⟩
    · have holds : ∀ j u, xs[j]? = some u → w.cell? ((⟨g, 0, none⟩ : Addr).add j) = some u := hown.cells (g := g) rfl
      have hr := run_append_grow (P := P) w t ty e i z ht hi hz ⟨g, 0, none⟩ n cap xs hown.1 holds a m c news hl hnews (by omega) (by omega) (growslice_fits (by omega) hbytes)
      rw [hr] at hrun
      simp only [Result.ok.injEq] at hrun
      exact .inr ⟨_, _, _, hrun.1.symm, .inr rfl⟩
end
section
variable {P : Program} {ops : Array Oper} {o : Oper} {a : Act} {Q : Exit → Act → World → Prop} {α : Type} {E : Enc α}
/-- 'append(s, x...)', s nil or a row of the call's own, x not nil: it may grow; what it answers lies where s lay, or is new. -/
theorem op_append_h {K : Act → World → Prop} (w : World) (s x : Operand) (t : TypeId) (ho : o.op = .call { callee := .builtin .append, args := #[s, x], argTypes := #[t, t] })
    (e : TypeId) (ht : P.underlying t = some (.slice e)) (z : Value) (by' : Nat) (hinfo : (P.info? e).map (fun i => (i.zero, i.size, i.bytes)) = some (some z, E.k, by')) (hz : z.cells.size = E.k)
    (B n cap : Nat) (so : Option Addr) (ys : List α) (hs : a.eval s = .slice so n cap) (hown : OwnG E e w B so n cap ys)
    (ad : Addr) (m c : Nat) (xs : List α) (hx : a.eval x = .slice (some ad) m c) (hrow : RowG E w (some ad) m c xs) (hbd : n + m ≤ 140737488355328 ∧ (n + m) * by' ≤ 140737488355328) (hB : B ≤ w.heap.size)
    (h : ∀ so' cap' w', OwnG E e w' B so' (n + m) cap' (ys ++ xs) → w.grownBy w' (Value.slice so n cap).ownBlock → (∀ y, so' = some y → (Value.slice so n cap).ownBlock = some y.block ∨ y.block = w.heap.size) → K (a.put o.dst (.slice so' (n + m) cap')) w') : Oper.wp P o a w K Q := by
  obtain ⟨i, hi, hz0, hz1, hz2⟩ := info_parts hinfo
  obtain ⟨v', w', hr, h2, h3, _⟩ := run_append_own (P := P) w B t o.type e i z E.k by' ht hi hz0 hz1 hz2 hz E.pos _ n _ hown.2.2 ad m c (E.flat xs) (by rw [E.flat_len, hrow.1]) hrow.news (E.flat_one xs) (by unfold maxLen; omega) hbd.2 hB
  have hw := append_where (P := P) B t o.type e i z E.k by' ht hi hz0 hz1 hz2 E.pos _ n _ hown.2.2 ad m c (E.flat xs) (by rw [E.flat_len, hrow.1]) hrow.news (E.flat_one xs) (by unfold maxLen; omega) hbd.2 hr
  have hl : (ys ++ xs).length = n + m := by simp [hown.1, hrow.1]
  have h1' : w'.ownsRow B e E.k v' (n + m) (E.flat (ys ++ xs)) := by rw [E.flat_append]; exact h2
  unfold Oper.wp execOp
  simp only [ho, resolve, invoke, builtin, Sem.run_bind, Sem.run_pure, Result.andThen_ok, List.map_toArray, List.map_cons, List.map_nil, hs, hx, hr]
  rcases h1'.2 with ⟨hv, h0⟩ | ⟨g', cap', cur, hv, r⟩
  · subst hv
    have hn0 : n + m = 0 := h0
    have := h none 0 w' ⟨hl, hown.2.1.append hrow.ok, by rw [hn0] at h1' ⊢; exact h1'⟩ h3 (fun y hy => (by cases hy))
    rw [hn0] at this
    exact this
  · subst hv
    refine h _ cap' w' ⟨hl, hown.2.1.append hrow.ok, h1'⟩ h3 (fun y hy => ?_)
    obtain rfl := Option.some.inj hy
    rcases hw with hw | ⟨g, l, k, hw, hg⟩
    · cases hw
    · simp only [Value.slice.injEq, Option.some.injEq, Addr.mk.injEq, and_true] at hw
      obtain ⟨rfl, _, _⟩ := hw
      exact hg
end
end Go.Proofs.Ytafnonmpanpfkaa
