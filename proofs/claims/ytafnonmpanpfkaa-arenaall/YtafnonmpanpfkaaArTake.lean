/- A free place of an arena: a slab more where there is none: contracts. -/
import Derived.Test.YtafnonmpanpfkaaArHeld
namespace Go.Proofs.Ytafnonmpanpfkaa
open Go.RowKit
set_option maxRecDepth 100000
set_option linter.unusedVariables false

theorem gr_to {S : Nat → Prop} {a b c d e : World} {x : Nat} (h : gr (gr S a b) c d x) (h1 : a.heap.size ≤ c.heap.size) (h2 : b.heap.size ≤ e.heap.size) (h3 : d.heap.size ≤ e.heap.size) : gr S a e x := by
  rcases h with (h | h) | h
  · exact .inl h
  · exact .inr ⟨h.1, by omega⟩
  · exact .inr ⟨by omega, by omega⟩
theorem infoEP : (Try.prog.info? 74).map (fun i => (i.zero, i.size, i.bytes)) = some (some (.pointer none), 1, 8) := by kernel_rfl
theorem infoEI : (Try.prog.info? 3).map (fun i => (i.zero, i.size, i.bytes)) = some (some (.int .i64 0), 1, 8) := by kernel_rfl
theorem infoER : (Try.prog.info? 72).map (fun i => (i.zero, i.size, i.bytes)) = some (some (.agg #[.int .u64 0, .int .i64 0, .int .u64 0]), 3, 24) := by kernel_rfl
def cs86 : Array Value := ((List.replicate 32 [Value.int .u64 0, Value.slice none 0 0]).flatten).toArray
theorem zero86 (w : World) : (zeroValue 86).run Try.prog w = .ok (.agg cs86) w := by
  have h : (Try.prog.info? 86).map (fun i => i.zero) = some (some (.agg cs86)) := by kernel_rfl
  obtain ⟨i, hi, hz⟩ := Option.map_eq_some_iff.1 h
  simp [zeroValue, typeInfo, hi, hz]
theorem cs86_size : cs86.size = 64 := rfl
theorem flat2_get (A B : Value) : ∀ (n j : Nat), j < 2 * n → ((List.replicate n [A, B]).flatten)[j]? = some (if j % 2 = 0 then A else B)
  | 0, j, h => by omega
  | n + 1, 0, h => by simp [List.replicate_succ]
  | n + 1, 1, h => by simp [List.replicate_succ]
  | n + 1, j + 2, h => by
    have := flat2_get A B n j (by omega)
    rw [List.replicate_succ, List.flatten_cons, List.getElem?_append_right (by simp)]
    simp only [List.length_cons, List.length_nil, Nat.add_sub_cancel]
    rw [show (j + 2) % 2 = j % 2 by omega]
    exact this
theorem cs86_get : ∀ j, j < 64 → cs86[j]? = some (scell (slot0 0) (j % 2)) := fun j hj => by
  have := flat2_get (.int .u64 0) (.slice none 0 0) 32 j hj
  unfold cs86
  rw [List.getElem?_toArray, this]
  rfl
section
variable {P : Program} {ops : Array Oper} {rest : List Oper} {o : Oper} {a : Act} {Q : Exit → Act → World → Prop} {α : Type} {E : Enc α}
theorem wp_append_h (w : World) (hgd : o.guard = none) (s x : Operand) (t : TypeId) (ho : o.op = .call { callee := .builtin .append, args := #[s, x], argTypes := #[t, t] })
    (e : TypeId) (ht : P.underlying t = some (.slice e)) (z : Value) (by' : Nat) (hinfo : (P.info? e).map (fun i => (i.zero, i.size, i.bytes)) = some (some z, E.k, by')) (hz : z.cells.size = E.k)
    (B n cap : Nat) (so : Option Addr) (ys : List α) (hs : a.eval s = .slice so n cap) (hown : OwnG E e w B so n cap ys)
    (ad : Addr) (m c : Nat) (xs : List α) (hx : a.eval x = .slice (some ad) m c) (hrow : RowG E w (some ad) m c xs) (hbd : n + m ≤ 140737488355328 ∧ (n + m) * by' ≤ 140737488355328) (hB : B ≤ w.heap.size)
    (h : ∀ so' cap' w', OwnG E e w' B so' (n + m) cap' (ys ++ xs) → w.grownBy w' (Value.slice so n cap).ownBlock → (∀ y, so' = some y → (Value.slice so n cap).ownBlock = some y.block ∨ y.block = w.heap.size) → wpList P ops Q rest (a.put o.dst (.slice so' (n + m) cap')) w') : wpList P ops Q (o :: rest) a w :=
  wpList_plain hgd fun _ hK => op_append_h w s x t ho e ht z by' hinfo hz B n cap so ys hs hown ad m c xs hx hrow hbd hB fun so' cap' w' h1 h2 h3 => hK _ _ (h so' cap' w' h1 h2 h3)
end
theorem cell_fz {w : World} {p : Nat} {cs : Array Value} {t : TypeId} (hb : w.heap[p]? = some (.cells cs t (0, 0))) (i : Nat) (v : Value) (hv : cs[i]? = some v) : w.cell? ⟨p, i, none⟩ = some v ∧ w.frozen? ⟨p, i, none⟩ = false := by
  constructor
  · simp [World.cell?, hb, hv]
  · simp [World.frozen?, hb]
theorem own_in {α : Type} {E : Enc α} {e : TypeId} {w : World} {B n cap : Nat} {a : Option Addr} {xs : List α} {S : Nat → Prop} (h : OwnG E e w B a n cap xs) (hS : ∀ y, a = some y → S y.block) : ∀ z, (Value.slice a n cap).ownBlock = some z → S z := by
  rcases h.cases with ⟨rfl, rfl, rfl, rfl⟩ | ⟨g, cur, rfl, _⟩
  · intro z hz; simp [Value.ownBlock] at hz
  · intro z hz
    obtain rfl : g = z := by simpa [Value.ownBlock] using hz
    exact hS _ rfl
theorem Tou.more {S : Nat → Prop} {a b c : World} (h : Tou S a b) (k : Tou S b c) : Tou S a c := h.trans k fun _ hx => .inl hx
def rng (L i : Nat) : List Nat := (List.range i).map (L + ·)
theorem rng_succ (L i : Nat) : rng L (i + 1) = rng L i ++ [L + i] := by simp [rng, List.range_succ]
section
variable {x : Am} {w : World} {S : Nat → Prop} {p : Nat}
set_option maxHeartbeats 2000000 in
theorem grow_any (h : x.In w S p) (hN : x.sn ≤ 1099511627776) (hfn : x.fn = 0) (htop : ∀ q, 32 * x.sn ≤ q → x.Sl q = slot0 0) :
    Calls Try.prog 49 #[.pointer (some ⟨p, 0, none⟩)] w fun e w' => ∃ (sa : Option Addr) (sc g : Nat) (fa : Option Addr) (fc : Nat), e = .returned (.tuple #[]) ∧
      { x with sa := sa, sn := x.sn + 1, sc := sc, sl := x.sl ++ [g], fa := fa, fn := 32, fc := fc, fr := rng (32 * x.sn) 32 }.In w' (gr S w w') p ∧ Tou S w w' := by
  have b1 := h.c1
  have z0 := zero86
  have hbx := h.fz 1
  go_enter Try.func49, Try.ntmps49
  obtain ⟨B, hB⟩ : ∃ B, B = w.heap.size := ⟨_, rfl⟩
  have hal : (w.alloc (.cells cs86 86)).heap.size = B + 1 := by rw [hB]; simp
  have h2 : x.In ((w.alloc (.cells cs86 86)).alloc (.cells #[.pointer (some ⟨B, 0, none⟩)] 74)) S p := (h.below (below_alloc _ _)).below (below_alloc _ _)
  have hrow : RowG EP ((w.alloc (.cells cs86 86)).alloc (.cells #[.pointer (some ⟨B, 0, none⟩)] 74)) (some ⟨B + 1, 0, none⟩) 1 1 [B] := (owng_lit EP _ 74 [B] _ rfl 1 rfl (by omega) (fun _ _ => trivial) (B + 1) 0 hal (by omega)).row
  rw [hB] at h2 hrow
  go_wp2_with (at_builtin; refine wp_append_h _ rfl (.tmp 14) (.tmp 16) 52 rfl 74 Try.underlying52 _ _ infoEP rfl 0 x.sn x.sc x.sa x.sl rfl h2.sls _ 1 1 [w.heap.size] rfl hrow (by omega) (by omega) ?_; intro sa sc w1 o1 g1 a1; obtain ⟨f1, f2⟩ := cell_fz ((Far.block ⟨g1, h2.sls.ty⟩ h2.box (by decide)).trans h2.box) 1 _ rfl)
  have hy := h2.setSlabs (w0 := w) g1 o1 (fun y hy => (a1 y hy).imp id (fun e => by rw [e]; exact Nat.le_refl _)) (by simp; omega) ⟨fun c => absurd (h.lt _ c) (by omega), Nat.le_refl _⟩ ?_ htop
  case refine_1 => exact (World.rowIs_alloc w cs86 _ _ fun j hj => cs86_get j hj).alloc _
  have t1 : Tou S w (w1.setCell ⟨p, 1, none⟩ (.slice sa (x.sn + 1) sc)) := ((Tou.of_below (ext_trans (below_alloc _ _) (below_alloc _ _)) S).more (Tou.grown g1 (own_in h2.sls h2.ss))).more (Tou.set S _ _ _ h.sp)
  obtain ⟨W, hW⟩ : ∃ W, W = w1.setCell ⟨p, 1, none⟩ (.slice sa (x.sn + 1) sc) := ⟨_, rfl⟩
  have hWs : w1.heap.size = W.heap.size := by rw [hW]; simp [World.setCell]
  rw [← hW] at hy t1 ⊢
  have hnil : x.fr = [] := List.eq_nil_of_length_eq_zero (by rw [h.frs.1, hfn])
  clear f1 f2 g1 a1 o1 hrow h2 hal hB z0 hW
  obtain ⟨g, hg⟩ : ∃ g, g = w.heap.size := ⟨_, rfl⟩
  rw [← hg] at hy
  have hg' : Hid (g = w.heap.size) := hg
  clear hg
  obtain ⟨L, hL⟩ : ∃ L, L = 32 * x.sn := ⟨_, rfl⟩
  have hL2 : ((x.sn : Int) * 32) = (L : Int) := by omega
  rw [hL2]
  have HL : Hid (L = 32 * x.sn) := hL
  have hLb : L ≤ 35184372088832 := by omega
  clear hL hL2
  go_loopw [3, 20] (fun s3 s20 wr => ∃ (i : Nat) (fa : Option Addr) (fc : Nat), i ≤ 32 ∧ (∃ z : Value, s3 = z) ∧ s20 = .int .i64 i ∧ { x with sa := sa, sn := x.sn + 1, sc := sc, sl := x.sl ++ [g], fa := fa, fn := i, fc := fc, fr := rng L i }.In wr (gr S w wr) p ∧ Tou S w wr) (fun _ s20 _ => 32 - (intOf s20).toNat)
  case atStart =>
    refine ⟨0, x.fa, x.fc, by omega, ⟨_, rfl⟩, rfl, ?_, t1⟩
    rw [hfn, hnil] at hy
    exact hy.more (fun b hb => hb.imp id (fun hb => ⟨hb.1, by omega⟩)) (fun b hb => hb.elim (fun hb => Nat.lt_of_lt_of_le (h.lt b hb) t1.size) And.right)
  case round =>
    obtain ⟨i, fa, fc, hi, ⟨z, rfl⟩, rfl, hx, ht⟩ := hrel
    by_cases hlt : i < 32
    · have h1 : (i : Int) < 32 := by omega
      have b2 := hx.c2
      have h2 := hx.below (below_alloc wr (.cells #[.int .i64 ((L + i : Nat) : Int)] 3))
      have hrow : RowG EI (wr.alloc (.cells #[.int .i64 ((L + i : Nat) : Int)] 3)) (some ⟨wr.heap.size, 0, none⟩) 1 1 [L + i] := (owng_lit EI _ 3 [L + i] _ rfl 1 rfl (by omega) (fun _ _ => trivial) _ 0 rfl (by omega)).row
      have hcast : ((L + i : Nat) : Int) = (L : Int) + (i : Int) := by omega
      rw [hcast] at h2 hrow
      clear hcast
      go_wp2_with (at_builtin; refine wp_append_h _ rfl (.tmp 27) (.tmp 31) 53 rfl 3 Try.underlying53 _ _ infoEI rfl 0 i fc fa (rng L i) rfl h2.frs _ 1 1 [L + i] rfl hrow (by omega) (by omega) ?_; intro fa' fc' w2 o2 g2 a2; obtain ⟨f1, f2⟩ := cell_fz ((Far.block ⟨g2, h2.frs.ty⟩ h2.box (by decide)).trans h2.box) 2 _ rfl)
      have hz := h2.setFree g2 o2 a2
      have t2 := ht.go (((Tou.of_below (below_alloc _ _) _).more (Tou.grown g2 (own_in h2.frs h2.sf))).more (Tou.set _ _ ⟨p, 2, none⟩ (.slice fa' (i + 1) fc') h2.sp))
      go_roundw
      case rel =>
        refine ⟨i + 1, fa', fc', by omega, ⟨_, rfl⟩, by go_num, ?_, t2⟩
        rw [rng_succ]
        refine hz.more (fun b hb => gr_to hb (by have := ht.size; simp; omega) ?_ ?_) (fun b hb => hb.elim (fun hb => Nat.lt_of_lt_of_le (h.lt b hb) t2.size) And.right)
        · have := g2.size; simp at this; simp [World.setCell]; omega
        · simp [World.setCell]
      case measure => simp [intOf]; omega
    · obtain rfl : i = 32 := by omega
      go_wp2_with fail
      go_end0
      rw [HL.out] at hx
      exact ⟨sa, sc, g, fa, fc, rfl, hx, ht⟩

theorem rng_mem (L i x : Nat) : x ∈ rng L i ↔ L ≤ x ∧ x < L + i := by
  simp only [rng, List.mem_map, List.mem_range]
  exact ⟨fun ⟨a, h1, h2⟩ => by omega, fun h => ⟨x - L, by omega, by omega⟩⟩
theorem rng_nodup (L i : Nat) : (rng L i).Nodup := by
  induction i with
  | zero => simp [rng]
  | succ i ih =>
    rw [rng_succ, List.nodup_append]
    refine ⟨ih, by simp, fun a ha b hb => ?_⟩
    rw [rng_mem] at ha
    simp at hb
    omega
theorem rng_len (L i : Nat) : (rng L i).length = i := by simp [rng]
/-- The last free place is no longer one. -/
theorem Am.In.pop (h : x.In w S p) {ys : List Nat} {k : Nat} (hf : x.fr = ys ++ [k]) : ∃ b n, x.fa = some ⟨b, 0, none⟩ ∧ x.fn = n + 1 ∧ w.cell? ⟨b, n, none⟩ = some (.int .i64 k) ∧ x.fn ≤ x.fc ∧ x.fc ≤ 9223372036854775807 ∧
    { x with fn := n, fr := ys }.In (w.setCell ⟨p, 2, none⟩ (.slice x.fa n x.fc)) (gr S w w) p := by
  have hl := h.frs.1
  rw [hf] at hl
  simp at hl
  have hc := h.frs.row.cap_le
  rcases h.frs.cases with ⟨_, h0, _⟩ | ⟨b, cur, hb, _⟩
  · omega
  · have hr := h.frs.row
    rw [hb] at hr
    have hcell := hr.cells ys.length k (by rw [hf]; simp) 0 (.int .i64 k) rfl
    simp [EI] at hcell
    refine ⟨b, ys.length, hb, hl.symm, hcell, hc.1, hc.2, ?_⟩
    have hown := h.frs.pre ys.length (by omega)
    rw [hf, List.take_left' rfl] at hown
    exact h.setFree ⟨rfl, rfl, rfl, Nat.le_refl _, fun _ _ _ => rfl⟩ hown (fun y hy => .inl (by rw [hy] at hb; obtain rfl := Option.some.inj hb; rw [hy]; rfl))
set_option maxHeartbeats 2000000 in
theorem take_any (h : x.In w S p) {v : Int} {T : Tx} {N : Nat} (hi : Inv v (32 * x.sn) x.fr x.rf x.Sl T N) (hN : N ≤ 1099511627776) :
    Calls Try.prog 40 #[.pointer (some ⟨p, 0, none⟩)] w fun e w' => ∃ (k : Nat) (y : Am), e = .returned (.int .i64 k) ∧ y.In w' (gr S w w') p ∧ Tou S w w' ∧ y.v = x.v ∧ y.rf = x.rf ∧ y.Sl = x.Sl ∧ Inv v (32 * y.sn) (y.fr ++ [k]) y.rf y.Sl T (N + 1) := by
  have hsn : x.sn ≤ 1099511627776 := by have := hi.bnd.2.1; omega
  have b2 := h.c2
  by_cases h0 : x.fn = 0
  · have hnil : x.fr = [] := List.eq_nil_of_length_eq_zero (by rw [h.frs.1, h0])
    have h0' : ((x.fn : Int) == 0) = true := by simp [h0]
    have HZ : Hid (x.fn = 0) := h0
    clear h0
    go_enter Try.func40, Try.ntmps40
    go_wp2_with fail
    refine (grow_any h hsn HZ.out hi.top).mono ?_
    rintro e w1 ⟨sa, sc, g, fa, fc, rfl, hx, ht⟩
    obtain ⟨y, hy⟩ : ∃ y : Am, y = { x with sa := sa, sn := x.sn + 1, sc := sc, sl := x.sl ++ [g], fa := fa, fn := 32, fc := fc, fr := rng (32 * x.sn) 32 } := ⟨_, rfl⟩
    have e1 : Hid (y.v = x.v ∧ y.rf = x.rf ∧ y.Sl = x.Sl ∧ y.sn = x.sn + 1 ∧ y.fr = rng (32 * x.sn) 32) := by rw [hy]; exact ⟨rfl, rfl, rfl, rfl, rfl⟩
    rw [← hy] at hx
    clear hy
    obtain ⟨b, n, hb, hn, hc, hcap, hc63, hpop⟩ := hx.pop (e1.out.2.2.2.2.trans (rng_succ _ 31))
    have b3 := hx.c2
    have f3 := hx.fz 2
    rw [hb, hn] at b3
    rw [hb] at hpop
    rw [hn] at hcap
    obtain ⟨k, hk⟩ : ∃ k, k = 32 * x.sn + 31 := ⟨_, rfl⟩
    rw [← hk] at hc
    have HK : Hid (k = 32 * x.sn + 31) := hk
    have HN : Hid (y.fn = n + 1) := hn
    clear hk hn
    go_wp2_with fail
    go_ret
    refine ⟨k, _, rfl, hpop.more (fun b hb => gr_to hb ht.size (by simp [World.setCell]) (by simp [World.setCell])) (fun b hb => ?_), ht.go (Tou.set _ _ ⟨p, 2, none⟩ (.slice (some ⟨b, 0, none⟩) n y.fc) hx.sp), e1.out.1, e1.out.2.1, e1.out.2.2.1, ?_⟩
    · exact hb.elim (fun hb => by have := h.lt b hb; have := ht.size; simp [World.setCell]; omega) And.right
    · show Inv v (32 * y.sn) (rng (32 * x.sn) 31 ++ [k]) y.rf y.Sl T (N + 1)
      rw [e1.out.2.1, e1.out.2.2.1, e1.out.2.2.2.1, HK.out, ← rng_succ]
      rw [hnil] at hi
      exact hi.grow _ (rng_nodup _ _) (fun q hq => by rw [rng_mem] at hq; omega) (by rw [rng_len]; exact Nat.le_refl _)
  · have h0' : ((x.fn : Int) == 0) = false := by simp [h0]
    have hne : x.fr ≠ [] := fun c => h0 (by rw [← h.frs.1, c]; rfl)
    obtain ⟨ys, k, hf⟩ : ∃ ys k, x.fr = ys ++ [k] := ⟨x.fr.dropLast, x.fr.getLast hne, (List.dropLast_concat_getLast hne).symm⟩
    obtain ⟨b, n, hb, hn, hc, hcap, hc63, hpop⟩ := h.pop hf
    have f3 := h.fz 2
    rw [hn] at h0' b2
    rw [hb] at b2 hpop
    rw [hn] at hcap
    have HN : Hid (x.fn = n + 1) := hn
    have HF : Hid (x.fr = ys ++ [k]) := hf
    clear hn hf h0 hne
    go_enter Try.func40, Try.ntmps40
    go_wp2_with fail
    go_ret
    refine ⟨k, _, rfl, hpop.more (fun b hb => hb.imp id (fun hb => ⟨hb.1, by simpa [World.setCell] using hb.2⟩)) (fun b hb => ?_), Tou.set _ _ ⟨p, 2, none⟩ (.slice (some ⟨b, 0, none⟩) n x.fc) h.sp, rfl, rfl, rfl, ?_⟩
    · exact hb.elim (fun hb => by have := h.lt b hb; simp [World.setCell]; omega) And.right
    · show Inv v (32 * x.sn) (ys ++ [k]) x.rf x.Sl T (N + 1)
      rw [← HF.out]
      exact hi.mono (by omega)
end
end Go.Proofs.Ytafnonmpanpfkaa
