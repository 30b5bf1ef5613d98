/- New; and a space that a call itself made: its calls' contracts once more, in one word. -/
import Derived.Test.YtdmdamidknbjoaaPgRead
import Derived.Test.YtdmdamidknbjoaaPgUnmap
namespace Go.Proofs.Ytdmdamidknbjoaa
open Go.RowKit
set_option maxRecDepth 100000

theorem pnew_any (n : Int) (k : Nat) (hk : min (max n 0) 512 = (k : Int)) (w : World) :
    Calls Try.prog 8 #[.int .i64 n] w fun x w' => ∃ q S, x = .returned (.pointer (some ⟨q, 0, none⟩)) ∧ Spc w' S q k 0 k (fun _ => none) ∧ Below w.heap.size w w' ∧ ∀ x, S x → w.heap.size ≤ x := by
  go_enter Try.func8, Try.ntmps8
  go_wp2_with fail
  refine (new_any n k hk _).mono ?_
  rintro x w1 ⟨p, g, b, S, rfl, hM, hb, hS⟩
  go_wp2_with fail
  go_ret
  have hM2 := hM.below (below_alloc w1 (.cells #[.pointer (some ⟨p, 0, none⟩), .int .i64 k, .map none] 51))
  have hsz : (w1.alloc (.cells #[.pointer (some ⟨p, 0, none⟩), .int .i64 k, .map none] 51)).heap.size = w1.heap.size + 1 := by simp
  refine ⟨w1.heap.size, fun x => S x ∨ x = w1.heap.size, rfl, ⟨S, p, _, g, b, none, fun _ => none, ⟨hM2, hnew_at _ _ _ rfl, map_nil _ _, fun i e he => (by cases he), fun i e j he => (by cases he), fun i e j i' e' j' he => (by cases he), ⟨.inr rfl, fun hc => by have := hM.tab.lt _ hc; omega⟩, fun x hx => (by cases hx), fun x hx => .inl hx, fun x hx => ?_⟩, ?_, fun _ => rfl⟩, hb.trans (pnew _ _ hb.size), fun x hx => ?_⟩
  · exact hx.elim (fun hx => by have := hM.tab.lt x hx; omega) (fun hx => by omega)
  · rw [cnt_none (fun _ _ => rfl)]; omega
  · exact hx.elim (hS x) (fun hx => by have := hb.size; omega)

/-- At q there is a space, all of it made since W. -/
def Po (W w : World) (q K c free : Nat) (T : Txt) : Prop := ∃ S : Nat → Prop, Spc w S q K c free T ∧ Below W.heap.size W w ∧ ∀ x, S x → W.heap.size ≤ x
section
variable {W w : World} {q K c free : Nat} {T : Txt}
theorem Po.below (h : Po W w q K c free T) : Below W.heap.size W w := by obtain ⟨_, _, hb, _⟩ := h; exact hb
theorem Po.on {w' : World} (h : Po W w q K c free T) (hb : Below w.heap.size w w') : Po W w' q K c free T := by
  obtain ⟨S, h1, h2, h3⟩ := h
  exact ⟨S, h1.below hb, h2.trans (hb.mono h2.size), h3⟩
theorem ent_none {S0 S : Nat → Prop} {p g : Nat} {A : Mm} {b : Nat → Nat} {m : Option Nat} {E : Int → Option Ent} {w : World} (_h : Spr w S S0 q p K c A g b m E) (hT : ∀ i, T i = (E i).map fun e => (e.n, e.f)) {i : Int} (h0 : T i = none) : E i = none := by
  rw [hT i] at h0
  cases he : E i with
  | none => rfl
  | some e => rw [he] at h0; cases h0
theorem ent_some {S0 S : Nat → Prop} {p g : Nat} {A : Mm} {b : Nat → Nat} {m : Option Nat} {E : Int → Option Ent} {w : World} (_h : Spr w S S0 q p K c A g b m E) (hT : ∀ i, T i = (E i).map fun e => (e.n, e.f)) {i : Int} {N : Nat} {f : Nat → Int} (h0 : T i = some (N, f)) : ∃ e, E i = some e ∧ e.n = N ∧ e.f = f := by
  rw [hT i] at h0
  cases hE : E i with
  | none => rw [hE] at h0; cases h0
  | some e => rw [hE] at h0; simp only [Option.map_some, Option.some.injEq, Prod.mk.injEq] at h0; exact ⟨e, rfl, h0.1, h0.2⟩
/-- What a space has are bytes, at most 64 of them. -/
theorem Spc.byt {S : Nat → Prop} (h : Spc w S q K c free T) {i : Int} {N : Nat} {f : Nat → Int} (h0 : T i = some (N, f)) : N ≤ 64 ∧ ∀ j, j < N → 0 ≤ f j ∧ f j < 256 := by
  obtain ⟨S0, p, A, g, b, m, E, hR, _, hT⟩ := h
  obtain ⟨e, he, rfl, rfl⟩ := ent_some hR hT h0
  refine ⟨(hR.row i e he).2.2.2, fun j hj => ?_⟩
  obtain ⟨F, hF, hv⟩ := hR.byt i e j he hj
  rw [← hv]
  exact hR.mem.tab.byt _ _ _ hF (Nat.mod_lt _ (by omega))
theorem spc_read {S : Nat → Prop} (h : Spc w S q K c free T) (i : Int) (hi : U i) (N : Nat) (f : Nat → Int) (h0 : T i = some (N, f)) (off n : Nat) (hn : off + n ≤ N) :
    Calls Try.prog 13 #[.pointer (some ⟨q, 0, none⟩), .int .u64 i, .int .i64 off, .int .i64 n] w fun x w' => ∃ r, x = .returned (.tuple #[.slice (some ⟨r, 0, none⟩) n n, .int .i64 0]) ∧ w'.rowIs r 5 n (fun j => .int .u8 (f (off + j))) ∧ w.heap.size ≤ r ∧ Below w.heap.size w w' := by
  obtain ⟨S0, p, A, g, b, m, E, hR, _, hT⟩ := h
  obtain ⟨e, he, rfl, rfl⟩ := ent_some hR hT h0
  exact read_any hR i hi e he off n hn
theorem spc_read_none {S : Nat → Prop} (h : Spc w S q K c free T) (i : Int) (hi : U i) (h0 : T i = none) (off n : Int) :
    Calls Try.prog 13 #[.pointer (some ⟨q, 0, none⟩), .int .u64 i, .int .i64 off, .int .i64 n] w fun x w' => x = .returned (.tuple #[.slice none 0 0, .int .i64 7]) ∧ Below w.heap.size w w' := by
  obtain ⟨S0, p, A, g, b, m, E, hR, _, hT⟩ := h
  exact read_none hR i hi (ent_none hR hT h0) off n
theorem spc_read_range {S : Nat → Prop} (h : Spc w S q K c free T) (i : Int) (hi : U i) (N : Nat) (f : Nat → Int) (h0 : T i = some (N, f)) (off n : Int) (ho : -9223372036854775808 ≤ off ∧ off < 9223372036854775808) (hn : off < 0 ∨ n < 0 ∨ (N : Int) < off + n) :
    Calls Try.prog 13 #[.pointer (some ⟨q, 0, none⟩), .int .u64 i, .int .i64 off, .int .i64 n] w fun x w' => x = .returned (.tuple #[.slice none 0 0, .int .i64 11]) ∧ Below w.heap.size w w' := by
  obtain ⟨S0, p, A, g, b, m, E, hR, _, hT⟩ := h
  obtain ⟨e, he, rfl, rfl⟩ := ent_some hR hT h0
  exact read_range hR i hi e he off n ho hn
theorem spc_write_none {S : Nat → Prop} (h : Spc w S q K c free T) (i : Int) (hi : U i) (h0 : T i = none) (off : Int) (a : Option Addr) (len cap : Nat) :
    Calls Try.prog 11 #[.pointer (some ⟨q, 0, none⟩), .int .u64 i, .int .i64 off, .slice a len cap] w fun x w' => x = .returned (.int .i64 7) ∧ Below w.heap.size w w' := by
  obtain ⟨S0, p, A, g, b, m, E, hR, _, hT⟩ := h
  exact write_none hR i hi (ent_none hR hT h0) off a len cap
theorem spc_write_range {S : Nat → Prop} (h : Spc w S q K c free T) (i : Int) (hi : U i) (N : Nat) (f : Nat → Int) (h0 : T i = some (N, f)) (off : Int) (ho : -9223372036854775808 ≤ off ∧ off < 9223372036854775808) (a : Option Addr) (len cap : Nat) (hn : off < 0 ∨ (len : Int) < 0 ∨ (N : Int) < off + len) :
    Calls Try.prog 11 #[.pointer (some ⟨q, 0, none⟩), .int .u64 i, .int .i64 off, .slice a len cap] w fun x w' => x = .returned (.int .i64 11) ∧ Below w.heap.size w w' := by
  obtain ⟨S0, p, A, g, b, m, E, hR, _, hT⟩ := h
  obtain ⟨e, he, rfl, rfl⟩ := ent_some hR hT h0
  exact write_range hR i hi e he off ho a len cap hn
theorem spc_unmap_none {S : Nat → Prop} (h : Spc w S q K c free T) (i : Int) (hi : U i) (h0 : T i = none) : Calls Try.prog 10 #[.pointer (some ⟨q, 0, none⟩), .int .u64 i] w fun x w' => x = .returned (.int .i64 7) ∧ Below w.heap.size w w' := by
  obtain ⟨S0, p, A, g, b, m, E, hR, _, hT⟩ := h
  exact unmap_none hR i hi (ent_none hR hT h0)
theorem spc_len {S : Nat → Prop} (h : Spc w S q K c free T) (i : Int) (hi : U i) (N : Nat) (f : Nat → Int) (h0 : T i = some (N, f)) : Calls Try.prog 15 #[.pointer (some ⟨q, 0, none⟩), .int .u64 i] w fun x w' => x = .returned (.tuple #[.int .i64 N, .int .i64 0]) ∧ Below w.heap.size w w' := by
  obtain ⟨S0, p, A, g, b, m, E, hR, _, hT⟩ := h
  obtain ⟨e, he, rfl, rfl⟩ := ent_some hR hT h0
  exact len_some hR i hi e he
theorem spc_free {S : Nat → Prop} (h : Spc w S q K c free T) : Calls Try.prog 16 #[.pointer (some ⟨q, 0, none⟩)] w fun x w' => x = .returned (.int .i64 free) ∧ Below w.heap.size w w' := by
  obtain ⟨S0, p, A, g, b, m, E, hR, hc, hT⟩ := h
  exact pfree_any hR free hc
/-- The same of a space made since W. -/
theorem po_map (h : Po W w q K c free T) (i : Int) (hi : U i) (h0 : T i = none) (n : Nat) (hn : n ≤ 64) (hf : pg n ≤ free) (hc : c < 1000000) : Calls Try.prog 9 #[.pointer (some ⟨q, 0, none⟩), .int .u64 i, .int .i64 n] w fun x w' => x = .returned (.int .i64 0) ∧ Po W w' q K (c + 1) (free - pg n) (setI T i (some (n, fun _ => 0))) := by
  obtain ⟨S, h1, h2, h3⟩ := h
  exact (map_ok h1 i hi h0 n hn hf hc).mono fun _ _ ⟨he, S', k1, k2, k3⟩ => ⟨he, S', k1, h2.trans (k2.below h3 h2.size), fun x hx => (k3 x hx).elim (h3 x) (fun e => Nat.le_trans h2.size e)⟩
theorem po_full (h : Po W w q K c free T) (i : Int) (hi : U i) (h0 : T i = none) (n : Nat) (hn : n ≤ 64) (hf : free < pg n) : Calls Try.prog 9 #[.pointer (some ⟨q, 0, none⟩), .int .u64 i, .int .i64 n] w fun x w' => x = .returned (.int .i64 9) ∧ Po W w' q K c free T := by
  have h' := h
  obtain ⟨S, h1, h2, h3⟩ := h'
  exact (map_full h1 i hi h0 n hn hf).mono fun _ _ ⟨he, hb⟩ => ⟨he, h.on hb⟩
theorem po_unmap (h : Po W w q K c free T) (i : Int) (hi : U i) (N : Nat) (f : Nat → Int) (h0 : T i = some (N, f)) : Calls Try.prog 10 #[.pointer (some ⟨q, 0, none⟩), .int .u64 i] w fun x w' => x = .returned (.int .i64 0) ∧ Po W w' q K c (free + pg N) (setI T i none) := by
  obtain ⟨S, h1, h2, h3⟩ := h
  exact (unmap_ok h1 i hi N f h0).mono fun _ _ ⟨he, k1, k2⟩ => ⟨he, S, k1, h2.trans (k2.below h3 h2.size), h3⟩
theorem po_write (h : Po W w q K c free T) (i : Int) (hi : U i) (N : Nat) (f : Nat → Int) (h0 : T i = some (N, f)) (a : Option Addr) (len cap : Nat) (bs : List Int) (hr : Row w a len cap bs) (hd : ∀ x, a = some x → 0 < len → x.block < W.heap.size) (off : Nat) (hn : off + len ≤ N) :
    Calls Try.prog 11 #[.pointer (some ⟨q, 0, none⟩), .int .u64 i, .int .i64 off, .slice a len cap] w fun x w' => x = .returned (.int .i64 0) ∧ Po W w' q K c free (setI T i (some (N, fW f off bs len))) := by
  obtain ⟨S, h1, h2, h3⟩ := h
  exact (write_ok h1 i hi N f h0 a len cap bs hr (fun x hx h0 hc => by have := hd x hx h0; have := h3 _ hc; omega) off hn).mono fun _ _ ⟨he, k1, k2⟩ => ⟨he, S, k1, h2.trans (k2.below h3 h2.size), h3⟩
theorem po_write_range (h : Po W w q K c free T) (i : Int) (hi : U i) (N : Nat) (f : Nat → Int) (h0 : T i = some (N, f)) (off : Int) (ho : -9223372036854775808 ≤ off ∧ off < 9223372036854775808) (a : Option Addr) (len cap : Nat) (hn : off < 0 ∨ (len : Int) < 0 ∨ (N : Int) < off + len) :
    Calls Try.prog 11 #[.pointer (some ⟨q, 0, none⟩), .int .u64 i, .int .i64 off, .slice a len cap] w fun x w' => x = .returned (.int .i64 11) ∧ Below w.heap.size w w' := by
  obtain ⟨S, h1, h2, h3⟩ := h
  exact spc_write_range h1 i hi N f h0 off ho a len cap hn
theorem po_read (h : Po W w q K c free T) (i : Int) (hi : U i) (N : Nat) (f : Nat → Int) (h0 : T i = some (N, f)) (off n : Nat) (hn : off + n ≤ N) :
    Calls Try.prog 13 #[.pointer (some ⟨q, 0, none⟩), .int .u64 i, .int .i64 off, .int .i64 n] w fun x w' => ∃ r, x = .returned (.tuple #[.slice (some ⟨r, 0, none⟩) n n, .int .i64 0]) ∧ w'.rowIs r 5 n (fun j => .int .u8 (f (off + j))) ∧ w.heap.size ≤ r ∧ Below w.heap.size w w' := by
  obtain ⟨S, h1, h2, h3⟩ := h
  exact spc_read h1 i hi N f h0 off n hn
theorem po_read_range (h : Po W w q K c free T) (i : Int) (hi : U i) (N : Nat) (f : Nat → Int) (h0 : T i = some (N, f)) (off n : Int) (ho : -9223372036854775808 ≤ off ∧ off < 9223372036854775808) (hn : off < 0 ∨ n < 0 ∨ (N : Int) < off + n) :
    Calls Try.prog 13 #[.pointer (some ⟨q, 0, none⟩), .int .u64 i, .int .i64 off, .int .i64 n] w fun x w' => x = .returned (.tuple #[.slice none 0 0, .int .i64 11]) ∧ Below w.heap.size w w' := by
  obtain ⟨S, h1, h2, h3⟩ := h
  exact spc_read_range h1 i hi N f h0 off n ho hn
theorem po_len (h : Po W w q K c free T) (i : Int) (hi : U i) (N : Nat) (f : Nat → Int) (h0 : T i = some (N, f)) : Calls Try.prog 15 #[.pointer (some ⟨q, 0, none⟩), .int .u64 i] w fun x w' => x = .returned (.tuple #[.int .i64 N, .int .i64 0]) ∧ Below w.heap.size w w' := by
  obtain ⟨S, h1, h2, h3⟩ := h
  exact spc_len h1 i hi N f h0
theorem po_free (h : Po W w q K c free T) : Calls Try.prog 16 #[.pointer (some ⟨q, 0, none⟩)] w fun x w' => x = .returned (.int .i64 free) ∧ Below w.heap.size w w' := by
  obtain ⟨S, h1, h2, h3⟩ := h
  exact spc_free h1
theorem po_new {w : World} (hb : Below W.heap.size W w) (n : Int) (k : Nat) (hk : min (max n 0) 512 = (k : Int)) : Calls Try.prog 8 #[.int .i64 n] w fun x w' => ∃ q, x = .returned (.pointer (some ⟨q, 0, none⟩)) ∧ Po W w' q k 0 k (fun _ => none) :=
  (pnew_any n k hk w).mono fun _ _ ⟨q, S, he, h1, h2, h3⟩ => ⟨q, he, S, h1, hb.trans (h2.mono hb.size), fun x hx => Nat.le_trans hb.size (h3 x hx)⟩
end
/-- A row of bytes, as a slice's. -/
theorem row_of_bytes {w : World} {r n : Nat} {f : Nat → Int} (h : w.rowIs r 5 n (fun j => .int .u8 (f j))) (hn : n ≤ 9223372036854775807) (hb : ∀ j, j < n → 0 ≤ f j ∧ f j < 256) : Row w (some ⟨r, 0, none⟩) n n ((List.range n).map f) := by
  refine ⟨by simp, Nat.le_refl _, hn, fun x hx => ?_, fun h => (by cases h), fun _ => ⟨_, _, rfl⟩, fun x hx i hi => ?_⟩
  · obtain ⟨j, hj, rfl⟩ := List.mem_map.1 hx
    exact hb j (by simpa using hj)
  · obtain rfl := Option.some.inj hx
    have h1 := h.cell hi
    have h2 : (⟨r, 0, none⟩ : Addr).add i = ⟨r, i, none⟩ := by
      by_cases h0 : i = 0
      · subst h0; simp [Addr.add]
      · simp [Addr.add, h0]
    rw [h2, h1]
    simp [List.getD, hi]
end Go.Proofs.Ytdmdamidknbjoaa
