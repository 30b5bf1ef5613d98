/- The law's run: a space and, beside it, a list of ids and a list of texts that are to say the same. -/
import Derived.Test.YtdmdamidknbjoaaPgStr
import Derived.Test.YtdmdamidknbjoaaPgBegun
import Derived.Test.YtdmdamidknbjoaaCells
namespace Go.Proofs.Ytdmdamidknbjoaa
open Go.RowKit
set_option maxRecDepth 100000

/-- Ids, and slices of bytes, as elements of slices. -/
def EU : Enc Int := ⟨1, by decide, fun x => [.int .u64 x], fun _ => rfl, fun x u hu => by simp at hu; subst hu; rfl, U⟩
def ED : Enc (Nat × Nat) := ⟨1, by decide, fun p => [.slice (some ⟨p.1, 0, none⟩) p.2 p.2], fun _ => rfl, fun x u hu => by simp at hu; subst hu; rfl, fun _ => True⟩
/-- An id that is mapped: how many bytes, which, and where the law keeps them. -/
structure Nm where
  id : Int
  n : Nat
  d : Nat → Int
  db : Nat
/-- What the lists say the space says. -/
structure Says (T : Txt) (ls : List Nm) : Prop where
  has : ∀ e ∈ ls, ∃ f, T e.id = some (e.n, f) ∧ ∀ j, j < e.n → f j = e.d j
  no : ∀ i, (∀ e ∈ ls, e.id ≠ i) → T i = none
  one : ∀ (j k : Nat) (e e' : Nm), ls[j]? = some e → ls[k]? = some e' → e.id = e'.id → j = k
/-- The texts, each in a block of its own. -/
structure Txs (w : World) (W : World) (S : Nat → Prop) (ls : List Nm) : Prop where
  row : ∀ e ∈ ls, w.rowIs e.db 5 e.n (fun j => .int .u8 (e.d j)) ∧ W.heap.size ≤ e.db ∧ ¬ S e.db ∧ e.n ≤ 64
  byt : ∀ e ∈ ls, ∀ j, j < e.n → 0 ≤ e.d j ∧ e.d j < 256
  one : ∀ (j k : Nat) (e e' : Nm), ls[j]? = some e → ls[k]? = some e' → e.db = e'.db → j = k
/-- The run's state, all that it is made of: a space at q, the two lists. -/
structure Mds (W w : World) (S : Nat → Prop) (q K c free : Nat) (T : Txt) (ls : List Nm) (ia da : Option Addr) (ic dc : Nat) : Prop where
  spc : Spc w S q K c free T
  sS : ∀ x, S x → W.heap.size ≤ x
  bel : Below W.heap.size W w
  ids : OwnG EU 28 w W.heap.size ia ls.length ic (ls.map Nm.id)
  dat : OwnG ED 29 w W.heap.size da ls.length dc (ls.map fun e => (e.db, e.n))
  si : ∀ x, ia = some x → ¬ S x.block
  sd : ∀ x, da = some x → ¬ S x.block
  txs : Txs w W S ls
  say : Says T ls
def Md (W w : World) (q K c free : Nat) (ls : List Nm) (ia da : Option Addr) (ic dc : Nat) : Prop := ∃ (S : Nat → Prop) (T : Txt), Mds W w S q K c free T ls ia da ic dc
section
variable {W w w' : World} {S : Nat → Prop} {q K c free : Nat} {T : Txt} {ls : List Nm} {ia da : Option Addr} {ic dc : Nat}
theorem Txs.kept (h : Txs w W S ls) (hb : ∀ e ∈ ls, w'.heap[e.db]? = w.heap[e.db]?) : Txs w' W S ls :=
  ⟨fun e he => ⟨(h.row e he).1.of_block (hb e he), (h.row e he).2⟩, h.byt, h.one⟩
theorem Txs.lt (h : Txs w W S ls) : ∀ e ∈ ls, e.db < w.heap.size := fun e he => row_lt (h.row e he).1
theorem Txs.below (h : Txs w W S ls) (hb : Below w.heap.size w w') : Txs w' W S ls := h.kept (fun e he => hb.block _ (h.lt e he))
theorem Mds.below (h : Mds W w S q K c free T ls ia da ic dc) (hb : Below w.heap.size w w') : Mds W w' S q K c free T ls ia da ic dc :=
  ⟨h.spc.below hb, h.sS, h.bel.trans (hb.mono h.bel.size), h.ids.below hb, h.dat.below hb, h.si, h.sd, h.txs.below hb, h.say⟩
theorem Md.below (h : Md W w q K c free ls ia da ic dc) (hb : Below w.heap.size w w') : Md W w' q K c free ls ia da ic dc := by
  obtain ⟨S, T, h⟩ := h
  exact ⟨S, T, h.below hb⟩
theorem Md.bel (h : Md W w q K c free ls ia da ic dc) : Below W.heap.size W w := by
  obtain ⟨S, T, h⟩ := h
  exact h.bel
/-- What stands in the two lists. -/
theorem Md.len (h : Md W w q K c free ls ia da ic dc) : (ls.length ≤ ic ∧ ic ≤ 9223372036854775807) ∧ (ls.length ≤ dc ∧ dc ≤ 9223372036854775807) := by
  obtain ⟨S, T, h⟩ := h
  exact ⟨h.ids.row.cap_le, h.dat.row.cap_le⟩
theorem Md.at (h : Md W w q K c free ls ia da ic dc) {k : Nat} {e : Nm} (hk : ls[k]? = some e) : ∃ ib ob db od, ia = some ⟨ib, ob, none⟩ ∧ da = some ⟨db, od, none⟩ ∧ w.cell? ⟨ib, ob + k, none⟩ = some (.int .u64 e.id) ∧ w.cell? ⟨db, od + k, none⟩ = some (.slice (some ⟨e.db, 0, none⟩) e.n e.n) := by
  obtain ⟨S, T, h⟩ := h
  have hkl : k < ls.length := (List.getElem?_eq_some_iff.1 hk).1
  obtain ⟨ib, ob, rfl, _⟩ := h.ids.row.at (by omega)
  obtain ⟨db, od, rfl, _⟩ := h.dat.row.at (by omega)
  refine ⟨ib, ob, db, od, rfl, rfl, ?_, ?_⟩
  · have := h.ids.row.cells k e.id (by simp [hk]) 0 (.int .u64 e.id) rfl
    simpa [EU] using this
  · have := h.dat.row.cells k (e.db, e.n) (by simp [hk]) 0 (.slice (some ⟨e.db, 0, none⟩) e.n e.n) rfl
    simpa [ED] using this
theorem Md.u (h : Md W w q K c free ls ia da ic dc) {e : Nm} (he : e ∈ ls) : U e.id := by
  obtain ⟨S, T, h⟩ := h
  exact h.ids.row.ok _ (List.mem_map_of_mem he)
theorem Md.row (h : Md W w q K c free ls ia da ic dc) {e : Nm} (he : e ∈ ls) : w.rowIs e.db 5 e.n (fun j => .int .u8 (e.d j)) ∧ e.n ≤ 64 ∧ ∀ j, j < e.n → 0 ≤ e.d j ∧ e.d j < 256 := by
  obtain ⟨S, T, h⟩ := h
  exact ⟨(h.txs.row e he).1, (h.txs.row e he).2.2.2, h.txs.byt e he⟩
/-- Calls of the space that leave all as it was. -/
theorem md_read (h : Md W w q K c free ls ia da ic dc) {e : Nm} (he : e ∈ ls) (off n : Nat) (hn : off + n ≤ e.n) :
    Calls Try.prog 13 #[.pointer (some ⟨q, 0, none⟩), .int .u64 e.id, .int .i64 off, .int .i64 n] w fun x w' => ∃ r, x = .returned (.tuple #[.slice (some ⟨r, 0, none⟩) n n, .int .i64 0]) ∧ w'.rowIs r 5 n (fun j => .int .u8 (e.d (off + j))) ∧ w.heap.size ≤ r ∧ Below w.heap.size w w' := by
  have hu := h.u he
  obtain ⟨S, T, h⟩ := h
  obtain ⟨f, hf, hfd⟩ := h.say.has e he
  exact (spc_read h.spc e.id hu e.n f hf off n hn).mono fun _ _ ⟨r, h1, h2, h3, h4⟩ => ⟨r, h1, h2.congr fun j hj => by rw [hfd _ (by omega)], h3, h4⟩
theorem md_len (h : Md W w q K c free ls ia da ic dc) {e : Nm} (he : e ∈ ls) :
    Calls Try.prog 15 #[.pointer (some ⟨q, 0, none⟩), .int .u64 e.id] w fun x w' => x = .returned (.tuple #[.int .i64 e.n, .int .i64 0]) ∧ Below w.heap.size w w' := by
  have hu := h.u he
  obtain ⟨S, T, h⟩ := h
  obtain ⟨f, hf, hfd⟩ := h.say.has e he
  exact spc_len h.spc e.id hu e.n f hf
theorem md_free (h : Md W w q K c free ls ia da ic dc) : Calls Try.prog 16 #[.pointer (some ⟨q, 0, none⟩)] w fun x w' => x = .returned (.int .i64 free) ∧ Below w.heap.size w w' := by
  obtain ⟨S, T, h⟩ := h
  exact spc_free h.spc
theorem md_read_range (h : Md W w q K c free ls ia da ic dc) {e : Nm} (he : e ∈ ls) (off n : Int) (ho : -9223372036854775808 ≤ off ∧ off < 9223372036854775808) (hn : off < 0 ∨ n < 0 ∨ (e.n : Int) < off + n) :
    Calls Try.prog 13 #[.pointer (some ⟨q, 0, none⟩), .int .u64 e.id, .int .i64 off, .int .i64 n] w fun x w' => x = .returned (.tuple #[.slice none 0 0, .int .i64 11]) ∧ Below w.heap.size w w' := by
  have hu := h.u he
  obtain ⟨S, T, h⟩ := h
  obtain ⟨f, hf, hfd⟩ := h.say.has e he
  exact spc_read_range h.spc e.id hu e.n f hf off n ho hn
theorem md_read_none (h : Md W w q K c free ls ia da ic dc) (i : Int) (hi : U i) (h0 : ∀ e ∈ ls, e.id ≠ i) (off n : Int) :
    Calls Try.prog 13 #[.pointer (some ⟨q, 0, none⟩), .int .u64 i, .int .i64 off, .int .i64 n] w fun x w' => x = .returned (.tuple #[.slice none 0 0, .int .i64 7]) ∧ Below w.heap.size w w' := by
  obtain ⟨S, T, h⟩ := h
  exact spc_read_none h.spc i hi (h.say.no i h0) off n
theorem md_write_none (h : Md W w q K c free ls ia da ic dc) (i : Int) (hi : U i) (h0 : ∀ e ∈ ls, e.id ≠ i) (off : Int) (a : Option Addr) (len cap : Nat) :
    Calls Try.prog 11 #[.pointer (some ⟨q, 0, none⟩), .int .u64 i, .int .i64 off, .slice a len cap] w fun x w' => x = .returned (.int .i64 7) ∧ Below w.heap.size w w' := by
  obtain ⟨S, T, h⟩ := h
  exact spc_write_none h.spc i hi (h.say.no i h0) off a len cap
theorem md_write_range (h : Md W w q K c free ls ia da ic dc) {e : Nm} (he : e ∈ ls) (off : Int) (ho : -9223372036854775808 ≤ off ∧ off < 9223372036854775808) (a : Option Addr) (len cap : Nat) (hn : off < 0 ∨ (len : Int) < 0 ∨ (e.n : Int) < off + len) :
    Calls Try.prog 11 #[.pointer (some ⟨q, 0, none⟩), .int .u64 e.id, .int .i64 off, .slice a len cap] w fun x w' => x = .returned (.int .i64 11) ∧ Below w.heap.size w w' := by
  have hu := h.u he
  obtain ⟨S, T, h⟩ := h
  obtain ⟨f, hf, hfd⟩ := h.say.has e he
  exact spc_write_range h.spc e.id hu e.n f hf off ho a len cap hn
theorem md_unmap_none (h : Md W w q K c free ls ia da ic dc) (i : Int) (hi : U i) (h0 : ∀ e ∈ ls, e.id ≠ i) : Calls Try.prog 10 #[.pointer (some ⟨q, 0, none⟩), .int .u64 i] w fun x w' => x = .returned (.int .i64 7) ∧ Below w.heap.size w w' := by
  obtain ⟨S, T, h⟩ := h
  exact spc_unmap_none h.spc i hi (h.say.no i h0)
theorem md_map_arg (h : Md W w q K c free ls ia da ic dc) (i : Int) (hi : U i) (n : Int) (hn : n < 0 ∨ 64 < n ∨ ∃ e ∈ ls, e.id = i) : Calls Try.prog 9 #[.pointer (some ⟨q, 0, none⟩), .int .u64 i, .int .i64 n] w fun x w' => x = .returned (.int .i64 1) ∧ Below w.heap.size w w' := by
  obtain ⟨S, T, h⟩ := h
  refine map_arg h.spc i hi n (hn.imp id (fun h1 => h1.imp id (fun ⟨e, he, hi⟩ => ?_)))
  obtain ⟨f, hf, _⟩ := h.say.has e he
  rw [← hi, hf]
  simp
theorem md_map_full (h : Md W w q K c free ls ia da ic dc) (i : Int) (hi : U i) (h0 : ∀ e ∈ ls, e.id ≠ i) (n : Nat) (hn : n ≤ 64) (hf : free < pg n) : Calls Try.prog 9 #[.pointer (some ⟨q, 0, none⟩), .int .u64 i, .int .i64 n] w fun x w' => x = .returned (.int .i64 9) ∧ Below w.heap.size w w' := by
  obtain ⟨S, T, h⟩ := h
  exact map_full h.spc i hi (h.say.no i h0) n hn hf
end
end Go.Proofs.Ytdmdamidknbjoaa
