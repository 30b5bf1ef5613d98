/- A copy of the law's into a text, and what it leaves. -/
import Derived.Test.YtdmdamidknbjoaaPgAllErr
import Derived.Test.YtdmdamidknbjoaaRegion
import Derived.Deep.CutRange
namespace Go.Proofs.Ytdmdamidknbjoaa
open Go.RowKit
set_option maxRecDepth 100000

theorem within_cell {w : World} {gd L dc k : Nat} {e : Nm} (c0 : w.cell? ⟨gd, k, none⟩ = some (.slice (some ⟨e.db, 0, none⟩) e.n e.n)) (hkl : k < L) (_hll : L ≤ dc ∧ dc ≤ 9223372036854775807) (h64 : e.n ≤ 64) (off n : Nat) (hn : off + n ≤ e.n) :
    Calls Try.prog 12 #[.int .i64 k, .slice (some ⟨gd, 0, none⟩) L dc, .int .i64 off, .int .i64 n] w fun x w' => x = .returned (.int .i64 0) ∧ w' = w := by
  have y0 : decide ((k : Int) < 0) = false := by simp
  have y1 : decide ((off : Int) < 0) = false := by simp
  have y2 : decide ((n : Int) < 0) = false := by simp
  have y3 : decide ((e.n : Int) < (off : Int)) = false := by simp; omega
  have y4 : decide ((e.n : Int) - (off : Int) < (n : Int)) = false := by simp; omega
  have y5 : (k : Int) < (L : Int) := by omega
  go_enter Try.func12, Try.ntmps12
  go_wp2_with fail
  go_ret
  exact ⟨rfl, rfl⟩
theorem splice_get (cur : List Value) (bs : List Int) (off n len : Nat) (f : Nat → Int) (hc : cur.length = n) (hb : bs.length = len) (hn : off + len ≤ n) (h : ∀ j, j < n → cur[j]? = some (.int .u8 (f j))) (j : Nat) (hj : j < n) :
    (cur.take off ++ bs.map (Value.int .u8) ++ cur.drop (off + len))[j]? = some (.int .u8 (fW f off bs len j)) := by
  unfold fW
  by_cases h1 : j < off
  · rw [if_neg (by omega), List.append_assoc, List.getElem?_append_left (by simp; omega), List.getElem?_take_of_lt h1]
    exact h j hj
  · by_cases h2 : j < off + len
    · rw [if_pos (by omega), List.getElem?_append_left (by simp; omega), List.getElem?_append_right (by simp; omega)]
      simp [List.getD, show min off cur.length = off by omega, show j - off < bs.length by omega]
    · rw [if_neg (by omega), List.getElem?_append_right (by simp; omega), List.getElem?_drop]
      have e1 : off + len + (j - (List.take off cur ++ List.map (Value.int .u8) bs).length) = j := by simp; omega
      rw [e1]
      exact h j hj
theorem copy_bytes {w : World} {g n off : Nat} {f : Nat → Int} (hr : w.rowIs g 5 n (fun j => .int .u8 (f j))) {a : Option Addr} {len cap : Nat} {bs : List Int} (hrow : Row w a len cap bs) (hn : off + len ≤ n) (da : Option Addr) (dl dc : Nat) (hd : da = some ⟨g, off, none⟩ ∧ dl = n - off ∨ len = 0) (ty : TypeId) :
    ∃ x w', (Builtin.copy_ #[29, 29] ty #[.slice da dl dc, .slice a len cap]).run Try.prog w = .ok x w' ∧ w'.rowIs g 5 n (fun j => .int .u8 (fW f off bs len j)) ∧ Chg (fun x => x = g) w w' := by
  have hinfo : (Try.prog.info? 5).map (·.size) = some 1 := by kernel_rfl
  by_cases h0 : len = 0
  · subst h0
    exact ⟨_, _, run_copy_none (P := Try.prog) w 29 29 ty 5 da a dl dc 0 cap Try.underlying29 hinfo (by simp), hr.congr fun j _ => by unfold fW; rw [if_neg (by omega)], Chg.refl _ _⟩
  · rcases hd with ⟨rfl, rfl⟩ | hd
    · obtain ⟨b, o, rfl, hcell⟩ := hrow.at (by omega)
      obtain ⟨cur, hg, hsz, hcs⟩ := hr
      have hl := hrow.len
      have hrun := run_copy_row (P := Try.prog) w 29 29 ty 5 g off (n - off) dc ⟨b, o, none⟩ len cap cur 5 (bs.map (Value.int .u8)) Try.underlying29 hinfo hg (by simp [hl, Nat.min_def]; omega) hrow.news (by simp; omega) (ints_one bs)
      refine ⟨_, _, hrun, ⟨_, setRow_heap w g cur _ 5 _ hg, ?_, fun j hj => ?_⟩, ?_⟩
      · simp; omega
      · have := splice_get cur.toList bs off n len f (by simpa using hsz) hl hn (fun j hj => by have := hcs j hj; simpa using this) j hj
        simpa [hl] using this
      · exact ⟨rfl, rfl, rfl, by simp [World.setRow], fun k _ hk => setRow_other w g k _ hk⟩
    · exact absurd hd h0
theorem set_get {ls : List Nm} {i j : Nat} {e e' : Nm} (h : (ls.set i e)[j]? = some e') : (j = i ∧ e' = e) ∨ (j ≠ i ∧ ls[j]? = some e') := by
  by_cases hj : j = i
  · subst hj
    rw [List.getElem?_set_self' ] at h
    cases hls : ls[j]? with
    | none => rw [hls] at h; cases h
    | some x => rw [hls] at h; simp at h; exact .inl ⟨rfl, h.symm⟩
  · rw [List.getElem?_set_ne (fun h => hj h.symm)] at h
    exact .inr ⟨hj, h⟩
theorem map_set_same {α : Type} (f : Nm → α) {ls : List Nm} {i : Nat} {e0 e2 : Nm} (h : ls[i]? = some e0) (hf : f e2 = f e0) : (ls.set i e2).map f = ls.map f := by
  apply List.ext_getElem?
  intro j
  by_cases hj : j = i
  · subst hj
    have hl := (List.getElem?_eq_some_iff.1 h).1
    rw [List.getElem?_map, List.getElem?_set_self hl, List.getElem?_map, h]
    simp [hf]
  · simp [List.getElem?_set_ne (fun h => hj h.symm)]
theorem set_mem {ls : List Nm} {i : Nat} {e2 e' : Nm} (h : e' ∈ ls.set i e2) : ∃ j, (j = i ∧ e' = e2) ∨ (j ≠ i ∧ ls[j]? = some e') := by
  obtain ⟨j, hj⟩ := List.getElem?_of_mem h
  exact ⟨j, set_get hj⟩
section
variable {W w w' : World} {S : Nat → Prop} {q k c fr v i n1 n2 : Nat} {T : Txt} {e0 : Nm} {ls : List Nm} {ia da : Option Addr} {ic dc : Nat} {vo : Array Value} {d f' : Nat → Int}
theorem write_done (hx : Mdx W w S q k c fr (setI T e0.id (some (e0.n, f'))) (ls.map Nm.id) (ls.map fun e => (e.db, e.n)) ls ia da ic dc n1 n2 v vo) (hsay : Says T ls) (hi : ls[i]? = some e0) (hd : ∀ j, j < e0.n → f' j = d j) (hb : ∀ j, j < e0.n → 0 ≤ d j ∧ d j < 256)
    (hr : w'.rowIs e0.db 5 e0.n (fun j => .int .u8 (d j))) (hc : Chg (fun x => x = e0.db) w w') : Md W w' q k c fr (ls.set i { e0 with d := d }) ia da ic dc := by
  have hil := (List.getElem?_eq_some_iff.1 hi).1
  have he0 := List.mem_of_getElem? hi
  have hin : ∀ {j e'}, j ≠ i → ls[j]? = some e' → e' ∈ ls.set i { e0 with d := d } := fun {j e'} hj hl => List.mem_of_getElem? (i := j) (by rw [List.getElem?_set_ne (fun h => hj h.symm)]; exact hl)
  have hin2 : ({ e0 with d := d } : Nm) ∈ ls.set i { e0 with d := d } := List.mem_of_getElem? (i := i) (List.getElem?_set_self hil)
  have hs : Says (setI T e0.id (some (e0.n, f'))) (ls.set i { e0 with d := d }) := by
    refine ⟨fun e' he' => ?_, fun x hx => ?_, fun j l e1 e2 g1 g2 hid => ?_⟩
    · obtain ⟨j, ⟨_, rfl⟩ | ⟨hj, hl⟩⟩ := set_mem he'
      · exact ⟨f', setI_same _ _ _, hd⟩
      · obtain ⟨f, hf, hfd⟩ := hsay.has e' (List.mem_of_getElem? hl)
        exact ⟨f, (setI_other _ _ (fun hid => hj (hsay.one _ _ _ _ hl hi hid))).trans hf, hfd⟩
    · have hne : x ≠ e0.id := fun h => hx _ hin2 h.symm
      rw [setI_other _ _ hne]
      refine hsay.no x (fun e' he' hid => ?_)
      obtain ⟨j, hj⟩ := List.getElem?_of_mem he'
      by_cases hji : j = i
      · subst hji; rw [hi] at hj; obtain rfl := Option.some.inj hj; exact hne hid.symm
      · exact hx e' (hin hji hj) hid
    · rcases set_get g1 with ⟨a1, a2⟩ | ⟨a1, a2⟩ <;> rcases set_get g2 with ⟨b1, b2⟩ | ⟨b1, b2⟩
      · omega
      · subst a2; exact absurd (hsay.one _ _ _ _ hi b2 hid).symm b1
      · subst b2; exact absurd (hsay.one _ _ _ _ a2 hi hid) a1
      · exact hsay.one _ _ _ _ a2 b2 hid
  obtain ⟨cdb, hcdb, _⟩ := (hx.txs.row e0 he0).1
  have hno : ∀ x, x < w.heap.size → x ≠ e0.db → w'.heap[x]? = w.heap[x]? := fun x hx hn => hc.block x hx hn
  have hlt : ∀ {x : Nat} {a : Array Value} {t : TypeId}, w.heap[x]? = some (.cells a t (0, 0)) → t ≠ 5 → w'.heap[x]? = w.heap[x]? := fun {x a t} hx ht => hno x (Array.getElem?_eq_some_iff.1 hx).1 (cells_ne hx hcdb ht)
  have ht : Txs w' W S (ls.set i { e0 with d := d }) := by
    refine ⟨fun e' he' => ?_, fun e' he' => ?_, fun j l e1 e2 g1 g2 hid => ?_⟩
    · obtain ⟨j, ⟨_, rfl⟩ | ⟨hj, hl⟩⟩ := set_mem he'
      · exact ⟨hr, (hx.txs.row e0 he0).2⟩
      · obtain ⟨r1, r2⟩ := hx.txs.row e' (List.mem_of_getElem? hl)
        exact ⟨r1.of_block (hno _ (row_lt r1) (fun hid => hj (hx.txs.one _ _ _ _ hl hi hid))), r2⟩
    · obtain ⟨j, ⟨_, rfl⟩ | ⟨hj, hl⟩⟩ := set_mem he'
      · exact hb
      · exact hx.txs.byt e' (List.mem_of_getElem? hl)
    · rcases set_get g1 with ⟨a1, a2⟩ | ⟨a1, a2⟩ <;> rcases set_get g2 with ⟨b1, b2⟩ | ⟨b1, b2⟩
      · omega
      · subst a2; exact absurd (hx.txs.one _ _ _ _ hi b2 hid).symm b1
      · subst b2; exact absurd (hx.txs.one _ _ _ _ a2 hi hid) a1
      · exact hx.txs.one _ _ _ _ a2 b2 hid
  have hx2 : Mdx W w' S q k c fr (setI T e0.id (some (e0.n, f'))) ((ls.set i { e0 with d := d }).map Nm.id) ((ls.set i { e0 with d := d }).map fun e => (e.db, e.n)) (ls.set i { e0 with d := d }) ia da ic dc n1 n2 v vo := by
    rw [map_set_same Nm.id (e2 := { e0 with d := d }) hi rfl, map_set_same (fun e => (e.db, e.n)) (e2 := { e0 with d := d }) hi rfl]
    refine ⟨hx.spc.other hc (fun x hs he => (hx.txs.row e0 he0).2.2.1 (by rw [← he]; exact hs)), hx.sS, hx.bel.trans (hc.below (fun x he => by rw [he]; exact (hx.txs.row e0 he0).2.1) hx.bel.size), hx.ids.chg fun y hy => ?_, hx.dat.chg fun y hy => ?_, hx.si, hx.sd, ht, (hlt hx.var.1 (by decide)).trans hx.var.1, hx.var.2⟩
    · obtain ⟨cur, hk⟩ := hx.ids.spot hy
      exact hlt hk (by decide)
    · obtain ⟨cur, hk⟩ := hx.dat.spot hy
      exact hlt hk (by decide)
  exact hx2.md_of hs
end
end Go.Proofs.Ytdmdamidknbjoaa
