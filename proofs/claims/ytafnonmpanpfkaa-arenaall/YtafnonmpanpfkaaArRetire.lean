/- A record's slot is emptied: contract. -/
import Derived.Test.YtafnonmpanpfkaaArPut
namespace Go.Proofs.Ytafnonmpanpfkaa
open Go.RowKit
set_option maxRecDepth 100000
set_option linter.unusedVariables false

theorem upS_twice (f : Nat → Slot) (i : Nat) (a b : Slot) : upS (upS f i a) i b = upS f i b := by
  funext j
  unfold upS
  split <;> rfl
section
variable {x : Am} {w w' : World} {S : Nat → Prop} {p : Nat}
set_option maxHeartbeats 2000000 in
theorem retire_any (h : x.In w S p) {pl : Nat} (hp : pl < 32 * x.sn) (hN : x.sn ≤ 1099511627776) (hfn : x.fn ≤ 1099511627776) (hgn : (x.Sl pl).g ≤ 1099511627776) :
    Calls Try.prog 26 #[.pointer (some ⟨p, 0, none⟩), .int .i64 pl] w fun e w' => ∃ (fa : Option Addr) (fc : Nat), e = .returned (.tuple #[]) ∧
      { x with Sl := upS x.Sl pl (slot0 ((x.Sl pl).g + 1)), fa := fa, fn := x.fn + 1, fc := fc, fr := x.fr ++ [pl] }.In w' (gr S w w') p ∧ Tou S w w' := by
  obtain ⟨b, g, -, hg, _, c2, c3, fz⟩ := h.slot hp
  have f1 := fz (pl % 32 * 2)
  have f2 := fz (pl % 32 * 2 + 1)
  obtain ⟨G, hG⟩ : ∃ G, G = (x.Sl pl).g := ⟨_, rfl⟩
  have hsg := h.sg g (List.mem_of_getElem? hg)
  have h1 := h.setSlot hp hg 0 (by omega) (.int .u64 ((G : Int) + 1)) { x.Sl pl with g := G + 1 } (by simp [scell]) (fun i hi hn => by obtain rfl : i = 1 := (by omega); rfl) (h.lets pl) (h.sx pl)
  have h2 := h1.setSlot (pl := pl) hp hg 1 (by omega) (.slice none 0 0) (slot0 (G + 1)) rfl (fun i hi hn => by obtain rfl : i = 0 := (by omega); simp [scell, slot0, upS_same]) (LeO.nil _ _) (fun y hy => by simp [slot0] at hy)
  simp only [upS_twice, Nat.add_zero] at h2
  have tA : Tou S w ((w.setCell ⟨g, pl % 32 * 2, none⟩ (.int .u64 ((G : Int) + 1))).setCell ⟨g, pl % 32 * 2 + 1, none⟩ (.slice none 0 0)) := (Tou.set S w _ _ hsg).more (Tou.set S _ _ _ hsg)
  rw [← hG] at c2 hgn
  have HG : Hid (G = (x.Sl pl).g) := hG
  clear hG
  have hw : IntKind.u64.wrap ((G : Int) + 1) = (G : Int) + 1 := by rw [IntKind.wrap_u64]; omega
  obtain ⟨WA, hWA⟩ : ∃ WA, WA = ((w.setCell ⟨g, pl % 32 * 2, none⟩ (.int .u64 ((G : Int) + 1))).setCell ⟨g, pl % 32 * 2 + 1, none⟩ (.slice none 0 0)) := ⟨_, rfl⟩
  have f2' : (w.setCell ⟨g, pl % 32 * 2, none⟩ (.int .u64 ((G : Int) + 1))).frozen? ⟨g, pl % 32 * 2 + 1, none⟩ = false := by rw [World.frozen?_setCell]; exact f2
  rw [← hWA] at h2 tA
  have hgp : ¬ g = p := fun c => by
    obtain ⟨cur, hgb, _⟩ := h.row _ _ hg
    rw [c, h.box] at hgb
    simp at hgb
  have hpg : ¬ p = g := fun c => hgp c.symm
  have cb := h.c2
  have fb := h.fz 2
  go_enter Try.func26, Try.ntmps26
  go_wp2_with fail
  refine (at_any h hp hN hg).mono ?_
  rintro e w1 ⟨rfl, rfl⟩
  have hWs : WA.heap.size = w1.heap.size := by rw [hWA]; simp [World.setCell]
  have h3 := h2.below (below_alloc WA (.cells #[.int .i64 pl] 3))
  have hrow : RowG EI (WA.alloc (.cells #[.int .i64 pl] 3)) (some ⟨w1.heap.size, 0, none⟩) 1 1 [pl] := (owng_lit EI _ 3 [pl] _ rfl 1 rfl (by omega) (fun _ _ => trivial) _ 0 (by rw [← hWs]) (by omega)).row
  rw [hWA] at h3 hrow
  go_wp2_with (at_builtin; refine wp_append_h _ rfl (.tmp 22) (.tmp 24) 53 rfl 3 Try.underlying53 _ _ infoEI rfl 0 x.fn x.fc x.fa x.fr rfl h3.frs _ 1 1 [pl] rfl hrow (by omega) (by omega) ?_; intro fa fc w2 o2 g2 a2; obtain ⟨f1, f2⟩ := cell_fz ((Far.block ⟨g2, h3.frs.ty⟩ h3.box (by decide)).trans h3.box) 2 _ rfl)
  have hz := h3.setFree g2 o2 a2
  rw [← hWA] at g2 hz
  go_end0
  have t2 : Tou S w1 (w2.setCell ⟨p, 2, none⟩ (.slice fa (x.fn + 1) fc)) := ((tA.more (Tou.of_below (below_alloc _ _) _)).more (Tou.grown g2 (own_in h2.frs h2.sf))).more (Tou.set _ _ ⟨p, 2, none⟩ (.slice fa (x.fn + 1) fc) h2.sp)
  refine ⟨rfl, ⟨fa, fc, ?_⟩, t2⟩
  rw [← HG.out]
  refine hz.more (fun b hb => hb.imp id (fun hb => ⟨?_, by simpa [World.setCell] using hb.2⟩)) (fun b hb => hb.elim (fun hb => Nat.lt_of_lt_of_le (h.lt b hb) t2.size) And.right)
  have := hb.1
  simp at this
  omega
end
end Go.Proofs.Ytafnonmpanpfkaa
