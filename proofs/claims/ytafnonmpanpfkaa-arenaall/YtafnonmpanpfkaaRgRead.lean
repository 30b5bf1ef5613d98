/- What the functions that only read lists of letters answer: contracts. -/
import Derived.Test.YtafnonmpanpfkaaRings
import Derived.Test.YtafnonmpanpfkaaNumBytes
import Derived.Test.YtafnonmpanpfkaaRegion
import Derived.BigQuiet
namespace Go.Proofs.Ytafnonmpanpfkaa
open Go.RowKit
set_option maxRecDepth 100000
set_option linter.unusedVariables false

/-- What 'string(b)' of bytes is. -/
theorem strR : Hid (∀ (W : World) (ao : Option Addr) (n c : Nat) (zs : List Int), Row W ao n c zs → (convert 32 9 (.slice ao n c)).run Try.prog W = .ok (.string (strOfNums zs)) W) := fun W ao n c zs hrow => run_str (P := Try.prog) W 32 9 5 Try.underlying32 Try.underlying5 Try.underlying9 ao n c zs hrow
theorem bytesOfR_inj : ∀ {xs ys : List Int}, Byt xs → Byt ys → Lib.bytesOf xs = Lib.bytesOf ys → xs = ys
  | [], [], _, _, _ => rfl
  | [], _ :: _, _, _, h => by simp [Lib.bytesOf] at h
  | _ :: _, [], _, _, h => by simp [Lib.bytesOf] at h
  | x :: xs, y :: ys, hx, hy, h => by
    simp only [Lib.bytesOf, List.map_cons, List.cons.injEq] at h
    have h1 := hx x (by simp)
    have h2 := hy y (by simp)
    have h3 := congrArg UInt8.toNat h.1
    rw [UInt8.toNat_ofNat', UInt8.toNat_ofNat'] at h3
    have h4 : x = y := by omega
    rw [h4, bytesOfR_inj (fun z hz => hx z (by simp [hz])) (fun z hz => hy z (by simp [hz])) h.2]
theorem strR_inj {xs ys : List Int} (hx : Byt xs) (hy : Byt ys) (h : (strOfNums xs).toList = (strOfNums ys).toList) : xs = ys := by
  rw [Lib.strOfNums_toList, Lib.strOfNums_toList] at h
  exact bytesOfR_inj hx hy h

/-- Are these not too many letters, none too long? -/
def mayT (ls : List (List Int)) : Bool := decide (ls.length ≤ 4) && ls.all fun l => decide (l.length ≤ 16)
theorem mayT_iff (ls : List (List Int)) : mayT ls = true ↔ ls.length ≤ 4 ∧ ∀ l ∈ ls, l.length ≤ 16 := by simp [mayT]
theorem RowR.le16 {w : World} {a : Option Addr} {n cap : Nat} {ps : List Le} (h : RowR w a n cap ps) : (∀ l ∈ txt ps, l.length ≤ 16) ↔ ∀ p ∈ ps, p.n ≤ 16 := by
  constructor
  · intro g p hp
    have := g p.xs (List.mem_map.2 ⟨p, hp, rfl⟩)
    rw [(h.2 p hp).len] at this; exact this
  · intro g l hl
    obtain ⟨p, hp, rfl⟩ := List.mem_map.1 hl
    rw [(h.2 p hp).len]; exact g p hp

end Go.Proofs.Ytafnonmpanpfkaa
