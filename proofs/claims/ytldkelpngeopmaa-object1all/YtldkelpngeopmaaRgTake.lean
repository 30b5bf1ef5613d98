/- Which bytes are a list of letters, and what ring.Take answers: a contract, for every slice of bytes. -/
import Derived.Test.YtldkelpngeopmaaRgOps
namespace Go.Proofs.Ytldkelpngeopmaa
open Go.RowKit
set_option maxRecDepth 100000
set_option linter.unusedVariables false

/-- Is there a letter at the head of these bytes? How long is it? Which? -/
def okRg (xs : List Int) : Bool := decide (2 ≤ xs.length ∧ num (xs.take 2) + 2 ≤ xs.length)
def szL (xs : List Int) : Nat := (num (xs.take 2)).toNat
def leL (xs : List Int) : List Int := (xs.drop 2).take (szL xs)
/-- k letters behind the first byte, and where the next one would stand. -/
def tkP (xs : List Int) : Nat → Option (List (List Int) × Nat)
  | 0 => some ([], 1)
  | k + 1 => match tkP xs k with
    | none => none
    | some (ls, p) => if okRg (xs.drop p) = true then some (ls ++ [leL (xs.drop p)], p + 2 + szL (xs.drop p)) else none
/-- All the letters that bytes say. -/
def tkR (xs : List Int) : Option (List (List Int) × Nat) := if xs = [] then none else tkP xs (num (xs.take 1)).toNat
theorem tkP_none {xs : List Int} {j k : Nat} (h : tkP xs j = none) (hk : j ≤ k) : tkP xs k = none := by
  induction k with
  | zero => obtain rfl : j = 0 := by omega
            exact h
  | succ k ih =>
    by_cases e : j = k + 1
    · subst e; exact h
    · simp [tkP, ih (by omega)]
theorem tkP_le {xs : List Int} (hx : 1 ≤ xs.length) : ∀ {k : Nat} {ls : List (List Int)} {p : Nat}, tkP xs k = some (ls, p) → 1 ≤ p ∧ p ≤ xs.length ∧ ls.length = k
  | 0, ls, p, h => by simp [tkP] at h; obtain ⟨rfl, rfl⟩ := h; exact ⟨by omega, hx, rfl⟩
  | k + 1, ls, p, h => by
    simp only [tkP] at h
    cases e : tkP xs k with
    | none => rw [e] at h; simp at h
    | some q =>
      obtain ⟨ms, r⟩ := q
      rw [e] at h
      simp only at h
      have ih := tkP_le hx e
      split at h
      · rename_i ho
        simp at h
        obtain ⟨rfl, rfl⟩ := h
        have h2 := of_decide_eq_true ho
        unfold szL
        simp only [List.length_drop] at h2
        refine ⟨by omega, by omega, by simp; omega⟩
      · simp at h
theorem Row.fromR {w : World} {b off n cap : Nat} {xs : List Int} (h : Row w (some ⟨b, off, none⟩) n cap xs) (k : Nat) (hk : k ≤ n) : Row w (some ⟨b, off + k, none⟩) (n - k) (cap - k) (xs.drop k) := by
  have h1 := h.sub k (n - k) (by omega)
  rwa [List.take_of_length_le (by simp [h.len])] at h1

/-- num.TakeBytes where there is a letter, and where there is none. -/
theorem takeL_ok (b off n c : Nat) (xs : List Int) (w : World) (hr : Row w (some ⟨b, off, none⟩) n c xs) (hbd : n ≤ 140737488351232) (h : okRg xs = true) :
    Calls Try.prog 62 #[.slice (some ⟨b, off, none⟩) n c] w fun e w' => ∃ g c', e = .returned (.tuple #[.slice (some ⟨g, 0, none⟩) (szL xs) c', .int .i64 (2 + szL xs), .int .i64 0]) ∧ Own 5 w' w.heap.size g (szL xs) c' (leL xs) ∧ Below w.heap.size w w' := by
  have h2 := of_decide_eq_true h
  have hl := hr.len
  have hnn := (num_bd (xs.take 2) (hr.byt.take 2)).1
  have hm : num (xs.take 2) = (szL xs : Int) := by unfold szL; omega
  exact takeBytes_in b off n c xs w hr hbd (by omega) (szL xs) hm (by omega)
theorem takeL_no (a : Option Addr) (n c : Nat) (xs : List Int) (w : World) (hr : Row w a n c xs) (h : okRg xs = false) :
    Calls Try.prog 62 #[.slice a n c] w fun e w' => e = .returned (.tuple #[.slice none 0 0, .int .i64 0, .int .i64 3]) ∧ w' = w := by
  have h2 := of_decide_eq_false h
  have hl := hr.len
  exact takeBytes_short a n c xs w hr (by omega)

set_option maxHeartbeats 4000000 in
theorem takeR_any (a : Option Addr) (n c : Nat) (xs : List Int) (w : World) (hr : Row w a n c xs) (hbd : n ≤ 140737488351232) :
    Calls Try.prog 64 #[.slice a n c] w fun e w' => ∃ (so : Option Addr) (k co : Nat) (p E : Int), e = .returned (.tuple #[.slice so k co, .int .i64 p, .int .i64 E]) ∧ Below w.heap.size w w' ∧
      ((∃ (qs : List Le) (q : Nat), E = 0 ∧ p = q ∧ tkR xs = some (txt qs, q) ∧ mayT (txt qs) = true ∧ OwnR w' w.heap.size so k co qs) ∨ (E = 2 ∧ so = none ∧ k = 0 ∧ co = 0 ∧ p = 0 ∧ ∃ ls q, tkR xs = some (ls, q) ∧ mayT ls = false) ∨ (E = 3 ∧ so = none ∧ k = 0 ∧ co = 0 ∧ p = 0 ∧ tkR xs = none)) := by
  have hl := hr.len
  have hcap := hr.cap_le
  have ht := take_any a n c 1 xs w hr
  by_cases hn : n = 0
  · subst hn
    have hnil : xs = [] := List.eq_nil_of_length_eq_zero hl
    subst hnil
    have e1 : takeV [] 1 = 0 := rfl
    have e2 : takeE [] 1 = 3 := rfl
    rw [e1, e2] at ht
    clear e1 e2
    go_enter Try.func64, Try.ntmps64
    go_wp2_with fail
    refine ht.mono ?_
    rintro e w ⟨rfl, rfl⟩
    go_wp2_with fail
    go_ret3
    exact ⟨none, 0, 0, 0, 3, rfl, Below.refl _ _, .inr (.inr ⟨rfl, rfl, rfl, rfl, rfl, rfl⟩)⟩
  · have e1 : takeV xs 1 = num (xs.take 1) := by unfold takeV; rw [if_neg (by omega)]; rfl
    have e2 : takeE xs 1 = 0 := by unfold takeE; rw [if_neg (by omega), if_neg (by omega)]
    obtain ⟨K, hK⟩ : ∃ K : Nat, K = (num (xs.take 1)).toNat := ⟨_, rfl⟩
    have hnb := num_bd (xs.take 1) (hr.byt.take 1)
    have hK2 : num (xs.take 1) = (K : Int) := by omega
    have hK3 : K < 256 := by
      have : (xs.take 1).length = 1 := by simp; omega
      rw [this] at hnb; omega
    have HR : Hid (tkR xs = tkP xs K) := by
      have : xs ≠ [] := fun e => by subst e; simp at hl; omega
      show tkR xs = tkP xs K
      unfold tkR; rw [if_neg this, hK]
    have HX : Hid (1 ≤ xs.length) := show 1 ≤ xs.length by omega
    rw [e1, e2, hK2] at ht
    clear e1 e2 hK hnb hK2
    obtain ⟨b, off, rfl, _⟩ := hr.at (by omega)
    go_enter Try.func64, Try.ntmps64
    go_wp2_with fail
    refine ht.mono ?_
    rintro e w ⟨rfl, rfl⟩
    go_wp2_with fail
    go_loopw [2, 3, 6, 7, 8, 18] (fun s2 s3 s6 s7 s8 i wr => ∃ (j p : Nat) (so : Option Addr) (co : Nat) (qs : List Le), j ≤ K ∧ s2 = .slice so j co ∧ s3 = .int .i64 p ∧ (∃ z : Value, s6 = z) ∧ (∃ z : Value, s7 = z) ∧ (∃ z : Value, s8 = z) ∧ i = .int .u64 j ∧ OwnR wr w.heap.size so j co qs ∧ Hid (tkP xs j = some (txt qs, p)) ∧ Below w.heap.size w wr) (fun _ _ _ _ _ i _ => K - (intOf i).toNat)
    case atStart => exact ⟨0, 1, none, 0, [], by omega, rfl, rfl, ⟨_, rfl⟩, ⟨_, rfl⟩, ⟨_, rfl⟩, rfl, OwnR.nil _ _, rfl, Below.refl _ _⟩
    case round =>
      obtain ⟨j, p, so, co, qs, hj, rfl, rfl, ⟨z6, rfl⟩, ⟨z7, rfl⟩, ⟨z8, rfl⟩, rfl, ho, HT, hbel⟩ := hrel
      have hp := tkP_le HX.out HT.out
      have hpl : 1 ≤ p ∧ p ≤ n := by omega
      clear hp
      by_cases h : j < K
      · have h1 : (j : Int) < (K : Int) := by omega
        have hpn : (p : Int) ≤ (n : Int) := by omega
        by_cases hc : c = p
        · subst hc
          obtain rfl : c = n := by omega
          have hok : okRg (xs.drop c) = false := by
            rw [List.drop_eq_nil_iff.2 (by omega)]; rfl
          have hno : tkR xs = none := by
            rw [HR.out]
            refine tkP_none (j := j + 1) ?_ (by omega)
            simp only [tkP]; rw [HT.out]; simp [hok]
          have HNO : Hid (tkR xs = none) := hno
          have hs := takeL_no (some ⟨b, off, none⟩) 0 0 (xs.drop c) wr (by rw [List.drop_eq_nil_iff.2 (by omega)]; exact Row.none_of _ _ _ (by omega)) hok
          clear hok hno
          go_wp2_with fail
          refine hs.mono ?_
          rintro e wr ⟨rfl, rfl⟩
          go_wp2_with fail
          go_ret3
          exact ⟨none, 0, 0, 0, 3, rfl, hbel, .inr (.inr ⟨rfl, rfl, rfl, rfl, rfl, HNO.out⟩)⟩
        · have hrow := (hr.below hbel).fromR p hpl.2
          have hcp : ¬ (c : Int) = (p : Int) := by omega
          cases hok : okRg (xs.drop p) with
          | false =>
            have hno : tkR xs = none := by
              rw [HR.out]
              refine tkP_none (j := j + 1) ?_ (by omega)
              simp only [tkP]; rw [HT.out]; simp [hok]
            have HNO : Hid (tkR xs = none) := hno
            have hs := takeL_no (some ⟨b, off + p, none⟩) (n - p) (c - p) (xs.drop p) wr hrow hok
            clear hok hno hrow
            go_wp2_with fail
            refine hs.mono ?_
            rintro e wr ⟨rfl, rfl⟩
            go_wp2_with fail
            go_ret3
            exact ⟨none, 0, 0, 0, 3, rfl, hbel, .inr (.inr ⟨rfl, rfl, rfl, rfl, rfl, HNO.out⟩)⟩
          | true =>
            have hs := takeL_ok b (off + p) (n - p) (c - p) (xs.drop p) wr hrow (by omega) hok
            obtain ⟨S, hS⟩ : ∃ S, S = szL (xs.drop p) := ⟨_, rfl⟩
            have HT2 : Hid (tkP xs (j + 1) = some (txt qs ++ [leL (xs.drop p)], p + 2 + S)) := by
              show _ = _
              simp only [tkP]; rw [HT.out]; simp [hok, hS]
            have hS2 := (tkP_le HX.out HT2.out).2.1
            rw [← hS] at hs
            clear hok hrow hS
            go_wp2_with fail
            refine hs.mono ?_
            rintro e w2 ⟨g2, c2, rfl, o2, b2⟩
            have b2' := hbel.trans (b2.mono hbel.size)
            have hL2 := (LeO.made o2).mono hbel.size
            have ho2 := ho.below b2
            clear hs
            go_wp2_with (at_builtin; refine wp_append_letter _ rfl (.tmp 31) (.tmp 33) 30 rfl Try.underlying30 w.heap.size j co so qs rfl (ho2.below (below_alloc _ _)) _ 1 ⟨some ⟨g2, 0, none⟩, S, c2, leL (xs.drop p)⟩ rfl (lit_one _ ⟨some ⟨g2, 0, none⟩, S, c2, leL (xs.drop p)⟩) (hL2.below (below_alloc _ _)) (by omega) (by have := b2'.size; simp; omega) w (b2'.alloc b2'.size _) ?_; intro so' co' w3 o3 b3 _)
            go_roundw
            case rel =>
              refine ⟨j + 1, p + 2 + S, so', co', _, by omega, rfl, by go_num, ⟨_, rfl⟩, ⟨_, rfl⟩, ⟨_, rfl⟩, by go_num, o3, ?_, b3⟩
              rw [txt_append, txt_one]
              exact HT2
            case measure => simp [intOf]; omega
      · have h1 : ¬ (j : Int) < (K : Int) := by omega
        obtain rfl : j = K := by omega
        have hm := may_anyR so j co qs wr ho.row
        cases hq : mayT (txt qs) with
        | true =>
          rw [hq] at hm
          have HQ : Hid (mayT (txt qs) = true) := hq
          clear hq
          go_wp2_with fail
          refine hm.mono ?_
          rintro e wr ⟨rfl, rfl⟩
          go_wp2_with fail
          go_ret3
          exact ⟨so, j, co, p, 0, rfl, hbel, .inl ⟨qs, p, rfl, rfl, by rw [HR.out]; exact HT.out, HQ.out, ho⟩⟩
        | false =>
          rw [hq] at hm
          have HQ : Hid (mayT (txt qs) = false) := hq
          clear hq
          go_wp2_with fail
          refine hm.mono ?_
          rintro e wr ⟨rfl, rfl⟩
          go_wp2_with fail
          go_ret3
          exact ⟨none, 0, 0, 0, 2, rfl, hbel, .inr (.inl ⟨rfl, rfl, rfl, rfl, rfl, _, p, by rw [HR.out]; exact HT.out, HQ.out⟩)⟩
end Go.Proofs.Ytldkelpngeopmaa
