/- cats.Make of a list of at most twelve categories, by the library's insertion sort: the set of the list's categories. -/
import Derived.Test.YtpajojkhpnklfaaShelf
import Derived.Sort.AssemblyPlain
namespace Go.Proofs.Ytpajojkhpnklfaa
open Go.RowKit Go.Sort

set_option maxHeartbeats 1000000 in
theorem pdq_small (g cap B a b : Nat) (L : Int) (d : Array Int) (w : World) (hown : OwnA w B g cap d) (w0 : World) (hb0 : RowKit.Below B w0 w) (hab : a ≤ b) (hb : b ≤ d.size) (h12 : b - a ≤ 12) (hsz : d.size ≤ 1000000) :
    Calls Try.prog 43 #[.slice (some ⟨g, 0, none⟩) d.size cap, .int .i64 a, .int .i64 b, .int .i64 L] w fun e w' => e = .returned (.tuple #[]) ∧ OwnA w' B g cap (insertionSort ltInt d a b) ∧ (insertionSort ltInt d a b).size = d.size ∧ RowKit.Below B w0 w' := by
  have h1 : (b : Int) - (a : Int) ≤ 12 := by omega
  have hin := insSort_any g cap B a b d w hown w0 hb0 hab hb hsz
  generalize insertionSort ltInt d a b = D at hin ⊢
  go_enter Try.func43, Try.ntmps43
  go_wp2_with fail
  go_loopw [1, 2, 3, 8, 9] (fun s1 s2 s3 s8 s9 wr => s1 = .int .i64 a ∧ s2 = .int .i64 b ∧ wr = w) (fun _ _ _ _ _ _ => 0)
  case atStart => exact ⟨rfl, rfl, rfl⟩
  case round =>
    obtain ⟨rfl, rfl, rfl⟩ := hrel
    go_wp2_with fail
    refine hin.mono ?_
    rintro e w1 ⟨rfl, h2, h3, h4⟩
    go_wp2_with fail
    refine bodyPost_ret (results_none rfl _ _ _) rfl ?_
    exact ⟨rfl, h2, h3, h4⟩

theorem swo_int : SWO ltInt where
  irrefl := fun x => by simp [ltInt]
  trans := fun x y z h1 h2 => by simp [ltInt] at *; omega
  ntrans := fun x y z h1 h2 => by simp [ltInt] at *; omega

set_option maxHeartbeats 1000000 in
theorem sort_small (g cap B : Nat) (d : Array Int) (w : World) (hown : OwnA w B g cap d) (w0 : World) (hb0 : RowKit.Below B w0 w) (h12 : d.size ≤ 12) :
    Calls Try.prog 32 #[.slice (some ⟨g, 0, none⟩) d.size cap] w fun e w' => e = .returned (.tuple #[]) ∧ OwnA w' B g cap (insertionSort ltInt d 0 d.size) ∧ (insertionSort ltInt d 0 d.size).size = d.size ∧ RowKit.Below B w0 w' := by
  have hu : IntKind.u64.wrap (d.size : Int) = (d.size : Int) := by rw [IntKind.wrap_u64]; omega
  have hp := fun L => pdq_small g cap B 0 d.size L d w hown w0 hb0 (by omega) (by omega) (by omega) (by omega)
  generalize insertionSort ltInt d 0 d.size = D at hp ⊢
  go_enter Try.func32, Try.ntmps32
  go_wp2_with fail
  refine (bitLen_any d.size (by omega) _).mono ?_
  rintro e w1 ⟨rfl, rfl⟩
  go_wp2_with fail
  refine (hp _).mono ?_
  rintro e w1 ⟨rfl, h2, h3, h4⟩
  go_wp2_with fail
  go_end0
  exact ⟨rfl, h2, h3, h4⟩

/-- What a sorted row is, as a list. -/
theorem sorted_list (d d' : Array Int) (hp : PermIn 0 d.size d d') (hs : SortedIn ltInt 0 d.size d') : d'.toList.Pairwise (· ≤ ·) ∧ ∀ x, x ∈ d'.toList ↔ x ∈ d.toList := by
  have hsz := hp.1
  constructor
  · refine List.pairwise_iff_getElem.2 fun i j hi hj hij => ?_
    simp at hi hj
    have := hs i j (by omega) hij (by omega)
    simp [ltInt] at this
    rw [getElem!_pos d' i (by omega), getElem!_pos d' j (by omega)] at this
    simpa using this
  · have h := hp.2.2
    have e1 : d'.extract 0 d.size = d' := by rw [← hsz]; simp
    have e2 : d.extract 0 d.size = d := by simp
    rw [e1, e2] at h
    exact fun x => h.mem_iff

set_option maxHeartbeats 1000000 in
/-- cats.Make, where the library's sort does what it should. -/
theorem make_of (n : Nat) (hbd : n ≤ 1000000) (hsort : ∀ (g cap B : Nat) (d : Array Int) (w w0 : World), d.size = n → OwnA w B g cap d → RowKit.Below B w0 w →
      Calls Try.prog 32 #[.slice (some ⟨g, 0, none⟩) d.size cap] w fun e w' => e = .returned (.tuple #[]) ∧ ∃ d' : Array Int, OwnA w' B g cap d' ∧ PermIn 0 d.size d d' ∧ SortedIn ltInt 0 d.size d' ∧ RowKit.Below B w0 w')
    (a : Option Addr) (cap : Nat) (xs : List Int) (w : World) (hr : RowW w a n cap xs) (hnn : 0 < n) :
    Calls Try.prog 13 #[.slice a n cap] w fun e w' => ∃ so k co zs, e = .returned (.slice so k co) ∧ OwnW 27 w' w.heap.size so k co zs ∧ RowKit.Below w.heap.size w w' ∧ Srt zs ∧ (∀ x, x ∈ zs ↔ x ∈ xs) ∧ k ≤ n := by
  have hl := hr.len
  go_enter Try.func13, Try.ntmps13
  go_wp2_with fail
  refine (clone_any a n cap xs w hr hbd).mono ?_
  rintro e w1 ⟨so, co, rfl, o1, b1⟩
  rcases o1.cases with ⟨_, h0, _⟩ | ⟨g, cur, rfl, _⟩
  · omega
  have oa : OwnA w1 w.heap.size g co xs.toArray := by
    unfold OwnA
    simpa [hl] using o1
  have hs := hsort g co w.heap.size xs.toArray w1 w (by simp [hl]) oa b1
  simp only [List.size_toArray, hl] at hs
  clear hl
  go_wp2_with fail
  refine hs.mono ?_
  rintro e w2 ⟨rfl, d', o2, hp, hsr, b2⟩
  have hsz : d'.size = n := by have := hp.1; simpa [o1.1] using this
  obtain ⟨hpw, hmem⟩ := sorted_list xs.toArray d' (by simpa [o1.1] using hp) (by simpa [o1.1] using hsr)
  have o3 : OwnW 27 w2 w.heap.size (some ⟨g, 0, none⟩) n co d'.toList := by rw [← hsz]; exact o2
  clear hs hp hsr
  go_wp2_with fail
  refine (compact_any g n co w.heap.size d'.toList w2 o3 w b2).mono ?_
  rintro e w3 ⟨k, rfl, o4, b3⟩
  go_wp2_with fail
  go_ret
  refine ⟨_, k, co, dd d'.toList, rfl, o4, b3, dd_srt _ hpw, fun x => ?_, ?_⟩
  · rw [dd_mem, hmem]
  · have h5 := dd_len d'.toList
    rw [o4.1] at h5
    simpa [hsz] using h5

theorem make_small (a : Option Addr) (n cap : Nat) (xs : List Int) (w : World) (hr : RowW w a n cap xs) (h12 : n ≤ 12) (hnn : 0 < n) :
    Calls Try.prog 13 #[.slice a n cap] w fun e w' => ∃ so k co zs, e = .returned (.slice so k co) ∧ OwnW 27 w' w.heap.size so k co zs ∧ RowKit.Below w.heap.size w w' ∧ Srt zs ∧ (∀ x, x ∈ zs ↔ x ∈ xs) ∧ k ≤ n := by
  refine make_of n (by omega) (fun g cap B d w w0 hd ho hb => ?_) a cap xs w hr hnn
  refine (sort_small g cap B d w ho w0 hb (by omega)).mono ?_
  rintro e w1 ⟨rfl, h2, h3, h4⟩
  have h5 := insertionSort_holds swo_int d 0 d.size (by omega) (by omega)
  exact ⟨rfl, _, h2, h5.1, h5.2, h4⟩
end Go.Proofs.Ytpajojkhpnklfaa
