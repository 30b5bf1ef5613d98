/- What the library's merge of two sorted blocks of pairs does: the part behind the search. -/
import Derived.Test.YtgpndbfefbdibaaSymEnd
import Derived.Test.YtgpndbfefbdibaaParts
namespace Go.Proofs.Ytgpndbfefbdibaa
open Go.RowKit
set_option linter.unusedVariables false

theorem nd_app {A B : List (Int × Int)} (hA : Nd A) (hB : Nd B) (h : ∀ p ∈ A, ∀ q ∈ B, p.1 ≤ q.1) : Nd (A ++ B) := List.pairwise_append.2 ⟨hA, hB, fun p hp q hq => h p hp q hq⟩
theorem nd_take {A : List (Int × Int)} (h : Nd A) (k : Nat) : Nd (A.take k) := h.sublist (List.take_sublist k A)
theorem nd_drop {A : List (Int × Int)} (h : Nd A) (k : Nat) : Nd (A.drop k) := h.sublist (List.drop_sublist k A)
theorem nd_parts {A : List (Int × Int)} (h : Nd A) (k : Nat) : ∀ p ∈ A.take k, ∀ q ∈ A.drop k, p.1 ≤ q.1 := by
  have h1 : Nd (A.take k ++ A.drop k) := by rw [List.take_append_drop]; exact h
  exact (List.pairwise_append.1 h1).2.2
/-- Two blocks, cut so that what stands ahead is no greater than what stands behind, each half merged. -/
theorem merge_math {A B M1 M2 : List (Int × Int)} (i j : Nat) (hA : Nd A) (hB : Nd B) (h1 : ∀ p ∈ A.take i, ∀ q ∈ B.drop j, p.1 ≤ q.1) (h2 : ∀ p ∈ B.take j, ∀ q ∈ A.drop i, p.1 < q.1)
    (e1 : StEq M1 (A.take i ++ B.take j)) (n1 : Nd M1) (e2 : StEq M2 (A.drop i ++ B.drop j)) (n2 : Nd M2) : StEq (M1 ++ M2) (A ++ B) ∧ Nd (M1 ++ M2) := by
  constructor
  · refine (e1.append e2).trans ?_
    have h3 : StEq (A.take i ++ B.take j ++ (A.drop i ++ B.drop j)) (A.take i ++ (A.drop i ++ B.take j) ++ B.drop j) := by
      rw [show A.take i ++ B.take j ++ (A.drop i ++ B.drop j) = A.take i ++ (B.take j ++ A.drop i) ++ B.drop j by simp only [List.append_assoc]]
      exact ((StEq.refl _).append (StEq.comm fun p hp q hq => by have := h2 p hp q hq; omega)).append (StEq.refl _)
    rw [show A.take i ++ (A.drop i ++ B.take j) ++ B.drop j = (A.take i ++ A.drop i) ++ (B.take j ++ B.drop j) by simp only [List.append_assoc], List.take_append_drop, List.take_append_drop] at h3
    exact h3
  · refine nd_app n1 n2 fun p hp q hq => ?_
    rcases List.mem_append.1 ((e1.mem p).1 hp) with hp | hp <;> rcases List.mem_append.1 ((e2.mem q).1 hq) with hq | hq
    · exact nd_parts hA i p hp q hq
    · exact h1 p hp q hq
    · have := h2 p hp q hq; omega
    · exact nd_parts hB j p hp q hq
/-- What the search for the cut has found, of lists. -/
theorem cut_math (P X Y Q : List (Int × Int)) (a m b mid s e lo hi : Nat) (hP : P.length = a ∧ a + X.length = m ∧ m + Y.length = b) (hX : Nd X) (hY : Nd Y) (hlh : (lo = a ∧ hi = m ∧ m ≤ mid ∨ lo + b = mid + m ∧ hi = mid ∧ mid < m)) (hmid : mid = (a + b) / 2) (h1 : lo ≤ s) (h2 : s ≤ hi) (he : e + s = mid + m) (hm : a + 2 ≤ m ∧ m + 2 ≤ b)
    (hlow : ∀ t, lo ≤ t → t < s → kz (P ++ X ++ Y ++ Q) t ≤ kz (P ++ X ++ Y ++ Q) (mid + m - 1 - t)) (hhigh : ∀ t, s ≤ t → t < hi → kz (P ++ X ++ Y ++ Q) (mid + m - 1 - t) < kz (P ++ X ++ Y ++ Q) t) :
    (∀ p ∈ X.take (s - a), ∀ q ∈ Y.drop (e - m), p.1 ≤ q.1) ∧ (∀ p ∈ Y.take (e - m), ∀ q ∈ X.drop (s - a), p.1 < q.1) := by
  have kx := fun s t h1 h2 h3 => kz_seg P X (Y ++ Q) hX s t h1 h2 h3
  have ky := fun s t h1 h2 h3 => kz_seg (P ++ X) Y Q hY s t h1 h2 h3
  rw [← List.append_assoc] at kx
  simp only [List.length_append] at ky
  constructor
  · intro p hp q hq
    obtain ⟨t, t1, t2, t3, et⟩ := kz_take P X (Y ++ Q) _ p hp
    obtain ⟨u, u1, u2, eu⟩ := kz_drop (P ++ X) Y Q _ q hq
    rw [← List.append_assoc] at et
    simp only [List.length_append] at u1 u2
    have h3 := kx t (s - 1) (by omega) (by omega) (by omega)
    have h4 := hlow (s - 1) (by omega) (by omega)
    have h5 := ky (mid + m - 1 - (s - 1)) u (by omega) (by omega) (by omega)
    omega
  · intro p hp q hq
    obtain ⟨t, t1, t2, t3, et⟩ := kz_take (P ++ X) Y Q _ p hp
    obtain ⟨u, u1, u2, eu⟩ := kz_drop P X (Y ++ Q) _ q hq
    rw [← List.append_assoc] at eu
    simp only [List.length_append] at t1 t2 t3
    have h3 := ky t (mid + m - 1 - s) (by omega) (by omega) (by omega)
    have h4 := hhigh s (by omega) (by omega)
    have h5 := kx s u (by omega) (by omega) (by omega)
    omega

def SymOK (L : Nat) : Prop := ∀ (g n cap B a m b : Nat) (P X Y Q : List (Int × Int)) (w : World), OwnG PE 29 w B (some ⟨g, 0, none⟩) n cap (P ++ X ++ Y ++ Q) → Nd X → Nd Y → P.length = a → a + X.length = m → m + Y.length = b → 0 < X.length → 0 < Y.length → X.length + Y.length ≤ L → n ≤ 1000000 →
  Calls Try.prog 64 #[.slice (some ⟨g, 0, none⟩) n cap, .int .i64 a, .int .i64 m, .int .i64 b, .func (.func 37) #[] #[]] w fun e w' => e = .returned (.tuple #[]) ∧ ∃ M, OwnG PE 29 w' B (some ⟨g, 0, none⟩) n cap (P ++ M ++ Q) ∧ StEq M (X ++ Y) ∧ Nd M ∧ M.length = X.length + Y.length ∧ w.grownBy w' (some g)

set_option maxHeartbeats 4000000 in
set_option maxRecDepth 100000 in
theorem symTail (L : Nat) (IH : Hid (SymOK L)) (g n cap B a m b mid nn s e : Nat) (P X Y Q : List (Int × Int)) (w V : World) (u : Nat → Value) (hP : Hid (P.length = a ∧ a + X.length = m ∧ m + Y.length = b)) (HND : Hid (Nd X ∧ Nd Y ∧ X.length + Y.length ≤ L + 1 ∧ 2 ≤ X.length ∧ 2 ≤ Y.length)) (ham : a + 2 ≤ m) (hmb : m + 2 ≤ b) (hbn : b ≤ n) (hsz : n ≤ 1000000) (hmid1 : a < mid ∧ mid < b)
    (r1 : (nn : Int) - (s : Int) = (e : Int)) (HSE : Hid (a ≤ s ∧ s ≤ m ∧ m ≤ e ∧ e ≤ b ∧ e + s = mid + m)) (hsn : s ≤ n ∧ e ≤ n) (HCUT : Hid ((∀ p ∈ X.take (s - a), ∀ q ∈ Y.drop (e - m), p.1 ≤ q.1) ∧ (∀ p ∈ Y.take (e - m), ∀ q ∈ X.drop (s - a), p.1 < q.1))) (HLEN : Hid ((X.take (s - a)).length = s - a ∧ (X.drop (s - a)).length = m - s ∧ (Y.take (e - m)).length = e - m ∧ (Y.drop (e - m)).length = b - e)) (hoX : OwnG PE 29 V B (some ⟨g, 0, none⟩) n cap (P ++ X.take (s - a) ++ X.drop (s - a) ++ Y.take (e - m) ++ Y.drop (e - m) ++ Q)) (hgr : w.grownBy V (some g)) :
    Code.wp Try.prog (part Try.f64 38) (bodyPost Try.prog Try.f64 fun e w' => e = .returned (.tuple #[]) ∧ ∃ M, OwnG PE 29 w' B (some ⟨g, 0, none⟩) n cap (P ++ M ++ Q) ∧ StEq M (X ++ Y) ∧ Nd M ∧ M.length = X.length + Y.length ∧ w.grownBy w' (some g)) { tmps := #[.slice (some ⟨g, 0, none⟩) n cap, .int .i64 a, .int .i64 m, .int .i64 b, .func (.func 37) #[] #[], u 5, u 6, u 7, u 8, u 9, u 10, u 11, u 12, u 13, u 14, u 15, u 16, u 17, .int .i64 mid, .int .i64 nn, .int .i64 s, u 21, u 22, u 23, u 24, u 25, u 26, u 27, u 28, u 29, u 30, u 31, u 32, u 33, u 34, u 35, u 36, u 37, u 38, u 39, u 40, u 41, u 42, u 43, u 44, u 45, u 46, u 47, u 48, u 49, u 50, u 51, u 52, u 53, u 54, u 55, u 56, u 57, u 58, u 59, u 60, u 61, u 62, u 63, u 64, u 65, u 66, u 67, u 68, u 69, u 70, u 71, u 72, u 73, u 74, u 75, u 76, u 77, u 78, u 79, u 80, u 81, u 82, u 83, u 84, u 85, u 86, u 87, u 88, u 89, u 90, u 91, u 92, u 93, u 94, u 95, u 96, u 97, u 98, u 99, u 100, u 101, u 102, u 103, u 104, u 105, u 106, u 107, u 108, u 109, u 110, u 111, u 112, u 113, u 114, u 115, u 116, u 117, u 118, u 119, u 120, u 121, u 122, u 123, u 124, u 125, u 126, u 127, u 128, u 129, u 130, u 131, u 132, u 133, u 134, u 135, u 136, u 137, u 138, u 139, u 140, u 141, u 142, u 143, u 144, u 145, u 146, u 147, u 148, u 149, u 150, u 151, u 152, u 153, u 154, u 155, u 156, u 157, u 158, u 159, u 160, u 161, u 162, u 163, u 164, u 165, u 166, u 167, u 168, u 169, u 170, u 171, u 172, u 173, u 174, u 175, u 176, u 177, u 178, u 179, u 180, u 181, u 182, u 183, u 184, u 185, u 186, u 187, u 188, u 189, u 190, u 191, u 192, u 193, u 194, u 195, u 196, u 197, u 198, u 199, u 200, u 201, u 202, u 203, u 204, u 205, u 206, u 207, u 208, u 209, u 210, u 211, u 212, u 213, u 214, u 215, u 216, u 217, u 218, u 219], defers := [] } V := by
  conv => arg 2; whnf
  refine wp_seq_k fun K1 hK1 => ?_
  have C1 : Hid (∀ (ac : Act) (V' : World), ac = { tmps := #[.slice (some ⟨g, 0, none⟩) n cap, .int .i64 a, .int .i64 m, .int .i64 b, .func (.func 37) #[] #[], sl ac 5, sl ac 6, sl ac 7, sl ac 8, sl ac 9, sl ac 10, sl ac 11, sl ac 12, sl ac 13, sl ac 14, sl ac 15, sl ac 16, sl ac 17, .int .i64 mid, .int .i64 nn, .int .i64 s, sl ac 21, sl ac 22, sl ac 23, .int .i64 e, sl ac 25, sl ac 26, sl ac 27, sl ac 28, sl ac 29, sl ac 30, sl ac 31, sl ac 32, sl ac 33, sl ac 34, sl ac 35, sl ac 36, sl ac 37, sl ac 38, sl ac 39, sl ac 40, sl ac 41, sl ac 42, sl ac 43, sl ac 44, sl ac 45, sl ac 46, sl ac 47, sl ac 48, sl ac 49, sl ac 50, sl ac 51, sl ac 52, sl ac 53, sl ac 54, sl ac 55, sl ac 56, sl ac 57, sl ac 58, sl ac 59, sl ac 60, sl ac 61, sl ac 62, sl ac 63, sl ac 64, sl ac 65, sl ac 66, sl ac 67, sl ac 68, sl ac 69, sl ac 70, sl ac 71, sl ac 72, sl ac 73, sl ac 74, sl ac 75, sl ac 76, sl ac 77, sl ac 78, sl ac 79, sl ac 80, sl ac 81, sl ac 82, sl ac 83, sl ac 84, sl ac 85, sl ac 86, sl ac 87, sl ac 88, sl ac 89, sl ac 90, sl ac 91, sl ac 92, sl ac 93, sl ac 94, sl ac 95, sl ac 96, sl ac 97, sl ac 98, sl ac 99, sl ac 100, sl ac 101, sl ac 102, sl ac 103, sl ac 104, sl ac 105, sl ac 106, sl ac 107, sl ac 108, sl ac 109, sl ac 110, sl ac 111, sl ac 112, sl ac 113, sl ac 114, sl ac 115, sl ac 116, sl ac 117, sl ac 118, sl ac 119, sl ac 120, sl ac 121, sl ac 122, sl ac 123, sl ac 124, sl ac 125, sl ac 126, sl ac 127, sl ac 128, sl ac 129, sl ac 130, sl ac 131, sl ac 132, sl ac 133, sl ac 134, sl ac 135, sl ac 136, sl ac 137, sl ac 138, sl ac 139, sl ac 140, sl ac 141, sl ac 142, sl ac 143, sl ac 144, sl ac 145, sl ac 146, sl ac 147, sl ac 148, sl ac 149, sl ac 150, sl ac 151, sl ac 152, sl ac 153, sl ac 154, sl ac 155, sl ac 156, sl ac 157, sl ac 158, sl ac 159, sl ac 160, sl ac 161, sl ac 162, sl ac 163, sl ac 164, sl ac 165, sl ac 166, sl ac 167, sl ac 168, sl ac 169, sl ac 170, sl ac 171, sl ac 172, sl ac 173, sl ac 174, sl ac 175, sl ac 176, sl ac 177, sl ac 178, sl ac 179, sl ac 180, sl ac 181, sl ac 182, sl ac 183, sl ac 184, sl ac 185, sl ac 186, sl ac 187, sl ac 188, sl ac 189, sl ac 190, sl ac 191, sl ac 192, sl ac 193, sl ac 194, sl ac 195, sl ac 196, sl ac 197, sl ac 198, sl ac 199, sl ac 200, sl ac 201, sl ac 202, sl ac 203, sl ac 204, sl ac 205, sl ac 206, sl ac 207, sl ac 208, sl ac 209, sl ac 210, sl ac 211, sl ac 212, sl ac 213, sl ac 214, sl ac 215, sl ac 216, sl ac 217, sl ac 218, sl ac 219], defers := [] } → V' = V → K1 ac V') := by
    intro ac V' hact hV
    subst hV
    generalize sl ac = u at hact
    subst hact
    refine hK1 _ _ ?_
    clear hK1
    refine wp_seq_k fun K2 hK2 => ?_
    have C2 : Hid (∀ (ac : Act) (V1 : World), ac = { tmps := #[.slice (some ⟨g, 0, none⟩) n cap, .int .i64 a, .int .i64 m, .int .i64 b, .func (.func 37) #[] #[], sl ac 5, sl ac 6, sl ac 7, sl ac 8, sl ac 9, sl ac 10, sl ac 11, sl ac 12, sl ac 13, sl ac 14, sl ac 15, sl ac 16, sl ac 17, .int .i64 mid, .int .i64 nn, .int .i64 s, sl ac 21, sl ac 22, sl ac 23, .int .i64 e, sl ac 25, sl ac 26, sl ac 27, sl ac 28, sl ac 29, sl ac 30, sl ac 31, sl ac 32, sl ac 33, sl ac 34, sl ac 35, sl ac 36, sl ac 37, sl ac 38, sl ac 39, sl ac 40, sl ac 41, sl ac 42, sl ac 43, sl ac 44, sl ac 45, sl ac 46, sl ac 47, sl ac 48, sl ac 49, sl ac 50, sl ac 51, sl ac 52, sl ac 53, sl ac 54, sl ac 55, sl ac 56, sl ac 57, sl ac 58, sl ac 59, sl ac 60, sl ac 61, sl ac 62, sl ac 63, sl ac 64, sl ac 65, sl ac 66, sl ac 67, sl ac 68, sl ac 69, sl ac 70, sl ac 71, sl ac 72, sl ac 73, sl ac 74, sl ac 75, sl ac 76, sl ac 77, sl ac 78, sl ac 79, sl ac 80, sl ac 81, sl ac 82, sl ac 83, sl ac 84, sl ac 85, sl ac 86, sl ac 87, sl ac 88, sl ac 89, sl ac 90, sl ac 91, sl ac 92, sl ac 93, sl ac 94, sl ac 95, sl ac 96, sl ac 97, sl ac 98, sl ac 99, sl ac 100, sl ac 101, sl ac 102, sl ac 103, sl ac 104, sl ac 105, sl ac 106, sl ac 107, sl ac 108, sl ac 109, sl ac 110, sl ac 111, sl ac 112, sl ac 113, sl ac 114, sl ac 115, sl ac 116, sl ac 117, sl ac 118, sl ac 119, sl ac 120, sl ac 121, sl ac 122, sl ac 123, sl ac 124, sl ac 125, sl ac 126, sl ac 127, sl ac 128, sl ac 129, sl ac 130, sl ac 131, sl ac 132, sl ac 133, sl ac 134, sl ac 135, sl ac 136, sl ac 137, sl ac 138, sl ac 139, sl ac 140, sl ac 141, sl ac 142, sl ac 143, sl ac 144, sl ac 145, sl ac 146, sl ac 147, sl ac 148, sl ac 149, sl ac 150, sl ac 151, sl ac 152, sl ac 153, sl ac 154, sl ac 155, sl ac 156, sl ac 157, sl ac 158, sl ac 159, sl ac 160, sl ac 161, sl ac 162, sl ac 163, sl ac 164, sl ac 165, sl ac 166, sl ac 167, sl ac 168, sl ac 169, sl ac 170, sl ac 171, sl ac 172, sl ac 173, sl ac 174, sl ac 175, sl ac 176, sl ac 177, sl ac 178, sl ac 179, sl ac 180, sl ac 181, sl ac 182, sl ac 183, sl ac 184, sl ac 185, sl ac 186, sl ac 187, sl ac 188, sl ac 189, sl ac 190, sl ac 191, sl ac 192, sl ac 193, sl ac 194, sl ac 195, sl ac 196, sl ac 197, sl ac 198, sl ac 199, sl ac 200, sl ac 201, sl ac 202, sl ac 203, sl ac 204, sl ac 205, sl ac 206, sl ac 207, sl ac 208, sl ac 209, sl ac 210, sl ac 211, sl ac 212, sl ac 213, sl ac 214, sl ac 215, sl ac 216, sl ac 217, sl ac 218, sl ac 219], defers := [] } → OwnG PE 29 V1 B (some ⟨g, 0, none⟩) n cap (P ++ X.take (s - a) ++ Y.take (e - m) ++ X.drop (s - a) ++ Y.drop (e - m) ++ Q) → w.grownBy V1 (some g) → K2 ac V1) := by
      clear hoX hgr
      intro ac V1 hact ho1 hg1
      generalize sl ac = u at hact
      subst hact
      refine hK2 _ _ ?_
      clear hK2
      refine wp_seq_k fun K3 hK3 => ?_
      have C3 : Hid (∀ (ac : Act) (V2 : World) (M1 : List (Int × Int)), ac = { tmps := #[.slice (some ⟨g, 0, none⟩) n cap, .int .i64 a, .int .i64 m, .int .i64 b, .func (.func 37) #[] #[], sl ac 5, sl ac 6, sl ac 7, sl ac 8, sl ac 9, sl ac 10, sl ac 11, sl ac 12, sl ac 13, sl ac 14, sl ac 15, sl ac 16, sl ac 17, .int .i64 mid, .int .i64 nn, .int .i64 s, sl ac 21, sl ac 22, sl ac 23, .int .i64 e, sl ac 25, sl ac 26, sl ac 27, sl ac 28, sl ac 29, sl ac 30, sl ac 31, sl ac 32, sl ac 33, sl ac 34, sl ac 35, sl ac 36, sl ac 37, sl ac 38, sl ac 39, sl ac 40, sl ac 41, sl ac 42, sl ac 43, sl ac 44, sl ac 45, sl ac 46, sl ac 47, sl ac 48, sl ac 49, sl ac 50, sl ac 51, sl ac 52, sl ac 53, sl ac 54, sl ac 55, sl ac 56, sl ac 57, sl ac 58, sl ac 59, sl ac 60, sl ac 61, sl ac 62, sl ac 63, sl ac 64, sl ac 65, sl ac 66, sl ac 67, sl ac 68, sl ac 69, sl ac 70, sl ac 71, sl ac 72, sl ac 73, sl ac 74, sl ac 75, sl ac 76, sl ac 77, sl ac 78, sl ac 79, sl ac 80, sl ac 81, sl ac 82, sl ac 83, sl ac 84, sl ac 85, sl ac 86, sl ac 87, sl ac 88, sl ac 89, sl ac 90, sl ac 91, sl ac 92, sl ac 93, sl ac 94, sl ac 95, sl ac 96, sl ac 97, sl ac 98, sl ac 99, sl ac 100, sl ac 101, sl ac 102, sl ac 103, sl ac 104, sl ac 105, sl ac 106, sl ac 107, sl ac 108, sl ac 109, sl ac 110, sl ac 111, sl ac 112, sl ac 113, sl ac 114, sl ac 115, sl ac 116, sl ac 117, sl ac 118, sl ac 119, sl ac 120, sl ac 121, sl ac 122, sl ac 123, sl ac 124, sl ac 125, sl ac 126, sl ac 127, sl ac 128, sl ac 129, sl ac 130, sl ac 131, sl ac 132, sl ac 133, sl ac 134, sl ac 135, sl ac 136, sl ac 137, sl ac 138, sl ac 139, sl ac 140, sl ac 141, sl ac 142, sl ac 143, sl ac 144, sl ac 145, sl ac 146, sl ac 147, sl ac 148, sl ac 149, sl ac 150, sl ac 151, sl ac 152, sl ac 153, sl ac 154, sl ac 155, sl ac 156, sl ac 157, sl ac 158, sl ac 159, sl ac 160, sl ac 161, sl ac 162, sl ac 163, sl ac 164, sl ac 165, sl ac 166, sl ac 167, sl ac 168, sl ac 169, sl ac 170, sl ac 171, sl ac 172, sl ac 173, sl ac 174, sl ac 175, sl ac 176, sl ac 177, sl ac 178, sl ac 179, sl ac 180, sl ac 181, sl ac 182, sl ac 183, sl ac 184, sl ac 185, sl ac 186, sl ac 187, sl ac 188, sl ac 189, sl ac 190, sl ac 191, sl ac 192, sl ac 193, sl ac 194, sl ac 195, sl ac 196, sl ac 197, sl ac 198, sl ac 199, sl ac 200, sl ac 201, sl ac 202, sl ac 203, sl ac 204, sl ac 205, sl ac 206, sl ac 207, sl ac 208, sl ac 209, sl ac 210, sl ac 211, sl ac 212, sl ac 213, sl ac 214, sl ac 215, sl ac 216, sl ac 217, sl ac 218, sl ac 219], defers := [] } → OwnG PE 29 V2 B (some ⟨g, 0, none⟩) n cap (P ++ M1 ++ X.drop (s - a) ++ Y.drop (e - m) ++ Q) → StEq M1 (X.take (s - a) ++ Y.take (e - m)) → Nd M1 → M1.length = (X.take (s - a)).length + (Y.take (e - m)).length → w.grownBy V2 (some g) → K3 ac V2) := by
        clear ho1 hg1
        intro ac V2 M1 hact ho2 hst1 hnd1 hlen1 hg2
        generalize sl ac = u at hact
        subst hact
        refine hK3 _ _ ?_
        clear hK3
        have HM1 : Hid (StEq M1 (X.take (s - a) ++ Y.take (e - m)) ∧ Nd M1 ∧ M1.length = (X.take (s - a)).length + (Y.take (e - m)).length) := ⟨hst1, hnd1, hlen1⟩
        clear hst1 hnd1 hlen1
        have FIN : Hid (∀ (V3 : World) (M2 : List (Int × Int)), OwnG PE 29 V3 B (some ⟨g, 0, none⟩) n cap (P ++ M1 ++ M2 ++ Q) → StEq M2 (X.drop (s - a) ++ Y.drop (e - m)) → Nd M2 → M2.length = (X.drop (s - a)).length + (Y.drop (e - m)).length → w.grownBy V3 (some g) → ∃ M, OwnG PE 29 V3 B (some ⟨g, 0, none⟩) n cap (P ++ M ++ Q) ∧ StEq M (X ++ Y) ∧ Nd M ∧ M.length = X.length + Y.length ∧ w.grownBy V3 (some g)) := fun V3 M2 h1 h2 h3 h4 h5 => by
          have h6 := merge_math (s - a) (e - m) HND.out.1 HND.out.2.1 HCUT.out.1 HCUT.out.2 HM1.out.1 HM1.out.2.1 h2 h3
          refine ⟨M1 ++ M2, by simpa only [List.append_assoc] using h1, h6.1, h6.2, ?_, h5⟩
          have h7 := HM1.out.2.2; have h8 := HLEN.out; have h9 := HSE.out; have h10 := hP.out
          rw [List.length_append]; omega
        by_cases hc1 : mid < e
        · have p1 : (mid : Int) < (e : Int) := by omega
          by_cases hc2 : e < b
          · have p2 : (e : Int) < (b : Int) := by omega
            go_wp2_with fail
            refine (IH.out g n cap B mid e b (P ++ M1) (X.drop (s - a)) (Y.drop (e - m)) Q _ (by simpa only [List.append_assoc] using ho2) (nd_drop HND.out.1 _) (nd_drop HND.out.2.1 _) (by have h7 := HM1.out.2.2; have h8 := HLEN.out; have h9 := HSE.out; have h10 := hP.out; rw [List.length_append]; omega) (by have h8 := HLEN.out; have h9 := HSE.out; omega) (by have h8 := HLEN.out; omega) (by have h8 := HLEN.out; have h9 := HSE.out; omega) (by have h8 := HLEN.out; omega) (by have h8 := HLEN.out; have h9 := HSE.out; have h10 := hP.out; have h11 := HND.out.2.2.1; omega) hsz).mono ?_
            rintro ex w1 ⟨rfl, M2, ho3, hst2, hnd2, hlen2, hg3⟩
            have hg4 := grown_trans hg2 hg3 (fun x hx => .inl hx)
            have H := FIN.out _ M2 (by simpa only [List.append_assoc] using ho3) hst2 hnd2 hlen2 hg4
            have HF : Hid (_) := H
            clear H ho3 hst2 hnd2 hlen2 hg3 hg4 ho2 hg2
            go_wp2_with fail
            go_end0
            exact ⟨rfl, HF.out⟩
          · have p2 : decide ((e : Int) < (b : Int)) = false := by simp; omega
            have H := FIN.out _ (X.drop (s - a) ++ Y.drop (e - m)) (by simpa only [List.append_assoc] using ho2) (StEq.refl _) (by have h8 := HLEN.out; have h9 := HSE.out; rw [List.eq_nil_of_length_eq_zero (l := Y.drop (e - m)) (by omega), List.append_nil]; exact nd_drop HND.out.1 _) (by simp only [List.length_append]) hg2
            have HF : Hid (_) := H
            clear H ho2 hg2
            go_wp2_with fail
            go_end0
            exact ⟨rfl, HF.out⟩
        · have p1 : decide ((mid : Int) < (e : Int)) = false := by simp; omega
          have H := FIN.out _ (X.drop (s - a) ++ Y.drop (e - m)) (by simpa only [List.append_assoc] using ho2) (StEq.refl _) (by have h8 := HLEN.out; have h9 := HSE.out; rw [List.eq_nil_of_length_eq_zero (l := X.drop (s - a)) (by omega), List.nil_append]; exact nd_drop HND.out.2.1 _) (by simp only [List.length_append]) hg2
          have HF : Hid (_) := H
          clear H ho2 hg2
          go_wp2_with fail
          go_end0
          exact ⟨rfl, HF.out⟩
      clear hK3
      by_cases hc1 : a < s
      · have p1 : (a : Int) < (s : Int) := by omega
        by_cases hc2 : s < mid
        · have p2 : (s : Int) < (mid : Int) := by omega
          go_wp2_with fail
          refine (IH.out g n cap B a s mid P (X.take (s - a)) (Y.take (e - m)) (X.drop (s - a) ++ Y.drop (e - m) ++ Q) _ (by simpa only [List.append_assoc] using ho1) (nd_take HND.out.1 _) (nd_take HND.out.2.1 _) hP.out.1 (by have h8 := HLEN.out; omega) (by have h8 := HLEN.out; have h9 := HSE.out; omega) (by have h8 := HLEN.out; omega) (by have h8 := HLEN.out; have h9 := HSE.out; omega) (by have h8 := HLEN.out; have h9 := HSE.out; have h10 := hP.out; have h11 := HND.out.2.2.1; omega) hsz).mono ?_
          rintro ex w1 ⟨rfl, M1, ho3, hst2, hnd2, hlen2, hg3⟩
          have hg4 := grown_trans hg1 hg3 (fun x hx => .inl hx)
          have HF : Hid (OwnG PE 29 w1 B (some ⟨g, 0, none⟩) n cap (P ++ M1 ++ X.drop (s - a) ++ Y.drop (e - m) ++ Q) ∧ StEq M1 (X.take (s - a) ++ Y.take (e - m)) ∧ Nd M1 ∧ M1.length = (X.take (s - a)).length + (Y.take (e - m)).length) := ⟨by simpa only [List.append_assoc] using ho3, hst2, hnd2, hlen2⟩
          clear ho3 hst2 hnd2 hlen2 hg3 ho1 hg1
          go_wp2_with fail
          exact C3.out _ _ M1 rfl HF.out.1 HF.out.2.1 HF.out.2.2.1 HF.out.2.2.2 hg4
        · have p2 : decide ((s : Int) < (mid : Int)) = false := by simp; omega
          have HF : Hid (Nd (X.take (s - a) ++ Y.take (e - m))) := by
            have h8 := HLEN.out; have h9 := HSE.out
            show Nd _
            rw [List.eq_nil_of_length_eq_zero (l := Y.take (e - m)) (by omega), List.append_nil]; exact nd_take HND.out.1 _
          go_wp2_with fail
          exact C3.out _ _ (X.take (s - a) ++ Y.take (e - m)) rfl (by simpa only [List.append_assoc] using ho1) (StEq.refl _) HF.out (by simp only [List.length_append]) hg1
      · have p1 : decide ((a : Int) < (s : Int)) = false := by simp; omega
        have HF : Hid (Nd (X.take (s - a) ++ Y.take (e - m))) := by
          have h8 := HLEN.out; have h9 := HSE.out
          show Nd _
          rw [List.eq_nil_of_length_eq_zero (l := X.take (s - a)) (by omega), List.nil_append]; exact nd_take HND.out.2.1 _
        go_wp2_with fail
        exact C3.out _ _ (X.take (s - a) ++ Y.take (e - m)) rfl (by simpa only [List.append_assoc] using ho1) (StEq.refl _) HF.out (by simp only [List.length_append]) hg1
    clear hK2
    by_cases hc1 : s < m
    · have p1 : (s : Int) < (m : Int) := by omega
      by_cases hc2 : m < e
      · have p2 : (m : Int) < (e : Int) := by omega
        go_wp2_with fail
        refine (rotate_any g n cap B s m e (P ++ X.take (s - a)) (X.drop (s - a)) (Y.take (e - m)) (Y.drop (e - m) ++ Q) _ (by simpa only [List.append_assoc] using hoX) (by have h8 := HLEN.out; have h9 := HSE.out; have h10 := hP.out; refine ⟨?_, ?_, ?_, ?_, ?_⟩ <;> (try rw [List.length_append]) <;> omega) hsz).mono ?_
        rintro ex w1 ⟨rfl, ho3, hg3⟩
        have hg4 := grown_trans hgr hg3 (fun x hx => .inl hx)
        have HF : Hid (OwnG PE 29 w1 B (some ⟨g, 0, none⟩) n cap (P ++ X.take (s - a) ++ Y.take (e - m) ++ X.drop (s - a) ++ Y.drop (e - m) ++ Q)) := by
          show OwnG _ _ _ _ _ _ _ _
          simpa only [List.append_assoc] using ho3
        clear ho3 hg3 hoX hgr
        go_wp2_with fail
        exact C2.out _ _ rfl HF.out hg4
      · have p2 : decide ((m : Int) < (e : Int)) = false := by simp; omega
        have HF : Hid (OwnG PE 29 V' B (some ⟨g, 0, none⟩) n cap (P ++ X.take (s - a) ++ Y.take (e - m) ++ X.drop (s - a) ++ Y.drop (e - m) ++ Q)) := by
          have h8 := HLEN.out; have h9 := HSE.out
          show OwnG _ _ _ _ _ _ _ _
          rw [List.eq_nil_of_length_eq_zero (l := Y.take (e - m)) (by omega)] at hoX ⊢
          simp only [List.append_nil, List.append_assoc] at hoX ⊢
          exact hoX
        go_wp2_with fail
        exact C2.out _ _ rfl HF.out hgr
    · have p1 : decide ((s : Int) < (m : Int)) = false := by simp; omega
      have HF : Hid (OwnG PE 29 V' B (some ⟨g, 0, none⟩) n cap (P ++ X.take (s - a) ++ Y.take (e - m) ++ X.drop (s - a) ++ Y.drop (e - m) ++ Q)) := by
        have h8 := HLEN.out; have h9 := HSE.out
        show OwnG _ _ _ _ _ _ _ _
        rw [List.eq_nil_of_length_eq_zero (l := X.drop (s - a)) (by omega)] at hoX ⊢
        simp only [List.append_nil, List.append_assoc] at hoX ⊢
        exact hoX
      go_wp2_with fail
      exact C2.out _ _ rfl HF.out hgr
  clear hK1
  go_wp2_with fail
  exact C1.out _ _ rfl rfl
end Go.Proofs.Ytgpndbfefbdibaa
