
/- Contracts of the reference's right and Equal. -/
import Derived.Test.YtaijhkfbfkdepaaNMem
import Derived.Laws.StructEq
import Derived.LoopTactic
namespace Go.Proofs.Ytaijhkfbfkdepaa.N4
open Go.ChangeShapes Go.WideShapes Go.ChangeAt Go.RowKit
set_option linter.unusedVariables false

theorem right_n1 (k n a b p a2 b2 : Int) (h1 : ¬ 1 ≤ k) (w : World) :
    Calls Try.prog 49 #[.agg #[.int .u8 k, .int .i64 n, .int .i64 a, .int .i64 b, .int .i64 p], .int .i64 a2, .int .i64 b2] w fun e w' => e = .returned (.bool false) ∧ Below w.heap.size w w' := by
  
  go_enter Try.func49, Try.ntmps49
  go_wp2
  go_ret
  exact ⟨rfl, (Below.refl _ _).alloc (Nat.le_refl _) _⟩
theorem right_n2 (k n a b p a2 b2 : Int) (h1 : 1 ≤ k) (h2 : ¬ k ≤ 19) (w : World) :
    Calls Try.prog 49 #[.agg #[.int .u8 k, .int .i64 n, .int .i64 a, .int .i64 b, .int .i64 p], .int .i64 a2, .int .i64 b2] w fun e w' => e = .returned (.bool false) ∧ Below w.heap.size w w' := by
  
  go_enter Try.func49, Try.ntmps49
  go_wp2
  go_ret
  exact ⟨rfl, (Below.refl _ _).alloc (Nat.le_refl _) _⟩
theorem right_n3 (k n a b p a2 b2 : Int) (h1 : 1 ≤ k) (h2 : k ≤ 19) (h3 : ¬ 0 ≤ n) (w : World) :
    Calls Try.prog 49 #[.agg #[.int .u8 k, .int .i64 n, .int .i64 a, .int .i64 b, .int .i64 p], .int .i64 a2, .int .i64 b2] w fun e w' => e = .returned (.bool false) ∧ Below w.heap.size w w' := by
  
  go_enter Try.func49, Try.ntmps49
  go_wp2
  go_ret
  exact ⟨rfl, (Below.refl _ _).alloc (Nat.le_refl _) _⟩
theorem right_n4 (k n a b p a2 b2 : Int) (h1 : 1 ≤ k) (h2 : k ≤ 19) (h3 : 0 ≤ n) (h4 : ¬ n = 0) (h5 : ¬ k = 1) (w : World) :
    Calls Try.prog 49 #[.agg #[.int .u8 k, .int .i64 n, .int .i64 a, .int .i64 b, .int .i64 p], .int .i64 a2, .int .i64 b2] w fun e w' => e = .returned (.bool false) ∧ Below w.heap.size w w' := by
  
  go_enter Try.func49, Try.ntmps49
  go_wp2
  go_ret
  exact ⟨rfl, (Below.refl _ _).alloc (Nat.le_refl _) _⟩
theorem right_z5 (k a b p a2 b2 : Int) (h1 : 1 ≤ k) (h2 : k ≤ 19) (h6 : ¬ 0 ≤ p) (w : World) :
    Calls Try.prog 49 #[.agg #[.int .u8 k, .int .i64 0, .int .i64 a, .int .i64 b, .int .i64 p], .int .i64 a2, .int .i64 b2] w fun e w' => e = .returned (.bool false) ∧ Below w.heap.size w w' := by
  
  go_enter Try.func49, Try.ntmps49
  go_wp2
  go_ret
  exact ⟨rfl, (Below.refl _ _).alloc (Nat.le_refl _) _⟩
theorem right_z6 (k a b p a2 b2 : Int) (h1 : 1 ≤ k) (h2 : k ≤ 19) (h6 : 0 ≤ p) (h7 : ¬ p ≤ 400) (w : World) :
    Calls Try.prog 49 #[.agg #[.int .u8 k, .int .i64 0, .int .i64 a, .int .i64 b, .int .i64 p], .int .i64 a2, .int .i64 b2] w fun e w' => e = .returned (.bool false) ∧ Below w.heap.size w w' := by
  
  go_enter Try.func49, Try.ntmps49
  go_wp2
  go_ret
  exact ⟨rfl, (Below.refl _ _).alloc (Nat.le_refl _) _⟩
theorem right_z7 (k a b p a2 b2 : Int) (h1 : 1 ≤ k) (h2 : k ≤ 19) (h6 : 0 ≤ p) (h7 : p ≤ 400) (h8 : ¬ a = a2) (w : World) :
    Calls Try.prog 49 #[.agg #[.int .u8 k, .int .i64 0, .int .i64 a, .int .i64 b, .int .i64 p], .int .i64 a2, .int .i64 b2] w fun e w' => e = .returned (.bool false) ∧ Below w.heap.size w w' := by
  
  go_enter Try.func49, Try.ntmps49
  go_wp2
  go_ret
  exact ⟨rfl, (Below.refl _ _).alloc (Nat.le_refl _) _⟩
theorem right_z8 (k a b p b2 : Int) (h1 : 1 ≤ k) (h2 : k ≤ 19) (h6 : 0 ≤ p) (h7 : p ≤ 400) (h9 : ¬ b = b2) (w : World) :
    Calls Try.prog 49 #[.agg #[.int .u8 k, .int .i64 0, .int .i64 a, .int .i64 b, .int .i64 p], .int .i64 a, .int .i64 b2] w fun e w' => e = .returned (.bool false) ∧ Below w.heap.size w w' := by
  have g : (b == b2) = false := by simpa using h9
  go_enter Try.func49, Try.ntmps49
  go_wp2
  go_ret
  exact ⟨rfl, (Below.refl _ _).alloc (Nat.le_refl _) _⟩
theorem right_z9 (k a b p : Int) (h1 : 1 ≤ k) (h2 : k ≤ 19) (h6 : 0 ≤ p) (h7 : p ≤ 400) (w : World) :
    Calls Try.prog 49 #[.agg #[.int .u8 k, .int .i64 0, .int .i64 a, .int .i64 b, .int .i64 p], .int .i64 a, .int .i64 b] w fun e w' => e = .returned (.bool true) ∧ Below w.heap.size w w' := by
  
  go_enter Try.func49, Try.ntmps49
  go_wp2
  go_ret
  exact ⟨rfl, (Below.refl _ _).alloc (Nat.le_refl _) _⟩
theorem right_o5 (n a b p a2 b2 : Int) (h3 : 0 ≤ n) (h4 : ¬ n = 0) (h6 : ¬ 0 ≤ p) (w : World) :
    Calls Try.prog 49 #[.agg #[.int .u8 1, .int .i64 n, .int .i64 a, .int .i64 b, .int .i64 p], .int .i64 a2, .int .i64 b2] w fun e w' => e = .returned (.bool false) ∧ Below w.heap.size w w' := by
  
  go_enter Try.func49, Try.ntmps49
  go_wp2
  go_ret
  exact ⟨rfl, (Below.refl _ _).alloc (Nat.le_refl _) _⟩
theorem right_o6 (n a b p a2 b2 : Int) (h3 : 0 ≤ n) (h4 : ¬ n = 0) (h6 : 0 ≤ p) (h7 : ¬ p ≤ 400) (w : World) :
    Calls Try.prog 49 #[.agg #[.int .u8 1, .int .i64 n, .int .i64 a, .int .i64 b, .int .i64 p], .int .i64 a2, .int .i64 b2] w fun e w' => e = .returned (.bool false) ∧ Below w.heap.size w w' := by
  
  go_enter Try.func49, Try.ntmps49
  go_wp2
  go_ret
  exact ⟨rfl, (Below.refl _ _).alloc (Nat.le_refl _) _⟩
theorem right_o7 (n a b p a2 b2 : Int) (h3 : 0 ≤ n) (h4 : ¬ n = 0) (h6 : 0 ≤ p) (h7 : p ≤ 400) (h8 : ¬ a = a2) (w : World) :
    Calls Try.prog 49 #[.agg #[.int .u8 1, .int .i64 n, .int .i64 a, .int .i64 b, .int .i64 p], .int .i64 a2, .int .i64 b2] w fun e w' => e = .returned (.bool false) ∧ Below w.heap.size w w' := by
  
  go_enter Try.func49, Try.ntmps49
  go_wp2
  go_ret
  exact ⟨rfl, (Below.refl _ _).alloc (Nat.le_refl _) _⟩
theorem right_o8 (n a b p b2 : Int) (h3 : 0 ≤ n) (h4 : ¬ n = 0) (h6 : 0 ≤ p) (h7 : p ≤ 400) (h9 : ¬ b = b2) (w : World) :
    Calls Try.prog 49 #[.agg #[.int .u8 1, .int .i64 n, .int .i64 a, .int .i64 b, .int .i64 p], .int .i64 a, .int .i64 b2] w fun e w' => e = .returned (.bool false) ∧ Below w.heap.size w w' := by
  have g : (b == b2) = false := by simpa using h9
  go_enter Try.func49, Try.ntmps49
  go_wp2
  go_ret
  exact ⟨rfl, (Below.refl _ _).alloc (Nat.le_refl _) _⟩
theorem right_o9 (n a b p : Int) (h3 : 0 ≤ n) (h4 : ¬ n = 0) (h6 : 0 ≤ p) (h7 : p ≤ 400) (w : World) :
    Calls Try.prog 49 #[.agg #[.int .u8 1, .int .i64 n, .int .i64 a, .int .i64 b, .int .i64 p], .int .i64 a, .int .i64 b] w fun e w' => e = .returned (.bool true) ∧ Below w.heap.size w w' := by
  
  go_enter Try.func49, Try.ntmps49
  go_wp2
  go_ret
  exact ⟨rfl, (Below.refl _ _).alloc (Nat.le_refl _) _⟩

theorem right_any (x : Nd) (a2 b2 : Int) (r : Bool) (w : World) (hr : (okK x.k && fitsF x.k x.n x.p && decide (x.a = a2 ∧ x.b = b2)) = r) :
    Calls Try.prog 49 #[ndV x, .int .i64 a2, .int .i64 b2] w fun e w' => e = .returned (.bool r) ∧ Below w.heap.size w w' := by
  obtain ⟨k, n, a, b, p⟩ := x
  dsimp only [ndV] at hr ⊢
  by_cases h1 : 1 ≤ k
  rotate_left
  · obtain rfl : false = r := by rw [← hr]; simp [okK, h1]
    exact right_n1 k n a b p a2 b2 h1 w
  by_cases h2 : k ≤ 19
  rotate_left
  · obtain rfl : false = r := by rw [← hr]; simp [okK, h2]
    exact right_n2 k n a b p a2 b2 h1 h2 w
  by_cases h3 : 0 ≤ n
  rotate_left
  · obtain rfl : false = r := by rw [← hr]; simp [fitsF, h3]
    exact right_n3 k n a b p a2 b2 h1 h2 h3 w
  by_cases h4 : n = 0
  · subst h4
    by_cases h6 : 0 ≤ p
    rotate_left
    · obtain rfl : false = r := by rw [← hr]; simp [fitsF, h6]
      exact right_z5 k a b p a2 b2 h1 h2 h6 w
    by_cases h7 : p ≤ 400
    rotate_left
    · obtain rfl : false = r := by rw [← hr]; simp [fitsF, h7]
      exact right_z6 k a b p a2 b2 h1 h2 h6 h7 w
    by_cases h8 : a = a2
    rotate_left
    · obtain rfl : false = r := by rw [← hr]; simp [h8]
      exact right_z7 k a b p a2 b2 h1 h2 h6 h7 h8 w
    subst h8
    by_cases h9 : b = b2
    rotate_left
    · obtain rfl : false = r := by rw [← hr]; simp [h9]
      exact right_z8 k a b p b2 h1 h2 h6 h7 h9 w
    subst h9
    obtain rfl : true = r := by rw [← hr]; simp [okK, fitsF, h1, h2, h6, h7]
    exact right_z9 k a b p h1 h2 h6 h7 w
  · by_cases h5 : k = 1
    rotate_left
    · obtain rfl : false = r := by rw [← hr]; simp [fitsF, h4, h5]
      exact right_n4 k n a b p a2 b2 h1 h2 h3 h4 h5 w
    subst h5
    by_cases h6 : 0 ≤ p
    rotate_left
    · obtain rfl : false = r := by rw [← hr]; simp [fitsF, h6]
      exact right_o5 n a b p a2 b2 h3 h4 h6 w
    by_cases h7 : p ≤ 400
    rotate_left
    · obtain rfl : false = r := by rw [← hr]; simp [fitsF, h7]
      exact right_o6 n a b p a2 b2 h3 h4 h6 h7 w
    by_cases h8 : a = a2
    rotate_left
    · obtain rfl : false = r := by rw [← hr]; simp [h8]
      exact right_o7 n a b p a2 b2 h3 h4 h6 h7 h8 w
    subst h8
    by_cases h9 : b = b2
    rotate_left
    · obtain rfl : false = r := by rw [← hr]; simp [h9]
      exact right_o8 n a b p b2 h3 h4 h6 h7 h9 w
    subst h9
    obtain rfl : true = r := by rw [← hr]; simp [okK, fitsF, h3, h6, h7]
    exact right_o9 n a b p h3 h4 h6 h7 w
end Go.Proofs.Ytaijhkfbfkdepaa.N4
