/- The laws IntsRing and IntsOrder: a ring; an order, truth values. -/
import Derived.Test.YteoppgfdifhjmaaLawDo
namespace Go.Proofs.Yteoppgfdifhjmaa
open Go.ChangeShapes Go.WideShapes Go.ChangeAt Go.RowKit
set_option linter.unusedVariables false

theorem IntsRing_walk (a b c : Int) (w0 : (Lit.int .i64 a).wf = true) (w1 : (Lit.int .i64 b).wf = true) (w2 : (Lit.int .i64 c).wf = true) (w : World) :
    Calls Try.prog 4 #[.int .i64 a, .int .i64 b, .int .i64 c] w fun e w' => e = .returned (.bool true) ∧ Grown w w' := by
  have ha := bounds_i64 w0
  have e1 : wrap64 (b + a) = wrap64 (a + b) := by rw [Int.add_comm]
  have e2 : wrap64 (a + wrap64 (b + c)) = wrap64 (wrap64 (a + b) + c) := by rw [wrap64_add_r, wrap64_add_l, Int.add_assoc]
  have e3 : wrap64 (b * a) = wrap64 (a * b) := by rw [Int.mul_comm]
  have e4 : wrap64 (a * wrap64 (b * c)) = wrap64 (wrap64 (a * b) * c) := by rw [wrap64_mul_r, wrap64_mul_l, Int.mul_assoc]
  have e5 : wrap64 (a + wrap64 (-b)) = wrap64 (a - b) := by rw [wrap64_add_r, Int.sub_eq_add_neg]
  have e6 : wrap64 (wrap64 (a * c) + wrap64 (b * c)) = wrap64 (wrap64 (a + b) * c) := by rw [wrap64_add_r, wrap64_add_l, wrap64_mul_l, Int.add_mul]
  have e7 : wrap64 (a + 0) = a := by rw [Int.add_zero, wrap64_id a ha.1 ha.2]
  have e8 : wrap64 (a * 1) = a := by rw [Int.mul_one, wrap64_id a ha.1 ha.2]
  have e9 : wrap64 a = a := wrap64_id a ha.1 ha.2
  clear ha w0 w1 w2
  go_enter Try.func4, Try.ntmps4
  go_wp2_with (first | (go_at_call 10; refine (alive_any _).mono ?_; rintro e w' ⟨rfl, rfl⟩) | (go_at_call 9; (first | (with_reducible refine (ldo_of _ _ _ _ _ (do_add _ _)).mono ?_) | (with_reducible refine (ldo_of _ _ _ _ _ (do_mul _ _)).mono ?_) | (with_reducible refine (ldo_of _ _ _ _ _ (do_sub _ _)).mono ?_) | (with_reducible refine (ldo_of _ _ _ _ _ (do_neg _ _)).mono ?_)); rintro e w' ⟨rfl, rfl⟩))
  go_ret
  exact ⟨rfl, by repeat (first | exact Grown.refl _ | apply Grown.drew | apply Grown.alloc)⟩

theorem tv_true : tv true = 1 := rfl
theorem tv_false : tv false = 0 := rfl

theorem order_ltttt (a b c : Int) (w : World)
    (h1 : decide (a < b) = true) (h2 : decide (a ≤ b) = true) (h3 : decide (b < a) = false) (h4 : decide (b ≤ a) = false) (h5 : (a == b) = false) (h6 : (a != b) = true)
    (h7 : (a == 0) = true) (h8 : (a != 0) = false) (h9 : (b == 0) = true) (h10 : (b != 0) = false) (h11 : decide (b < c) = true) (h12 : decide (a < c) = true) :
    Calls Try.prog 6 #[.int .i64 a, .int .i64 b, .int .i64 c] w fun e w' => e = .returned (.bool true) ∧ Grown w w' := by
  have t1 := tv_true
  have t0 := tv_false
  go_enter Try.func6, Try.ntmps6
  go_wp2_with (first | (go_at_call 10; refine (alive_any _).mono ?_; rintro e w' ⟨rfl, rfl⟩) | (go_at_call 9; (first | (with_reducible refine (ldo_of _ _ _ _ _ (do_less _ _)).mono ?_) | (with_reducible refine (ldo_of _ _ _ _ _ (do_most _ _)).mono ?_) | (with_reducible refine (ldo_of _ _ _ _ _ (do_more _ _)).mono ?_) | (with_reducible refine (ldo_of _ _ _ _ _ (do_least _ _)).mono ?_) | (with_reducible refine (ldo_of _ _ _ _ _ (do_equal _ _)).mono ?_) | (with_reducible refine (ldo_of _ _ _ _ _ (do_other _ _)).mono ?_) | (with_reducible refine (ldo_of _ _ _ _ _ (do_and _ _)).mono ?_) | (with_reducible refine (ldo_of _ _ _ _ _ (do_or _ _)).mono ?_) | (with_reducible refine (ldo_of _ _ _ _ _ (do_not _ _)).mono ?_)); rintro e w' ⟨rfl, rfl⟩))
  go_ret
  exact ⟨rfl, by repeat (first | exact Grown.refl _ | apply Grown.drew | apply Grown.alloc)⟩

theorem order_ltttf (a b c : Int) (w : World)
    (h1 : decide (a < b) = true) (h2 : decide (a ≤ b) = true) (h3 : decide (b < a) = false) (h4 : decide (b ≤ a) = false) (h5 : (a == b) = false) (h6 : (a != b) = true)
    (h7 : (a == 0) = true) (h8 : (a != 0) = false) (h9 : (b == 0) = true) (h10 : (b != 0) = false) (h11 : decide (b < c) = false) :
    Calls Try.prog 6 #[.int .i64 a, .int .i64 b, .int .i64 c] w fun e w' => e = .returned (.bool true) ∧ Grown w w' := by
  have t1 := tv_true
  have t0 := tv_false
  go_enter Try.func6, Try.ntmps6
  go_wp2_with (first | (go_at_call 10; refine (alive_any _).mono ?_; rintro e w' ⟨rfl, rfl⟩) | (go_at_call 9; (first | (with_reducible refine (ldo_of _ _ _ _ _ (do_less _ _)).mono ?_) | (with_reducible refine (ldo_of _ _ _ _ _ (do_most _ _)).mono ?_) | (with_reducible refine (ldo_of _ _ _ _ _ (do_more _ _)).mono ?_) | (with_reducible refine (ldo_of _ _ _ _ _ (do_least _ _)).mono ?_) | (with_reducible refine (ldo_of _ _ _ _ _ (do_equal _ _)).mono ?_) | (with_reducible refine (ldo_of _ _ _ _ _ (do_other _ _)).mono ?_) | (with_reducible refine (ldo_of _ _ _ _ _ (do_and _ _)).mono ?_) | (with_reducible refine (ldo_of _ _ _ _ _ (do_or _ _)).mono ?_) | (with_reducible refine (ldo_of _ _ _ _ _ (do_not _ _)).mono ?_)); rintro e w' ⟨rfl, rfl⟩))
  go_ret
  exact ⟨rfl, by repeat (first | exact Grown.refl _ | apply Grown.drew | apply Grown.alloc)⟩

theorem order_lttft (a b c : Int) (w : World)
    (h1 : decide (a < b) = true) (h2 : decide (a ≤ b) = true) (h3 : decide (b < a) = false) (h4 : decide (b ≤ a) = false) (h5 : (a == b) = false) (h6 : (a != b) = true)
    (h7 : (a == 0) = true) (h8 : (a != 0) = false) (h9 : (b == 0) = false) (h10 : (b != 0) = true) (h11 : decide (b < c) = true) (h12 : decide (a < c) = true) :
    Calls Try.prog 6 #[.int .i64 a, .int .i64 b, .int .i64 c] w fun e w' => e = .returned (.bool true) ∧ Grown w w' := by
  have t1 := tv_true
  have t0 := tv_false
  go_enter Try.func6, Try.ntmps6
  go_wp2_with (first | (go_at_call 10; refine (alive_any _).mono ?_; rintro e w' ⟨rfl, rfl⟩) | (go_at_call 9; (first | (with_reducible refine (ldo_of _ _ _ _ _ (do_less _ _)).mono ?_) | (with_reducible refine (ldo_of _ _ _ _ _ (do_most _ _)).mono ?_) | (with_reducible refine (ldo_of _ _ _ _ _ (do_more _ _)).mono ?_) | (with_reducible refine (ldo_of _ _ _ _ _ (do_least _ _)).mono ?_) | (with_reducible refine (ldo_of _ _ _ _ _ (do_equal _ _)).mono ?_) | (with_reducible refine (ldo_of _ _ _ _ _ (do_other _ _)).mono ?_) | (with_reducible refine (ldo_of _ _ _ _ _ (do_and _ _)).mono ?_) | (with_reducible refine (ldo_of _ _ _ _ _ (do_or _ _)).mono ?_) | (with_reducible refine (ldo_of _ _ _ _ _ (do_not _ _)).mono ?_)); rintro e w' ⟨rfl, rfl⟩))
  go_ret
  exact ⟨rfl, by repeat (first | exact Grown.refl _ | apply Grown.drew | apply Grown.alloc)⟩

theorem order_lttff (a b c : Int) (w : World)
    (h1 : decide (a < b) = true) (h2 : decide (a ≤ b) = true) (h3 : decide (b < a) = false) (h4 : decide (b ≤ a) = false) (h5 : (a == b) = false) (h6 : (a != b) = true)
    (h7 : (a == 0) = true) (h8 : (a != 0) = false) (h9 : (b == 0) = false) (h10 : (b != 0) = true) (h11 : decide (b < c) = false) :
    Calls Try.prog 6 #[.int .i64 a, .int .i64 b, .int .i64 c] w fun e w' => e = .returned (.bool true) ∧ Grown w w' := by
  have t1 := tv_true
  have t0 := tv_false
  go_enter Try.func6, Try.ntmps6
  go_wp2_with (first | (go_at_call 10; refine (alive_any _).mono ?_; rintro e w' ⟨rfl, rfl⟩) | (go_at_call 9; (first | (with_reducible refine (ldo_of _ _ _ _ _ (do_less _ _)).mono ?_) | (with_reducible refine (ldo_of _ _ _ _ _ (do_most _ _)).mono ?_) | (with_reducible refine (ldo_of _ _ _ _ _ (do_more _ _)).mono ?_) | (with_reducible refine (ldo_of _ _ _ _ _ (do_least _ _)).mono ?_) | (with_reducible refine (ldo_of _ _ _ _ _ (do_equal _ _)).mono ?_) | (with_reducible refine (ldo_of _ _ _ _ _ (do_other _ _)).mono ?_) | (with_reducible refine (ldo_of _ _ _ _ _ (do_and _ _)).mono ?_) | (with_reducible refine (ldo_of _ _ _ _ _ (do_or _ _)).mono ?_) | (with_reducible refine (ldo_of _ _ _ _ _ (do_not _ _)).mono ?_)); rintro e w' ⟨rfl, rfl⟩))
  go_ret
  exact ⟨rfl, by repeat (first | exact Grown.refl _ | apply Grown.drew | apply Grown.alloc)⟩

theorem order_ltftt (a b c : Int) (w : World)
    (h1 : decide (a < b) = true) (h2 : decide (a ≤ b) = true) (h3 : decide (b < a) = false) (h4 : decide (b ≤ a) = false) (h5 : (a == b) = false) (h6 : (a != b) = true)
    (h7 : (a == 0) = false) (h8 : (a != 0) = true) (h9 : (b == 0) = true) (h10 : (b != 0) = false) (h11 : decide (b < c) = true) (h12 : decide (a < c) = true) :
    Calls Try.prog 6 #[.int .i64 a, .int .i64 b, .int .i64 c] w fun e w' => e = .returned (.bool true) ∧ Grown w w' := by
  have t1 := tv_true
  have t0 := tv_false
  go_enter Try.func6, Try.ntmps6
  go_wp2_with (first | (go_at_call 10; refine (alive_any _).mono ?_; rintro e w' ⟨rfl, rfl⟩) | (go_at_call 9; (first | (with_reducible refine (ldo_of _ _ _ _ _ (do_less _ _)).mono ?_) | (with_reducible refine (ldo_of _ _ _ _ _ (do_most _ _)).mono ?_) | (with_reducible refine (ldo_of _ _ _ _ _ (do_more _ _)).mono ?_) | (with_reducible refine (ldo_of _ _ _ _ _ (do_least _ _)).mono ?_) | (with_reducible refine (ldo_of _ _ _ _ _ (do_equal _ _)).mono ?_) | (with_reducible refine (ldo_of _ _ _ _ _ (do_other _ _)).mono ?_) | (with_reducible refine (ldo_of _ _ _ _ _ (do_and _ _)).mono ?_) | (with_reducible refine (ldo_of _ _ _ _ _ (do_or _ _)).mono ?_) | (with_reducible refine (ldo_of _ _ _ _ _ (do_not _ _)).mono ?_)); rintro e w' ⟨rfl, rfl⟩))
  go_ret
  exact ⟨rfl, by repeat (first | exact Grown.refl _ | apply Grown.drew | apply Grown.alloc)⟩

theorem order_ltftf (a b c : Int) (w : World)
    (h1 : decide (a < b) = true) (h2 : decide (a ≤ b) = true) (h3 : decide (b < a) = false) (h4 : decide (b ≤ a) = false) (h5 : (a == b) = false) (h6 : (a != b) = true)
    (h7 : (a == 0) = false) (h8 : (a != 0) = true) (h9 : (b == 0) = true) (h10 : (b != 0) = false) (h11 : decide (b < c) = false) :
    Calls Try.prog 6 #[.int .i64 a, .int .i64 b, .int .i64 c] w fun e w' => e = .returned (.bool true) ∧ Grown w w' := by
  have t1 := tv_true
  have t0 := tv_false
  go_enter Try.func6, Try.ntmps6
  go_wp2_with (first | (go_at_call 10; refine (alive_any _).mono ?_; rintro e w' ⟨rfl, rfl⟩) | (go_at_call 9; (first | (with_reducible refine (ldo_of _ _ _ _ _ (do_less _ _)).mono ?_) | (with_reducible refine (ldo_of _ _ _ _ _ (do_most _ _)).mono ?_) | (with_reducible refine (ldo_of _ _ _ _ _ (do_more _ _)).mono ?_) | (with_reducible refine (ldo_of _ _ _ _ _ (do_least _ _)).mono ?_) | (with_reducible refine (ldo_of _ _ _ _ _ (do_equal _ _)).mono ?_) | (with_reducible refine (ldo_of _ _ _ _ _ (do_other _ _)).mono ?_) | (with_reducible refine (ldo_of _ _ _ _ _ (do_and _ _)).mono ?_) | (with_reducible refine (ldo_of _ _ _ _ _ (do_or _ _)).mono ?_) | (with_reducible refine (ldo_of _ _ _ _ _ (do_not _ _)).mono ?_)); rintro e w' ⟨rfl, rfl⟩))
  go_ret
  exact ⟨rfl, by repeat (first | exact Grown.refl _ | apply Grown.drew | apply Grown.alloc)⟩

theorem order_ltfft (a b c : Int) (w : World)
    (h1 : decide (a < b) = true) (h2 : decide (a ≤ b) = true) (h3 : decide (b < a) = false) (h4 : decide (b ≤ a) = false) (h5 : (a == b) = false) (h6 : (a != b) = true)
    (h7 : (a == 0) = false) (h8 : (a != 0) = true) (h9 : (b == 0) = false) (h10 : (b != 0) = true) (h11 : decide (b < c) = true) (h12 : decide (a < c) = true) :
    Calls Try.prog 6 #[.int .i64 a, .int .i64 b, .int .i64 c] w fun e w' => e = .returned (.bool true) ∧ Grown w w' := by
  have t1 := tv_true
  have t0 := tv_false
  go_enter Try.func6, Try.ntmps6
  go_wp2_with (first | (go_at_call 10; refine (alive_any _).mono ?_; rintro e w' ⟨rfl, rfl⟩) | (go_at_call 9; (first | (with_reducible refine (ldo_of _ _ _ _ _ (do_less _ _)).mono ?_) | (with_reducible refine (ldo_of _ _ _ _ _ (do_most _ _)).mono ?_) | (with_reducible refine (ldo_of _ _ _ _ _ (do_more _ _)).mono ?_) | (with_reducible refine (ldo_of _ _ _ _ _ (do_least _ _)).mono ?_) | (with_reducible refine (ldo_of _ _ _ _ _ (do_equal _ _)).mono ?_) | (with_reducible refine (ldo_of _ _ _ _ _ (do_other _ _)).mono ?_) | (with_reducible refine (ldo_of _ _ _ _ _ (do_and _ _)).mono ?_) | (with_reducible refine (ldo_of _ _ _ _ _ (do_or _ _)).mono ?_) | (with_reducible refine (ldo_of _ _ _ _ _ (do_not _ _)).mono ?_)); rintro e w' ⟨rfl, rfl⟩))
  go_ret
  exact ⟨rfl, by repeat (first | exact Grown.refl _ | apply Grown.drew | apply Grown.alloc)⟩

theorem order_ltfff (a b c : Int) (w : World)
    (h1 : decide (a < b) = true) (h2 : decide (a ≤ b) = true) (h3 : decide (b < a) = false) (h4 : decide (b ≤ a) = false) (h5 : (a == b) = false) (h6 : (a != b) = true)
    (h7 : (a == 0) = false) (h8 : (a != 0) = true) (h9 : (b == 0) = false) (h10 : (b != 0) = true) (h11 : decide (b < c) = false) :
    Calls Try.prog 6 #[.int .i64 a, .int .i64 b, .int .i64 c] w fun e w' => e = .returned (.bool true) ∧ Grown w w' := by
  have t1 := tv_true
  have t0 := tv_false
  go_enter Try.func6, Try.ntmps6
  go_wp2_with (first | (go_at_call 10; refine (alive_any _).mono ?_; rintro e w' ⟨rfl, rfl⟩) | (go_at_call 9; (first | (with_reducible refine (ldo_of _ _ _ _ _ (do_less _ _)).mono ?_) | (with_reducible refine (ldo_of _ _ _ _ _ (do_most _ _)).mono ?_) | (with_reducible refine (ldo_of _ _ _ _ _ (do_more _ _)).mono ?_) | (with_reducible refine (ldo_of _ _ _ _ _ (do_least _ _)).mono ?_) | (with_reducible refine (ldo_of _ _ _ _ _ (do_equal _ _)).mono ?_) | (with_reducible refine (ldo_of _ _ _ _ _ (do_other _ _)).mono ?_) | (with_reducible refine (ldo_of _ _ _ _ _ (do_and _ _)).mono ?_) | (with_reducible refine (ldo_of _ _ _ _ _ (do_or _ _)).mono ?_) | (with_reducible refine (ldo_of _ _ _ _ _ (do_not _ _)).mono ?_)); rintro e w' ⟨rfl, rfl⟩))
  go_ret
  exact ⟨rfl, by repeat (first | exact Grown.refl _ | apply Grown.drew | apply Grown.alloc)⟩

theorem order_eqtta (a b c : Int) (w : World)
    (h1 : decide (a < b) = false) (h2 : decide (a ≤ b) = true) (h3 : decide (b < a) = false) (h4 : decide (b ≤ a) = true) (h5 : (a == b) = true) (h6 : (a != b) = false)
    (h7 : (a == 0) = true) (h8 : (a != 0) = false) (h9 : (b == 0) = true) (h10 : (b != 0) = false)  :
    Calls Try.prog 6 #[.int .i64 a, .int .i64 b, .int .i64 c] w fun e w' => e = .returned (.bool true) ∧ Grown w w' := by
  have t1 := tv_true
  have t0 := tv_false
  go_enter Try.func6, Try.ntmps6
  go_wp2_with (first | (go_at_call 10; refine (alive_any _).mono ?_; rintro e w' ⟨rfl, rfl⟩) | (go_at_call 9; (first | (with_reducible refine (ldo_of _ _ _ _ _ (do_less _ _)).mono ?_) | (with_reducible refine (ldo_of _ _ _ _ _ (do_most _ _)).mono ?_) | (with_reducible refine (ldo_of _ _ _ _ _ (do_more _ _)).mono ?_) | (with_reducible refine (ldo_of _ _ _ _ _ (do_least _ _)).mono ?_) | (with_reducible refine (ldo_of _ _ _ _ _ (do_equal _ _)).mono ?_) | (with_reducible refine (ldo_of _ _ _ _ _ (do_other _ _)).mono ?_) | (with_reducible refine (ldo_of _ _ _ _ _ (do_and _ _)).mono ?_) | (with_reducible refine (ldo_of _ _ _ _ _ (do_or _ _)).mono ?_) | (with_reducible refine (ldo_of _ _ _ _ _ (do_not _ _)).mono ?_)); rintro e w' ⟨rfl, rfl⟩))
  go_ret
  exact ⟨rfl, by repeat (first | exact Grown.refl _ | apply Grown.drew | apply Grown.alloc)⟩

theorem order_eqffa (a b c : Int) (w : World)
    (h1 : decide (a < b) = false) (h2 : decide (a ≤ b) = true) (h3 : decide (b < a) = false) (h4 : decide (b ≤ a) = true) (h5 : (a == b) = true) (h6 : (a != b) = false)
    (h7 : (a == 0) = false) (h8 : (a != 0) = true) (h9 : (b == 0) = false) (h10 : (b != 0) = true)  :
    Calls Try.prog 6 #[.int .i64 a, .int .i64 b, .int .i64 c] w fun e w' => e = .returned (.bool true) ∧ Grown w w' := by
  have t1 := tv_true
  have t0 := tv_false
  go_enter Try.func6, Try.ntmps6
  go_wp2_with (first | (go_at_call 10; refine (alive_any _).mono ?_; rintro e w' ⟨rfl, rfl⟩) | (go_at_call 9; (first | (with_reducible refine (ldo_of _ _ _ _ _ (do_less _ _)).mono ?_) | (with_reducible refine (ldo_of _ _ _ _ _ (do_most _ _)).mono ?_) | (with_reducible refine (ldo_of _ _ _ _ _ (do_more _ _)).mono ?_) | (with_reducible refine (ldo_of _ _ _ _ _ (do_least _ _)).mono ?_) | (with_reducible refine (ldo_of _ _ _ _ _ (do_equal _ _)).mono ?_) | (with_reducible refine (ldo_of _ _ _ _ _ (do_other _ _)).mono ?_) | (with_reducible refine (ldo_of _ _ _ _ _ (do_and _ _)).mono ?_) | (with_reducible refine (ldo_of _ _ _ _ _ (do_or _ _)).mono ?_) | (with_reducible refine (ldo_of _ _ _ _ _ (do_not _ _)).mono ?_)); rintro e w' ⟨rfl, rfl⟩))
  go_ret
  exact ⟨rfl, by repeat (first | exact Grown.refl _ | apply Grown.drew | apply Grown.alloc)⟩

theorem order_gttta (a b c : Int) (w : World)
    (h1 : decide (a < b) = false) (h2 : decide (a ≤ b) = false) (h3 : decide (b < a) = true) (h4 : decide (b ≤ a) = true) (h5 : (a == b) = false) (h6 : (a != b) = true)
    (h7 : (a == 0) = true) (h8 : (a != 0) = false) (h9 : (b == 0) = true) (h10 : (b != 0) = false)  :
    Calls Try.prog 6 #[.int .i64 a, .int .i64 b, .int .i64 c] w fun e w' => e = .returned (.bool true) ∧ Grown w w' := by
  have t1 := tv_true
  have t0 := tv_false
  go_enter Try.func6, Try.ntmps6
  go_wp2_with (first | (go_at_call 10; refine (alive_any _).mono ?_; rintro e w' ⟨rfl, rfl⟩) | (go_at_call 9; (first | (with_reducible refine (ldo_of _ _ _ _ _ (do_less _ _)).mono ?_) | (with_reducible refine (ldo_of _ _ _ _ _ (do_most _ _)).mono ?_) | (with_reducible refine (ldo_of _ _ _ _ _ (do_more _ _)).mono ?_) | (with_reducible refine (ldo_of _ _ _ _ _ (do_least _ _)).mono ?_) | (with_reducible refine (ldo_of _ _ _ _ _ (do_equal _ _)).mono ?_) | (with_reducible refine (ldo_of _ _ _ _ _ (do_other _ _)).mono ?_) | (with_reducible refine (ldo_of _ _ _ _ _ (do_and _ _)).mono ?_) | (with_reducible refine (ldo_of _ _ _ _ _ (do_or _ _)).mono ?_) | (with_reducible refine (ldo_of _ _ _ _ _ (do_not _ _)).mono ?_)); rintro e w' ⟨rfl, rfl⟩))
  go_ret
  exact ⟨rfl, by repeat (first | exact Grown.refl _ | apply Grown.drew | apply Grown.alloc)⟩

theorem order_gttfa (a b c : Int) (w : World)
    (h1 : decide (a < b) = false) (h2 : decide (a ≤ b) = false) (h3 : decide (b < a) = true) (h4 : decide (b ≤ a) = true) (h5 : (a == b) = false) (h6 : (a != b) = true)
    (h7 : (a == 0) = true) (h8 : (a != 0) = false) (h9 : (b == 0) = false) (h10 : (b != 0) = true)  :
    Calls Try.prog 6 #[.int .i64 a, .int .i64 b, .int .i64 c] w fun e w' => e = .returned (.bool true) ∧ Grown w w' := by
  have t1 := tv_true
  have t0 := tv_false
  go_enter Try.func6, Try.ntmps6
  go_wp2_with (first | (go_at_call 10; refine (alive_any _).mono ?_; rintro e w' ⟨rfl, rfl⟩) | (go_at_call 9; (first | (with_reducible refine (ldo_of _ _ _ _ _ (do_less _ _)).mono ?_) | (with_reducible refine (ldo_of _ _ _ _ _ (do_most _ _)).mono ?_) | (with_reducible refine (ldo_of _ _ _ _ _ (do_more _ _)).mono ?_) | (with_reducible refine (ldo_of _ _ _ _ _ (do_least _ _)).mono ?_) | (with_reducible refine (ldo_of _ _ _ _ _ (do_equal _ _)).mono ?_) | (with_reducible refine (ldo_of _ _ _ _ _ (do_other _ _)).mono ?_) | (with_reducible refine (ldo_of _ _ _ _ _ (do_and _ _)).mono ?_) | (with_reducible refine (ldo_of _ _ _ _ _ (do_or _ _)).mono ?_) | (with_reducible refine (ldo_of _ _ _ _ _ (do_not _ _)).mono ?_)); rintro e w' ⟨rfl, rfl⟩))
  go_ret
  exact ⟨rfl, by repeat (first | exact Grown.refl _ | apply Grown.drew | apply Grown.alloc)⟩

theorem order_gtfta (a b c : Int) (w : World)
    (h1 : decide (a < b) = false) (h2 : decide (a ≤ b) = false) (h3 : decide (b < a) = true) (h4 : decide (b ≤ a) = true) (h5 : (a == b) = false) (h6 : (a != b) = true)
    (h7 : (a == 0) = false) (h8 : (a != 0) = true) (h9 : (b == 0) = true) (h10 : (b != 0) = false)  :
    Calls Try.prog 6 #[.int .i64 a, .int .i64 b, .int .i64 c] w fun e w' => e = .returned (.bool true) ∧ Grown w w' := by
  have t1 := tv_true
  have t0 := tv_false
  go_enter Try.func6, Try.ntmps6
  go_wp2_with (first | (go_at_call 10; refine (alive_any _).mono ?_; rintro e w' ⟨rfl, rfl⟩) | (go_at_call 9; (first | (with_reducible refine (ldo_of _ _ _ _ _ (do_less _ _)).mono ?_) | (with_reducible refine (ldo_of _ _ _ _ _ (do_most _ _)).mono ?_) | (with_reducible refine (ldo_of _ _ _ _ _ (do_more _ _)).mono ?_) | (with_reducible refine (ldo_of _ _ _ _ _ (do_least _ _)).mono ?_) | (with_reducible refine (ldo_of _ _ _ _ _ (do_equal _ _)).mono ?_) | (with_reducible refine (ldo_of _ _ _ _ _ (do_other _ _)).mono ?_) | (with_reducible refine (ldo_of _ _ _ _ _ (do_and _ _)).mono ?_) | (with_reducible refine (ldo_of _ _ _ _ _ (do_or _ _)).mono ?_) | (with_reducible refine (ldo_of _ _ _ _ _ (do_not _ _)).mono ?_)); rintro e w' ⟨rfl, rfl⟩))
  go_ret
  exact ⟨rfl, by repeat (first | exact Grown.refl _ | apply Grown.drew | apply Grown.alloc)⟩

theorem order_gtffa (a b c : Int) (w : World)
    (h1 : decide (a < b) = false) (h2 : decide (a ≤ b) = false) (h3 : decide (b < a) = true) (h4 : decide (b ≤ a) = true) (h5 : (a == b) = false) (h6 : (a != b) = true)
    (h7 : (a == 0) = false) (h8 : (a != 0) = true) (h9 : (b == 0) = false) (h10 : (b != 0) = true)  :
    Calls Try.prog 6 #[.int .i64 a, .int .i64 b, .int .i64 c] w fun e w' => e = .returned (.bool true) ∧ Grown w w' := by
  have t1 := tv_true
  have t0 := tv_false
  go_enter Try.func6, Try.ntmps6
  go_wp2_with (first | (go_at_call 10; refine (alive_any _).mono ?_; rintro e w' ⟨rfl, rfl⟩) | (go_at_call 9; (first | (with_reducible refine (ldo_of _ _ _ _ _ (do_less _ _)).mono ?_) | (with_reducible refine (ldo_of _ _ _ _ _ (do_most _ _)).mono ?_) | (with_reducible refine (ldo_of _ _ _ _ _ (do_more _ _)).mono ?_) | (with_reducible refine (ldo_of _ _ _ _ _ (do_least _ _)).mono ?_) | (with_reducible refine (ldo_of _ _ _ _ _ (do_equal _ _)).mono ?_) | (with_reducible refine (ldo_of _ _ _ _ _ (do_other _ _)).mono ?_) | (with_reducible refine (ldo_of _ _ _ _ _ (do_and _ _)).mono ?_) | (with_reducible refine (ldo_of _ _ _ _ _ (do_or _ _)).mono ?_) | (with_reducible refine (ldo_of _ _ _ _ _ (do_not _ _)).mono ?_)); rintro e w' ⟨rfl, rfl⟩))
  go_ret
  exact ⟨rfl, by repeat (first | exact Grown.refl _ | apply Grown.drew | apply Grown.alloc)⟩

theorem IntsOrder_walk (a b c : Int) (w0 : (Lit.int .i64 a).wf = true) (w1 : (Lit.int .i64 b).wf = true) (w2 : (Lit.int .i64 c).wf = true) (w : World) :
    Calls Try.prog 6 #[.int .i64 a, .int .i64 b, .int .i64 c] w fun e w' => e = .returned (.bool true) ∧ Grown w w' := by
  rcases Int.lt_trichotomy a b with h | h | h
  · by_cases hc : b < c <;> by_cases ha : a = 0 <;> by_cases hb : b = 0
    all_goals first
      | exact order_ltttt a b c w (by simp; omega) (by simp; omega) (by simp; omega) (by simp; omega) (by simp; omega) (by simp; omega) (by simp; omega) (by simp; omega) (by simp; omega) (by simp; omega) (by simp; omega) (by simp; omega)
      | exact order_ltttf a b c w (by simp; omega) (by simp; omega) (by simp; omega) (by simp; omega) (by simp; omega) (by simp; omega) (by simp; omega) (by simp; omega) (by simp; omega) (by simp; omega) (by simp; omega)
      | exact order_lttft a b c w (by simp; omega) (by simp; omega) (by simp; omega) (by simp; omega) (by simp; omega) (by simp; omega) (by simp; omega) (by simp; omega) (by simp; omega) (by simp; omega) (by simp; omega) (by simp; omega)
      | exact order_lttff a b c w (by simp; omega) (by simp; omega) (by simp; omega) (by simp; omega) (by simp; omega) (by simp; omega) (by simp; omega) (by simp; omega) (by simp; omega) (by simp; omega) (by simp; omega)
      | exact order_ltftt a b c w (by simp; omega) (by simp; omega) (by simp; omega) (by simp; omega) (by simp; omega) (by simp; omega) (by simp; omega) (by simp; omega) (by simp; omega) (by simp; omega) (by simp; omega) (by simp; omega)
      | exact order_ltftf a b c w (by simp; omega) (by simp; omega) (by simp; omega) (by simp; omega) (by simp; omega) (by simp; omega) (by simp; omega) (by simp; omega) (by simp; omega) (by simp; omega) (by simp; omega)
      | exact order_ltfft a b c w (by simp; omega) (by simp; omega) (by simp; omega) (by simp; omega) (by simp; omega) (by simp; omega) (by simp; omega) (by simp; omega) (by simp; omega) (by simp; omega) (by simp; omega) (by simp; omega)
      | exact order_ltfff a b c w (by simp; omega) (by simp; omega) (by simp; omega) (by simp; omega) (by simp; omega) (by simp; omega) (by simp; omega) (by simp; omega) (by simp; omega) (by simp; omega) (by simp; omega)
  · by_cases ha : a = 0 <;> by_cases hb : b = 0
    all_goals first
      | exact order_eqtta a b c w (by simp; omega) (by simp; omega) (by simp; omega) (by simp; omega) (by simp; omega) (by simp; omega) (by simp; omega) (by simp; omega) (by simp; omega) (by simp; omega)
      | exact order_eqffa a b c w (by simp; omega) (by simp; omega) (by simp; omega) (by simp; omega) (by simp; omega) (by simp; omega) (by simp; omega) (by simp; omega) (by simp; omega) (by simp; omega)
      | omega
  · by_cases ha : a = 0 <;> by_cases hb : b = 0
    all_goals first
      | exact order_gttta a b c w (by simp; omega) (by simp; omega) (by simp; omega) (by simp; omega) (by simp; omega) (by simp; omega) (by simp; omega) (by simp; omega) (by simp; omega) (by simp; omega)
      | exact order_gttfa a b c w (by simp; omega) (by simp; omega) (by simp; omega) (by simp; omega) (by simp; omega) (by simp; omega) (by simp; omega) (by simp; omega) (by simp; omega) (by simp; omega)
      | exact order_gtfta a b c w (by simp; omega) (by simp; omega) (by simp; omega) (by simp; omega) (by simp; omega) (by simp; omega) (by simp; omega) (by simp; omega) (by simp; omega) (by simp; omega)
      | exact order_gtffa a b c w (by simp; omega) (by simp; omega) (by simp; omega) (by simp; omega) (by simp; omega) (by simp; omega) (by simp; omega) (by simp; omega) (by simp; omega) (by simp; omega)
      | omega
end Go.Proofs.Yteoppgfdifhjmaa
