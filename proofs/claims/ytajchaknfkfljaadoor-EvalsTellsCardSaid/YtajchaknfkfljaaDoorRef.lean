
/- Contracts of the reference of layer 1: Truth, Count, power, half, Compare, Given, Do. -/
import Derived.Test.YtajchaknfkfljaaDoorDo
import Derived.Test.YtajchaknfkfljaaDoorWrap
import Derived.Lib.Hide
namespace Go.Proofs.YtajchaknfkfljaaDoor
open Go.ChangeShapes Go.WideShapes Go.ChangeAt Go.RowKit
set_option linter.unusedVariables false

theorem ret_bool' {a b : Bool} (h : a = b) : Ending.returned (.bool a) = .returned (.bool b) := by rw [h]

theorem rtruth_any (p : Bool) (w : World) :
    Calls Tryd.prog 57 #[.bool p] w fun e w' => e = .returned (.int .i64 (tv p)) ∧ w = w' := by
  cases p
  all_goals
    go_enter Tryd.func57, Tryd.ntmps57
    go_wp2
    go_ret
    exact ⟨rfl, rfl⟩

theorem count_any (b : Int) (w : World) :
    Calls Tryd.prog 59 #[.int .i64 b] w fun e w' => e = .returned (.int .i64 (pl b)) ∧ w = w' := by
  go_enter Tryd.func59, Tryd.ntmps59
  go_wp2
  go_ret
  refine ⟨ret_int' ?_, rfl⟩
  rw [pl_eq, IntWalk.wrap64_in _ (by have := pl_lo b; have := pl_hi b; omega)]

def p2 (n : Nat) : Int := wrap64 (2 ^ n)
theorem p2_zero : p2 0 = 1 := by simp [p2, wrap64]
theorem p2_succ (n : Nat) : wrap64 (p2 n + p2 n) = p2 (n + 1) := by
  unfold p2 wrap64
  rw [Int.pow_succ]
  generalize (2 : Int) ^ n = x
  omega

theorem power_any (n : Int) (w : World) (h0 : 0 ≤ n) (hn : n ≤ 63) :
    Calls Tryd.prog 58 #[.int .i64 n] w fun e w' => e = .returned (.int .i64 (p2 n.toNat)) ∧ w = w' := by
  obtain ⟨n, rfl⟩ := Int.eq_ofNat_of_zero_le h0
  have hn' : n ≤ 63 := by omega
  clear h0 hn
  go_enter Tryd.func58, Tryd.ntmps58
  go_wp2
  go_loop [3, 4] (fun x i => ∃ k : Nat, k ≤ n ∧ i = .int .i64 k ∧ x = .int .i64 (p2 k)) (fun _ i => n - (intOf i).toNat)
  case atStart => exact ⟨0, Nat.zero_le _, rfl, by rw [p2_zero]⟩
  case round =>
    obtain ⟨k, hk, rfl, rfl⟩ := hrel
    have H := Lib.hid (p2_succ k)
    by_cases hlt : k < n
    · go_wp2
      go_round
      case rel => exact ⟨k + 1, by omega, by go_num, by rw [H.out]⟩
      case measure => simp [intOf]; omega
    · go_wp2
      go_ret
      exact ⟨ret_int' (by rw [show k = n by omega]), rfl⟩

theorem half_neg (x : Int) (h : x.tmod 2 < 0) : x.tdiv 2 - 1 = x / 2 := by
  have := Int.tmod_add_mul_tdiv x 2
  have := Int.tmod_two_eq x
  omega
theorem half_pos (x : Int) (h : 0 ≤ x.tmod 2) : x.tdiv 2 = x / 2 := by
  have h1 := Int.tmod_add_mul_tdiv x 2
  have h2 : x.tmod 2 < 2 := Int.tmod_lt_of_pos x (by decide)
  omega
theorem half_any (x : Int) (w : World) (h0 : -9223372036854775808 ≤ x) (h1 : x ≤ 9223372036854775807) :
    Calls Tryd.prog 60 #[.int .i64 x] w fun e w' => e = .returned (.int .i64 (x / 2)) ∧ w = w' := by
  by_cases hx : x.tmod 2 < 0
  · go_enter Tryd.func60, Tryd.ntmps60
    go_wp2
    go_ret
    refine ⟨ret_int' ?_, rfl⟩
    rw [half_neg x hx]
    unfold wrap64
    omega
  · go_enter Tryd.func60, Tryd.ntmps60
    go_wp2
    go_ret
    refine ⟨ret_int' ?_, rfl⟩
    rw [half_pos x (by omega)]

theorem div_two_pow_succ (a : Int) (k : Nat) : a / 2 ^ k / 2 = a / 2 ^ (k + 1) := by
  rw [Int.pow_succ, Int.ediv_ediv_of_nonneg (by exact Int.pow_nonneg (by decide))]
theorem div_two_pow_in (a : Int) (k : Nat) (h0 : -9223372036854775808 ≤ a) (h1 : a ≤ 9223372036854775807) : -9223372036854775808 ≤ a / 2 ^ k ∧ a / 2 ^ k ≤ 9223372036854775807 := by
  induction k with
  | zero => simpa using ⟨h0, h1⟩
  | succ k ih => rw [← div_two_pow_succ]; omega

theorem compare_less (a b : Int) (w : World) :
    Calls Tryd.prog 61 #[.int .u8 12, .int .i64 a, .int .i64 b] w fun e w' => e = .returned (.bool (decide (a < b))) ∧ w = w' := by
  rcases Int.lt_trichotomy a b with h | h | h
  all_goals
    go_enter Tryd.func61, Tryd.ntmps61
    go_wp2
    all_goals
      go_ret
      refine ⟨ret_bool' ?_, rfl⟩
      first | rfl | (rw [Bool.eq_iff_iff]; simp; omega) | (simp; omega)

theorem compare_most (a b : Int) (w : World) :
    Calls Tryd.prog 61 #[.int .u8 13, .int .i64 a, .int .i64 b] w fun e w' => e = .returned (.bool (decide (a ≤ b))) ∧ w = w' := by
  rcases Int.lt_trichotomy a b with h | h | h
  all_goals
    go_enter Tryd.func61, Tryd.ntmps61
    go_wp2
    all_goals
      go_ret
      refine ⟨ret_bool' ?_, rfl⟩
      first | rfl | (rw [Bool.eq_iff_iff]; simp; omega) | (simp; omega)

theorem compare_more (a b : Int) (w : World) :
    Calls Tryd.prog 61 #[.int .u8 14, .int .i64 a, .int .i64 b] w fun e w' => e = .returned (.bool (decide (b < a))) ∧ w = w' := by
  rcases Int.lt_trichotomy a b with h | h | h
  all_goals
    go_enter Tryd.func61, Tryd.ntmps61
    go_wp2
    all_goals
      go_ret
      refine ⟨ret_bool' ?_, rfl⟩
      first | rfl | (rw [Bool.eq_iff_iff]; simp; omega) | (simp; omega)

theorem compare_least (a b : Int) (w : World) :
    Calls Tryd.prog 61 #[.int .u8 15, .int .i64 a, .int .i64 b] w fun e w' => e = .returned (.bool (decide (b ≤ a))) ∧ w = w' := by
  rcases Int.lt_trichotomy a b with h | h | h
  all_goals
    go_enter Tryd.func61, Tryd.ntmps61
    go_wp2
    all_goals
      go_ret
      refine ⟨ret_bool' ?_, rfl⟩
      first | rfl | (rw [Bool.eq_iff_iff]; simp; omega) | (simp; omega)

theorem compare_equal (a b : Int) (w : World) :
    Calls Tryd.prog 61 #[.int .u8 16, .int .i64 a, .int .i64 b] w fun e w' => e = .returned (.bool (a == b)) ∧ w = w' := by
  rcases Int.lt_trichotomy a b with h | h | h
  all_goals
    go_enter Tryd.func61, Tryd.ntmps61
    go_wp2
    all_goals
      go_ret
      refine ⟨ret_bool' ?_, rfl⟩
      first | rfl | (rw [Bool.eq_iff_iff]; simp; omega) | (simp; omega)

theorem compare_other (a b : Int) (w : World) :
    Calls Tryd.prog 61 #[.int .u8 17, .int .i64 a, .int .i64 b] w fun e w' => e = .returned (.bool (a != b)) ∧ w = w' := by
  rcases Int.lt_trichotomy a b with h | h | h
  all_goals
    go_enter Tryd.func61, Tryd.ntmps61
    go_wp2
    all_goals
      go_ret
      refine ⟨ret_bool' ?_, rfl⟩
      first | rfl | (rw [Bool.eq_iff_iff]; simp; omega) | (simp; omega)

theorem given_neg (a b : Int) (w : World) :
    Calls Tryd.prog 48 #[.int .u8 5, .int .i64 a, .int .i64 b] w fun e w' => e = .returned (.int .i64 (wrap64 (-a))) ∧ w = w' := by
  have h0 := pl_lo b
  have h1 := pl_hi b
  go_enter Tryd.func48, Tryd.ntmps48
  go_wp2_with (first | (go_at_call 57; refine (rtruth_any _ _).mono ?_; rintro e w' ⟨rfl, rfl⟩) | (go_at_call 59; refine (count_any _ _).mono ?_; rintro e w' ⟨rfl, rfl⟩) | (go_at_call 58; refine (power_any _ _ (by assumption) (by assumption)).mono ?_; rintro e w' ⟨rfl, rfl⟩) | (go_at_call 61; (first | (with_reducible refine (compare_less _ _ _).mono ?_) | (with_reducible refine (compare_most _ _ _).mono ?_) | (with_reducible refine (compare_more _ _ _).mono ?_) | (with_reducible refine (compare_least _ _ _).mono ?_) | (with_reducible refine (compare_equal _ _ _).mono ?_) | (with_reducible refine (compare_other _ _ _).mono ?_)); rintro e w' ⟨rfl, rfl⟩))
  go_ret
  refine ⟨ret_int' ?_, rfl⟩
  first | rfl | (exact wrap64_mul_r _ _) | (rw [Int.zero_sub])

theorem given_not (a b : Int) (w : World) :
    Calls Tryd.prog 48 #[.int .u8 6, .int .i64 a, .int .i64 b] w fun e w' => e = .returned (.int .i64 (tv (a == 0))) ∧ w = w' := by
  have h0 := pl_lo b
  have h1 := pl_hi b
  go_enter Tryd.func48, Tryd.ntmps48
  go_wp2_with (first | (go_at_call 57; refine (rtruth_any _ _).mono ?_; rintro e w' ⟨rfl, rfl⟩) | (go_at_call 59; refine (count_any _ _).mono ?_; rintro e w' ⟨rfl, rfl⟩) | (go_at_call 58; refine (power_any _ _ (by assumption) (by assumption)).mono ?_; rintro e w' ⟨rfl, rfl⟩) | (go_at_call 61; (first | (with_reducible refine (compare_less _ _ _).mono ?_) | (with_reducible refine (compare_most _ _ _).mono ?_) | (with_reducible refine (compare_more _ _ _).mono ?_) | (with_reducible refine (compare_least _ _ _).mono ?_) | (with_reducible refine (compare_equal _ _ _).mono ?_) | (with_reducible refine (compare_other _ _ _).mono ?_)); rintro e w' ⟨rfl, rfl⟩))
  go_ret
  refine ⟨ret_int' ?_, rfl⟩
  first | rfl | (exact wrap64_mul_r _ _) | (rw [Int.zero_sub])

theorem given_mul (a b : Int) (w : World) :
    Calls Tryd.prog 48 #[.int .u8 7, .int .i64 a, .int .i64 b] w fun e w' => e = .returned (.int .i64 (wrap64 (a * b))) ∧ w = w' := by
  have h0 := pl_lo b
  have h1 := pl_hi b
  go_enter Tryd.func48, Tryd.ntmps48
  go_wp2_with (first | (go_at_call 57; refine (rtruth_any _ _).mono ?_; rintro e w' ⟨rfl, rfl⟩) | (go_at_call 59; refine (count_any _ _).mono ?_; rintro e w' ⟨rfl, rfl⟩) | (go_at_call 58; refine (power_any _ _ (by assumption) (by assumption)).mono ?_; rintro e w' ⟨rfl, rfl⟩) | (go_at_call 61; (first | (with_reducible refine (compare_less _ _ _).mono ?_) | (with_reducible refine (compare_most _ _ _).mono ?_) | (with_reducible refine (compare_more _ _ _).mono ?_) | (with_reducible refine (compare_least _ _ _).mono ?_) | (with_reducible refine (compare_equal _ _ _).mono ?_) | (with_reducible refine (compare_other _ _ _).mono ?_)); rintro e w' ⟨rfl, rfl⟩))
  go_ret
  refine ⟨ret_int' ?_, rfl⟩
  first | rfl | (exact wrap64_mul_r _ _) | (rw [Int.zero_sub])

theorem given_add (a b : Int) (w : World) :
    Calls Tryd.prog 48 #[.int .u8 8, .int .i64 a, .int .i64 b] w fun e w' => e = .returned (.int .i64 (wrap64 (a + b))) ∧ w = w' := by
  have h0 := pl_lo b
  have h1 := pl_hi b
  go_enter Tryd.func48, Tryd.ntmps48
  go_wp2_with (first | (go_at_call 57; refine (rtruth_any _ _).mono ?_; rintro e w' ⟨rfl, rfl⟩) | (go_at_call 59; refine (count_any _ _).mono ?_; rintro e w' ⟨rfl, rfl⟩) | (go_at_call 58; refine (power_any _ _ (by assumption) (by assumption)).mono ?_; rintro e w' ⟨rfl, rfl⟩) | (go_at_call 61; (first | (with_reducible refine (compare_less _ _ _).mono ?_) | (with_reducible refine (compare_most _ _ _).mono ?_) | (with_reducible refine (compare_more _ _ _).mono ?_) | (with_reducible refine (compare_least _ _ _).mono ?_) | (with_reducible refine (compare_equal _ _ _).mono ?_) | (with_reducible refine (compare_other _ _ _).mono ?_)); rintro e w' ⟨rfl, rfl⟩))
  go_ret
  refine ⟨ret_int' ?_, rfl⟩
  first | rfl | (exact wrap64_mul_r _ _) | (rw [Int.zero_sub])

theorem given_sub (a b : Int) (w : World) :
    Calls Tryd.prog 48 #[.int .u8 9, .int .i64 a, .int .i64 b] w fun e w' => e = .returned (.int .i64 (wrap64 (a - b))) ∧ w = w' := by
  have h0 := pl_lo b
  have h1 := pl_hi b
  go_enter Tryd.func48, Tryd.ntmps48
  go_wp2_with (first | (go_at_call 57; refine (rtruth_any _ _).mono ?_; rintro e w' ⟨rfl, rfl⟩) | (go_at_call 59; refine (count_any _ _).mono ?_; rintro e w' ⟨rfl, rfl⟩) | (go_at_call 58; refine (power_any _ _ (by assumption) (by assumption)).mono ?_; rintro e w' ⟨rfl, rfl⟩) | (go_at_call 61; (first | (with_reducible refine (compare_less _ _ _).mono ?_) | (with_reducible refine (compare_most _ _ _).mono ?_) | (with_reducible refine (compare_more _ _ _).mono ?_) | (with_reducible refine (compare_least _ _ _).mono ?_) | (with_reducible refine (compare_equal _ _ _).mono ?_) | (with_reducible refine (compare_other _ _ _).mono ?_)); rintro e w' ⟨rfl, rfl⟩))
  go_ret
  refine ⟨ret_int' ?_, rfl⟩
  first | rfl | (exact wrap64_mul_r _ _) | (rw [Int.zero_sub])

theorem given_shl (a b : Int) (w : World) :
    Calls Tryd.prog 48 #[.int .u8 10, .int .i64 a, .int .i64 b] w fun e w' => e = .returned (.int .i64 (wrap64 (a * 2 ^ (pl b).toNat))) ∧ w = w' := by
  have h0 := pl_lo b
  have h1 := pl_hi b
  go_enter Tryd.func48, Tryd.ntmps48
  go_wp2_with (first | (go_at_call 57; refine (rtruth_any _ _).mono ?_; rintro e w' ⟨rfl, rfl⟩) | (go_at_call 59; refine (count_any _ _).mono ?_; rintro e w' ⟨rfl, rfl⟩) | (go_at_call 58; refine (power_any _ _ (by assumption) (by assumption)).mono ?_; rintro e w' ⟨rfl, rfl⟩) | (go_at_call 61; (first | (with_reducible refine (compare_less _ _ _).mono ?_) | (with_reducible refine (compare_most _ _ _).mono ?_) | (with_reducible refine (compare_more _ _ _).mono ?_) | (with_reducible refine (compare_least _ _ _).mono ?_) | (with_reducible refine (compare_equal _ _ _).mono ?_) | (with_reducible refine (compare_other _ _ _).mono ?_)); rintro e w' ⟨rfl, rfl⟩))
  go_ret
  refine ⟨ret_int' ?_, rfl⟩
  first | rfl | (exact wrap64_mul_r _ _) | (rw [Int.zero_sub])

theorem given_less (a b : Int) (w : World) :
    Calls Tryd.prog 48 #[.int .u8 12, .int .i64 a, .int .i64 b] w fun e w' => e = .returned (.int .i64 (tv (decide (a < b)))) ∧ w = w' := by
  have h0 := pl_lo b
  have h1 := pl_hi b
  go_enter Tryd.func48, Tryd.ntmps48
  go_wp2_with (first | (go_at_call 57; refine (rtruth_any _ _).mono ?_; rintro e w' ⟨rfl, rfl⟩) | (go_at_call 59; refine (count_any _ _).mono ?_; rintro e w' ⟨rfl, rfl⟩) | (go_at_call 58; refine (power_any _ _ (by assumption) (by assumption)).mono ?_; rintro e w' ⟨rfl, rfl⟩) | (go_at_call 61; (first | (with_reducible refine (compare_less _ _ _).mono ?_) | (with_reducible refine (compare_most _ _ _).mono ?_) | (with_reducible refine (compare_more _ _ _).mono ?_) | (with_reducible refine (compare_least _ _ _).mono ?_) | (with_reducible refine (compare_equal _ _ _).mono ?_) | (with_reducible refine (compare_other _ _ _).mono ?_)); rintro e w' ⟨rfl, rfl⟩))
  go_ret
  refine ⟨ret_int' ?_, rfl⟩
  first | rfl | (exact wrap64_mul_r _ _) | (rw [Int.zero_sub])

theorem given_most (a b : Int) (w : World) :
    Calls Tryd.prog 48 #[.int .u8 13, .int .i64 a, .int .i64 b] w fun e w' => e = .returned (.int .i64 (tv (decide (a ≤ b)))) ∧ w = w' := by
  have h0 := pl_lo b
  have h1 := pl_hi b
  go_enter Tryd.func48, Tryd.ntmps48
  go_wp2_with (first | (go_at_call 57; refine (rtruth_any _ _).mono ?_; rintro e w' ⟨rfl, rfl⟩) | (go_at_call 59; refine (count_any _ _).mono ?_; rintro e w' ⟨rfl, rfl⟩) | (go_at_call 58; refine (power_any _ _ (by assumption) (by assumption)).mono ?_; rintro e w' ⟨rfl, rfl⟩) | (go_at_call 61; (first | (with_reducible refine (compare_less _ _ _).mono ?_) | (with_reducible refine (compare_most _ _ _).mono ?_) | (with_reducible refine (compare_more _ _ _).mono ?_) | (with_reducible refine (compare_least _ _ _).mono ?_) | (with_reducible refine (compare_equal _ _ _).mono ?_) | (with_reducible refine (compare_other _ _ _).mono ?_)); rintro e w' ⟨rfl, rfl⟩))
  go_ret
  refine ⟨ret_int' ?_, rfl⟩
  first | rfl | (exact wrap64_mul_r _ _) | (rw [Int.zero_sub])

theorem given_more (a b : Int) (w : World) :
    Calls Tryd.prog 48 #[.int .u8 14, .int .i64 a, .int .i64 b] w fun e w' => e = .returned (.int .i64 (tv (decide (b < a)))) ∧ w = w' := by
  have h0 := pl_lo b
  have h1 := pl_hi b
  go_enter Tryd.func48, Tryd.ntmps48
  go_wp2_with (first | (go_at_call 57; refine (rtruth_any _ _).mono ?_; rintro e w' ⟨rfl, rfl⟩) | (go_at_call 59; refine (count_any _ _).mono ?_; rintro e w' ⟨rfl, rfl⟩) | (go_at_call 58; refine (power_any _ _ (by assumption) (by assumption)).mono ?_; rintro e w' ⟨rfl, rfl⟩) | (go_at_call 61; (first | (with_reducible refine (compare_less _ _ _).mono ?_) | (with_reducible refine (compare_most _ _ _).mono ?_) | (with_reducible refine (compare_more _ _ _).mono ?_) | (with_reducible refine (compare_least _ _ _).mono ?_) | (with_reducible refine (compare_equal _ _ _).mono ?_) | (with_reducible refine (compare_other _ _ _).mono ?_)); rintro e w' ⟨rfl, rfl⟩))
  go_ret
  refine ⟨ret_int' ?_, rfl⟩
  first | rfl | (exact wrap64_mul_r _ _) | (rw [Int.zero_sub])

theorem given_least (a b : Int) (w : World) :
    Calls Tryd.prog 48 #[.int .u8 15, .int .i64 a, .int .i64 b] w fun e w' => e = .returned (.int .i64 (tv (decide (b ≤ a)))) ∧ w = w' := by
  have h0 := pl_lo b
  have h1 := pl_hi b
  go_enter Tryd.func48, Tryd.ntmps48
  go_wp2_with (first | (go_at_call 57; refine (rtruth_any _ _).mono ?_; rintro e w' ⟨rfl, rfl⟩) | (go_at_call 59; refine (count_any _ _).mono ?_; rintro e w' ⟨rfl, rfl⟩) | (go_at_call 58; refine (power_any _ _ (by assumption) (by assumption)).mono ?_; rintro e w' ⟨rfl, rfl⟩) | (go_at_call 61; (first | (with_reducible refine (compare_less _ _ _).mono ?_) | (with_reducible refine (compare_most _ _ _).mono ?_) | (with_reducible refine (compare_more _ _ _).mono ?_) | (with_reducible refine (compare_least _ _ _).mono ?_) | (with_reducible refine (compare_equal _ _ _).mono ?_) | (with_reducible refine (compare_other _ _ _).mono ?_)); rintro e w' ⟨rfl, rfl⟩))
  go_ret
  refine ⟨ret_int' ?_, rfl⟩
  first | rfl | (exact wrap64_mul_r _ _) | (rw [Int.zero_sub])

theorem given_equal (a b : Int) (w : World) :
    Calls Tryd.prog 48 #[.int .u8 16, .int .i64 a, .int .i64 b] w fun e w' => e = .returned (.int .i64 (tv (a == b))) ∧ w = w' := by
  have h0 := pl_lo b
  have h1 := pl_hi b
  go_enter Tryd.func48, Tryd.ntmps48
  go_wp2_with (first | (go_at_call 57; refine (rtruth_any _ _).mono ?_; rintro e w' ⟨rfl, rfl⟩) | (go_at_call 59; refine (count_any _ _).mono ?_; rintro e w' ⟨rfl, rfl⟩) | (go_at_call 58; refine (power_any _ _ (by assumption) (by assumption)).mono ?_; rintro e w' ⟨rfl, rfl⟩) | (go_at_call 61; (first | (with_reducible refine (compare_less _ _ _).mono ?_) | (with_reducible refine (compare_most _ _ _).mono ?_) | (with_reducible refine (compare_more _ _ _).mono ?_) | (with_reducible refine (compare_least _ _ _).mono ?_) | (with_reducible refine (compare_equal _ _ _).mono ?_) | (with_reducible refine (compare_other _ _ _).mono ?_)); rintro e w' ⟨rfl, rfl⟩))
  go_ret
  refine ⟨ret_int' ?_, rfl⟩
  first | rfl | (exact wrap64_mul_r _ _) | (rw [Int.zero_sub])

theorem given_other (a b : Int) (w : World) :
    Calls Tryd.prog 48 #[.int .u8 17, .int .i64 a, .int .i64 b] w fun e w' => e = .returned (.int .i64 (tv (a != b))) ∧ w = w' := by
  have h0 := pl_lo b
  have h1 := pl_hi b
  go_enter Tryd.func48, Tryd.ntmps48
  go_wp2_with (first | (go_at_call 57; refine (rtruth_any _ _).mono ?_; rintro e w' ⟨rfl, rfl⟩) | (go_at_call 59; refine (count_any _ _).mono ?_; rintro e w' ⟨rfl, rfl⟩) | (go_at_call 58; refine (power_any _ _ (by assumption) (by assumption)).mono ?_; rintro e w' ⟨rfl, rfl⟩) | (go_at_call 61; (first | (with_reducible refine (compare_less _ _ _).mono ?_) | (with_reducible refine (compare_most _ _ _).mono ?_) | (with_reducible refine (compare_more _ _ _).mono ?_) | (with_reducible refine (compare_least _ _ _).mono ?_) | (with_reducible refine (compare_equal _ _ _).mono ?_) | (with_reducible refine (compare_other _ _ _).mono ?_)); rintro e w' ⟨rfl, rfl⟩))
  go_ret
  refine ⟨ret_int' ?_, rfl⟩
  first | rfl | (exact wrap64_mul_r _ _) | (rw [Int.zero_sub])

theorem given_shr (a b : Int) (w : World) (ha0 : -9223372036854775808 ≤ a) (ha1 : a ≤ 9223372036854775807) :
    Calls Tryd.prog 48 #[.int .u8 11, .int .i64 a, .int .i64 b] w fun e w' => e = .returned (.int .i64 (a / 2 ^ (pl b).toNat)) ∧ w = w' := by
  have h0 := pl_lo b
  have h1 := pl_hi b
  go_enter Tryd.func48, Tryd.ntmps48
  go_wp2_with fail
  go_loop [1, 7] (fun x i => ∃ k : Nat, (k : Int) ≤ pl b ∧ i = .int .i64 k ∧ x = .int .i64 (a / 2 ^ k)) (fun _ i => ((pl b) - intOf i).toNat)
  case atStart => exact ⟨0, by omega, rfl, by simp⟩
  case round =>
    obtain ⟨k, hk, rfl, rfl⟩ := hrel
    have hb := div_two_pow_in a k ha0 ha1
    obtain ⟨hb0, hb1⟩ := hb
    have H := Lib.hid (div_two_pow_succ a k)
    generalize hx : a / 2 ^ k = x at *
    have HX := Lib.hid hx
    clear hx
    by_cases hlt : (k : Int) < pl b
    · go_wp2_with (first | (go_at_call 59; refine (count_any _ _).mono ?_; rintro e w' ⟨rfl, rfl⟩) | (go_at_call 60; refine (half_any _ _ (by assumption) (by assumption)).mono ?_; rintro e w' ⟨rfl, rfl⟩))
      go_round
      case rel => exact ⟨k + 1, by omega, by go_num, by rw [H.out]⟩
      case measure => simp [intOf]; omega
    · go_wp2_with (first | (go_at_call 59; refine (count_any _ _).mono ?_; rintro e w' ⟨rfl, rfl⟩))
      go_ret
      exact ⟨ret_int' (by rw [← HX.out, show k = (pl b).toNat by omega]), rfl⟩

theorem given_and (a b : Int) (w : World) :
    Calls Tryd.prog 48 #[.int .u8 18, .int .i64 a, .int .i64 b] w fun e w' => e = .returned (.int .i64 (tv (a != 0 && b != 0))) ∧ w = w' := by
  cases ha : (a != 0) <;> cases hb : (b != 0)
  all_goals
    go_enter Tryd.func48, Tryd.ntmps48
    go_wp2_with (go_at_call 57; refine (rtruth_any _ _).mono ?_; rintro e w' ⟨rfl, rfl⟩)
    go_ret
    exact ⟨rfl, rfl⟩

theorem given_or (a b : Int) (w : World) :
    Calls Tryd.prog 48 #[.int .u8 19, .int .i64 a, .int .i64 b] w fun e w' => e = .returned (.int .i64 (tv (a != 0 || b != 0))) ∧ w = w' := by
  cases ha : (a != 0) <;> cases hb : (b != 0)
  all_goals
    go_enter Tryd.func48, Tryd.ntmps48
    go_wp2_with (go_at_call 57; refine (rtruth_any _ _).mono ?_; rintro e w' ⟨rfl, rfl⟩)
    go_ret
    exact ⟨rfl, rfl⟩

end Go.Proofs.YtajchaknfkfljaaDoor
