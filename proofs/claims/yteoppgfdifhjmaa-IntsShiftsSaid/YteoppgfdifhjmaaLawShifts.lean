/- The law IntsShifts: shifts to the left and back. -/
import Derived.Test.YteoppgfdifhjmaaLawDo
namespace Go.Proofs.Yteoppgfdifhjmaa
open Go.ChangeShapes Go.WideShapes Go.ChangeAt Go.RowKit
set_option linter.unusedVariables false

theorem and63 (b : Int) : bits BinOp.and IntKind.i64 b 63 = pl b := by
  have h : ((BitVec.ofInt 64 b &&& BitVec.ofInt 64 63).toNat : Int) = b % 64 := by
    rw [BitVec.toNat_and, BitVec.toNat_ofInt, BitVec.toNat_ofInt]
    rw [show ((63 : Int) % ((2 ^ 64 : Nat) : Int)).toNat = 2 ^ 6 - 1 by decide, Nat.and_two_pow_sub_one_eq_mod]
    omega
  show IntKind.i64.wrap ((BitVec.ofInt 64 b &&& BitVec.ofInt 64 63).toNat : Int) = pl b
  rw [h]
  show IntKind.i64.wrap (pl b) = pl b
  exact IntWalk.i64_in _ (by have := pl_lo b; have := pl_hi b; omega)
theorem pl_pl (b : Int) : pl (pl b) = pl b := by unfold pl; omega
theorem pl_more (b : Int) : pl (wrap64 (b + 64)) = pl b := by unfold pl wrap64; omega

theorem pow_split (n : Nat) (h : n ≤ 62) : (2 : Int) ^ (62 - n) * 2 ^ n = 4611686018427387904 := by
  rw [← Int.pow_add, show 62 - n + n = 62 by omega]; decide
theorem shl_back (a : Int) (n : Nat) (h : n ≤ 62) (h0 : -(2 : Int) ^ (62 - n) ≤ a) (h1 : a < (2 : Int) ^ (62 - n)) : wrap64 (a * 2 ^ n) / 2 ^ n = a := by
  have hp : 0 < (2 : Int) ^ n := Int.pow_pos (by decide)
  have hs := pow_split n h
  have g0 : -4611686018427387904 ≤ a * 2 ^ n := by
    have := Int.mul_le_mul_of_nonneg_right h0 (Int.le_of_lt hp)
    rw [Int.neg_mul, hs] at this; exact this
  have g1 : a * 2 ^ n ≤ 4611686018427387904 := by
    have := Int.mul_le_mul_of_nonneg_right (Int.le_of_lt h1) (Int.le_of_lt hp)
    rw [hs] at this; exact this
  rw [wrap64_id _ (by omega) (by omega)]
  exact Int.mul_ediv_cancel a (by omega)
theorem shr_neg (a : Int) (n : Nat) : a / 2 ^ n < 0 ↔ a < 0 := by
  have hp : 0 < (2 : Int) ^ n := Int.pow_pos (by decide)
  constructor
  · intro h; rcases Int.lt_or_le a 0 with g | g
    · exact g
    · have := Int.ediv_nonneg g (Int.le_of_lt hp); omega
  · intro h; exact Int.ediv_neg_of_neg_of_pos h hp
theorem pow_lo (n : Nat) : 1 ≤ (2 : Int) ^ n := Int.pow_pos (by decide)
theorem pow_le62 (n : Nat) : (2 : Int) ^ (62 - n) ≤ 4611686018427387904 := by
  have h := pow_split (62 - n) (by omega)
  have h1 := pow_lo (62 - (62 - n))
  have h2 := Int.mul_le_mul_of_nonneg_right h1 (Int.le_of_lt (show (0 : Int) < 2 ^ (62 - n) from Int.pow_pos (by decide)))
  rw [h, Int.one_mul] at h2
  exact h2

theorem IntsShifts_walk (a b : Int) (w0 : (Lit.int .i64 a).wf = true) (w1 : (Lit.int .i64 b).wf = true) (w : World) :
    Calls Try.prog 5 #[.int .i64 a, .int .i64 b] w fun e w' => e = .returned (.bool true) ∧ Grown w w' := by
  obtain ⟨ha0, ha1⟩ := bounds_i64 w0
  clear w0 w1
  have e1 := and63 b
  have e2 := pl_pl b
  have e3 := pl_more b
  have e4 := wrap64_mul_r a (2 ^ (pl b).toNat)
  have e9 := wrap64_id a ha0 ha1
  have h0 := pl_lo b
  have h1 := pl_hi b
  have hsb := shl_back a (pl b).toNat
  have hsn := shr_neg a (pl b).toNat
  have hpl := pow_lo (62 - (pl b).toNat)
  have hph := pow_le62 (pl b).toNat
  have hP : wrap64 (2 ^ (62 - pl b).toNat) = 2 ^ (62 - (pl b).toNat) := by
    rw [show (62 - pl b).toNat = 62 - (pl b).toNat by omega]
    exact wrap64_id _ (by omega) (by omega)
  have hM : wrap64 (-(2 : Int) ^ (62 - (pl b).toNat)) = -(2 : Int) ^ (62 - (pl b).toNat) := wrap64_id _ (by omega) (by omega)
  by_cases hz : pl b = 0
  · have hB : wrap64 (a * 2 ^ (pl b).toNat) / 2 ^ (pl b).toNat = a := by
      rw [hz]; simpa using e9
    have hz' : (pl b == 0) = true := by simp [hz]
    have hlt : pl b ≤ 62 := by omega
    clear hsb hsn hP hM hpl hph h1 hz
    go_enter Try.func5, Try.ntmps5
    go_wp2_with (first | (go_at_call 10; refine (alive_any _).mono ?_; rintro e w' ⟨rfl, rfl⟩) | (go_at_call 9; (first | (with_reducible refine (ldo_of _ _ _ _ _ (do_add _ _)).mono ?_) | (with_reducible refine (ldo_of _ _ _ _ _ (do_mul _ _)).mono ?_) | (with_reducible refine (ldo_of _ _ _ _ _ (do_shl _ _)).mono ?_) | (with_reducible refine (ldo_of _ _ _ _ _ (do_shr _ _)).mono ?_)); rintro e w' ⟨rfl, rfl⟩))
    go_ret
    exact ⟨rfl, by repeat (first | exact Grown.refl _ | apply Grown.drew | apply Grown.alloc)⟩
  · have hz' : (pl b == 0) = false := by simp [hz]
    by_cases h63 : 62 < pl b
    · clear hsb hP hM hpl hph hz
      have h63' : ¬ pl b < 63 := by omega
      go_enter Try.func5, Try.ntmps5
      go_wp2_with (first | (go_at_call 10; refine (alive_any _).mono ?_; rintro e w' ⟨rfl, rfl⟩) | (go_at_call 9; (first | (with_reducible refine (ldo_of _ _ _ _ _ (do_add _ _)).mono ?_) | (with_reducible refine (ldo_of _ _ _ _ _ (do_mul _ _)).mono ?_) | (with_reducible refine (ldo_of _ _ _ _ _ (do_shl _ _)).mono ?_) | (with_reducible refine (ldo_of _ _ _ _ _ (do_shr _ _)).mono ?_)); rintro e w' ⟨rfl, rfl⟩))
      go_ret
      exact ⟨rfl, by repeat (first | exact Grown.refl _ | apply Grown.drew | apply Grown.alloc)⟩
    · have hsb' := Lib.hid (hsb (by omega))
      have HP := Lib.hid hP
      have HM := Lib.hid hM
      have hsn := Lib.hid hsn
      clear hsb hP hM
      go_enter Try.func5, Try.ntmps5
      go_wp2_with (first | (go_at_call 10; refine (alive_any _).mono ?_; rintro e w' ⟨rfl, rfl⟩) | (go_at_call 9; (first | (with_reducible refine (ldo_of _ _ _ _ _ (do_add _ _)).mono ?_) | (with_reducible refine (ldo_of _ _ _ _ _ (do_mul _ _)).mono ?_) | (with_reducible refine (ldo_of _ _ _ _ _ (do_shl _ _)).mono ?_) | (with_reducible refine (ldo_of _ _ _ _ _ (do_shr _ _)).mono ?_)); rintro e w' ⟨rfl, rfl⟩))
      · go_ret
        exact ⟨rfl, by repeat (first | exact Grown.refl _ | apply Grown.drew | apply Grown.alloc)⟩
      · have g0 : wrap64 (-wrap64 (2 ^ (62 - pl b).toNat)) ≤ a := by assumption
        have g1 : a < wrap64 (2 ^ (62 - pl b).toNat) := by assumption
        have g2 : ¬wrap64 (a * 2 ^ (pl b).toNat) / 2 ^ (pl b).toNat = a := by assumption
        rw [HP.out, HM.out] at g0
        rw [HP.out] at g1
        exact absurd (hsb'.out g0 g1) g2
      · go_ret
        exact ⟨rfl, by repeat (first | exact Grown.refl _ | apply Grown.drew | apply Grown.alloc)⟩
      · go_ret
        exact ⟨rfl, by repeat (first | exact Grown.refl _ | apply Grown.drew | apply Grown.alloc)⟩
end Go.Proofs.Yteoppgfdifhjmaa
