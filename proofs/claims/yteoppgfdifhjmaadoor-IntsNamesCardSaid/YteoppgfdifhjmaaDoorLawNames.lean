/- The law IntsNames: the chapter's examples, each operator, the ends of numbers, errors. -/
import Derived.Test.YteoppgfdifhjmaaDoorLawText
namespace Go.Proofs.YteoppgfdifhjmaaDoor
open Go.ChangeShapes Go.WideShapes Go.ChangeAt Go.RowKit
set_option linter.unusedVariables false

theorem gv_1 (w : World) : Calls Tryd.prog 6 #[.int .u8 5, .int .i64 5, .int .i64 9, .int .i64 (-5)] w fun e w' => e = .returned (.bool true) ∧ w = w' :=
  gives_of _ _ _ _ _ _ (do_neg _ _) (by unfold wrap64; omega)
theorem gv_2 (w : World) : Calls Tryd.prog 6 #[.int .u8 5, .int .i64 (-9223372036854775808), .int .i64 0, .int .i64 (-9223372036854775808)] w fun e w' => e = .returned (.bool true) ∧ w = w' :=
  gives_of _ _ _ _ _ _ (do_neg _ _) (by unfold wrap64; omega)
theorem gv_3 (w : World) : Calls Tryd.prog 6 #[.int .u8 6, .int .i64 0, .int .i64 9, .int .i64 1] w fun e w' => e = .returned (.bool true) ∧ w = w' :=
  gives_of _ _ _ _ _ _ (do_not _ _) (by decide)
theorem gv_4 (w : World) : Calls Tryd.prog 6 #[.int .u8 6, .int .i64 (-3), .int .i64 0, .int .i64 0] w fun e w' => e = .returned (.bool true) ∧ w = w' :=
  gives_of _ _ _ _ _ _ (do_not _ _) (by decide)
theorem gv_5 (w : World) : Calls Tryd.prog 6 #[.int .u8 7, .int .i64 3037000500, .int .i64 3037000500, .int .i64 (-9223372036709301616)] w fun e w' => e = .returned (.bool true) ∧ w = w' :=
  gives_of _ _ _ _ _ _ (do_mul _ _) (by unfold wrap64; omega)
theorem gv_6 (w : World) : Calls Tryd.prog 6 #[.int .u8 9, .int .i64 (-9223372036854775808), .int .i64 1, .int .i64 9223372036854775807] w fun e w' => e = .returned (.bool true) ∧ w = w' :=
  gives_of _ _ _ _ _ _ (do_sub _ _) (by unfold wrap64; omega)
theorem gv_7 (w : World) : Calls Tryd.prog 6 #[.int .u8 10, .int .i64 3, .int .i64 63, .int .i64 (-9223372036854775808)] w fun e w' => e = .returned (.bool true) ∧ w = w' :=
  gives_of _ _ _ _ _ _ (do_shl _ _) (by simp [wrap64, pl])
theorem gv_8 (w : World) : Calls Tryd.prog 6 #[.int .u8 11, .int .i64 (-9223372036854775808), .int .i64 63, .int .i64 (-1)] w fun e w' => e = .returned (.bool true) ∧ w = w' :=
  gives_of _ _ _ _ _ _ (do_shr _ _) (by simp [pl])
theorem gv_9 (w : World) : Calls Tryd.prog 6 #[.int .u8 10, .int .i64 7, .int .i64 0, .int .i64 7] w fun e w' => e = .returned (.bool true) ∧ w = w' :=
  gives_of _ _ _ _ _ _ (do_shl _ _) (by simp [wrap64, pl])
theorem gv_10 (w : World) : Calls Tryd.prog 6 #[.int .u8 11, .int .i64 7, .int .i64 64, .int .i64 7] w fun e w' => e = .returned (.bool true) ∧ w = w' :=
  gives_of _ _ _ _ _ _ (do_shr _ _) (by simp [pl])
theorem gv_11 (w : World) : Calls Tryd.prog 6 #[.int .u8 18, .int .i64 2, .int .i64 4, .int .i64 1] w fun e w' => e = .returned (.bool true) ∧ w = w' :=
  gives_of _ _ _ _ _ _ (do_and _ _) (by decide)
theorem gv_12 (w : World) : Calls Tryd.prog 6 #[.int .u8 18, .int .i64 2, .int .i64 0, .int .i64 0] w fun e w' => e = .returned (.bool true) ∧ w = w' :=
  gives_of _ _ _ _ _ _ (do_and _ _) (by decide)
theorem gv_13 (w : World) : Calls Tryd.prog 6 #[.int .u8 19, .int .i64 0, .int .i64 0, .int .i64 0] w fun e w' => e = .returned (.bool true) ∧ w = w' :=
  gives_of _ _ _ _ _ _ (do_or _ _) (by decide)
theorem gv_14 (w : World) : Calls Tryd.prog 6 #[.int .u8 19, .int .i64 0, .int .i64 (-1), .int .i64 1] w fun e w' => e = .returned (.bool true) ∧ w = w' :=
  gives_of _ _ _ _ _ _ (do_or _ _) (by decide)
theorem gv_15 (w : World) : Calls Tryd.prog 6 #[.int .u8 12, .int .i64 1, .int .i64 2, .int .i64 1] w fun e w' => e = .returned (.bool true) ∧ w = w' :=
  gives_of _ _ _ _ _ _ (do_less _ _) (by decide)
theorem gv_16 (w : World) : Calls Tryd.prog 6 #[.int .u8 12, .int .i64 2, .int .i64 2, .int .i64 0] w fun e w' => e = .returned (.bool true) ∧ w = w' :=
  gives_of _ _ _ _ _ _ (do_less _ _) (by decide)
theorem gv_17 (w : World) : Calls Tryd.prog 6 #[.int .u8 12, .int .i64 2, .int .i64 1, .int .i64 0] w fun e w' => e = .returned (.bool true) ∧ w = w' :=
  gives_of _ _ _ _ _ _ (do_less _ _) (by decide)
theorem gv_18 (w : World) : Calls Tryd.prog 6 #[.int .u8 13, .int .i64 1, .int .i64 2, .int .i64 1] w fun e w' => e = .returned (.bool true) ∧ w = w' :=
  gives_of _ _ _ _ _ _ (do_most _ _) (by decide)
theorem gv_19 (w : World) : Calls Tryd.prog 6 #[.int .u8 13, .int .i64 2, .int .i64 2, .int .i64 1] w fun e w' => e = .returned (.bool true) ∧ w = w' :=
  gives_of _ _ _ _ _ _ (do_most _ _) (by decide)
theorem gv_20 (w : World) : Calls Tryd.prog 6 #[.int .u8 13, .int .i64 2, .int .i64 1, .int .i64 0] w fun e w' => e = .returned (.bool true) ∧ w = w' :=
  gives_of _ _ _ _ _ _ (do_most _ _) (by decide)
theorem gv_21 (w : World) : Calls Tryd.prog 6 #[.int .u8 14, .int .i64 1, .int .i64 2, .int .i64 0] w fun e w' => e = .returned (.bool true) ∧ w = w' :=
  gives_of _ _ _ _ _ _ (do_more _ _) (by decide)
theorem gv_22 (w : World) : Calls Tryd.prog 6 #[.int .u8 14, .int .i64 2, .int .i64 2, .int .i64 0] w fun e w' => e = .returned (.bool true) ∧ w = w' :=
  gives_of _ _ _ _ _ _ (do_more _ _) (by decide)
theorem gv_23 (w : World) : Calls Tryd.prog 6 #[.int .u8 14, .int .i64 2, .int .i64 1, .int .i64 1] w fun e w' => e = .returned (.bool true) ∧ w = w' :=
  gives_of _ _ _ _ _ _ (do_more _ _) (by decide)
theorem gv_24 (w : World) : Calls Tryd.prog 6 #[.int .u8 15, .int .i64 1, .int .i64 2, .int .i64 0] w fun e w' => e = .returned (.bool true) ∧ w = w' :=
  gives_of _ _ _ _ _ _ (do_least _ _) (by decide)
theorem gv_25 (w : World) : Calls Tryd.prog 6 #[.int .u8 15, .int .i64 2, .int .i64 2, .int .i64 1] w fun e w' => e = .returned (.bool true) ∧ w = w' :=
  gives_of _ _ _ _ _ _ (do_least _ _) (by decide)
theorem gv_26 (w : World) : Calls Tryd.prog 6 #[.int .u8 15, .int .i64 2, .int .i64 1, .int .i64 1] w fun e w' => e = .returned (.bool true) ∧ w = w' :=
  gives_of _ _ _ _ _ _ (do_least _ _) (by decide)
theorem gv_27 (w : World) : Calls Tryd.prog 6 #[.int .u8 16, .int .i64 1, .int .i64 2, .int .i64 0] w fun e w' => e = .returned (.bool true) ∧ w = w' :=
  gives_of _ _ _ _ _ _ (do_equal _ _) (by decide)
theorem gv_28 (w : World) : Calls Tryd.prog 6 #[.int .u8 16, .int .i64 2, .int .i64 2, .int .i64 1] w fun e w' => e = .returned (.bool true) ∧ w = w' :=
  gives_of _ _ _ _ _ _ (do_equal _ _) (by decide)
theorem gv_29 (w : World) : Calls Tryd.prog 6 #[.int .u8 16, .int .i64 2, .int .i64 1, .int .i64 0] w fun e w' => e = .returned (.bool true) ∧ w = w' :=
  gives_of _ _ _ _ _ _ (do_equal _ _) (by decide)
theorem gv_30 (w : World) : Calls Tryd.prog 6 #[.int .u8 17, .int .i64 1, .int .i64 2, .int .i64 1] w fun e w' => e = .returned (.bool true) ∧ w = w' :=
  gives_of _ _ _ _ _ _ (do_other _ _) (by decide)
theorem gv_31 (w : World) : Calls Tryd.prog 6 #[.int .u8 17, .int .i64 2, .int .i64 2, .int .i64 0] w fun e w' => e = .returned (.bool true) ∧ w = w' :=
  gives_of _ _ _ _ _ _ (do_other _ _) (by decide)
theorem gv_32 (w : World) : Calls Tryd.prog 6 #[.int .u8 17, .int .i64 2, .int .i64 1, .int .i64 1] w fun e w' => e = .returned (.bool true) ∧ w = w' :=
  gives_of _ _ _ _ _ _ (do_other _ _) (by decide)

theorem rf_0 (w : World) : Calls Tryd.prog 8 #[.string ⟨#[]⟩] w fun e w' => e = .returned (.tuple #[.int .i64 0, .int .i64 12]) ∧ w = w' :=
  read_form _ w (by decide) (by decide +kernel)
theorem rf_1 (w : World) : Calls Tryd.prog 8 #[.string ⟨#[45, 49]⟩] w fun e w' => e = .returned (.tuple #[.int .i64 0, .int .i64 12]) ∧ w = w' :=
  read_form _ w (by decide) (by decide +kernel)
theorem rf_2 (w : World) : Calls Tryd.prog 8 #[.string ⟨#[43, 49]⟩] w fun e w' => e = .returned (.tuple #[.int .i64 0, .int .i64 12]) ∧ w = w' :=
  read_form _ w (by decide) (by decide +kernel)
theorem rf_3 (w : World) : Calls Tryd.prog 8 #[.string ⟨#[32, 49]⟩] w fun e w' => e = .returned (.tuple #[.int .i64 0, .int .i64 12]) ∧ w = w' :=
  read_form _ w (by decide) (by decide +kernel)
theorem rf_4 (w : World) : Calls Tryd.prog 8 #[.string ⟨#[49, 32]⟩] w fun e w' => e = .returned (.tuple #[.int .i64 0, .int .i64 12]) ∧ w = w' :=
  read_form _ w (by decide) (by decide +kernel)
theorem rf_5 (w : World) : Calls Tryd.prog 8 #[.string ⟨#[49, 95, 48]⟩] w fun e w' => e = .returned (.tuple #[.int .i64 0, .int .i64 12]) ∧ w = w' :=
  read_form _ w (by decide) (by decide +kernel)
theorem rf_6 (w : World) : Calls Tryd.prog 8 #[.string ⟨#[48, 120, 49]⟩] w fun e w' => e = .returned (.tuple #[.int .i64 0, .int .i64 12]) ∧ w = w' :=
  read_form _ w (by decide) (by decide +kernel)
theorem rf_7 (w : World) : Calls Tryd.prog 8 #[.string ⟨#[49, 46]⟩] w fun e w' => e = .returned (.tuple #[.int .i64 0, .int .i64 12]) ∧ w = w' :=
  read_form _ w (by decide) (by decide +kernel)
theorem rf_8 (w : World) : Calls Tryd.prog 8 #[.string ⟨#[97]⟩] w fun e w' => e = .returned (.tuple #[.int .i64 0, .int .i64 12]) ∧ w = w' :=
  read_form _ w (by decide) (by decide +kernel)
theorem rf_9 (w : World) : Calls Tryd.prog 8 #[.string ⟨#[0, 49]⟩] w fun e w' => e = .returned (.tuple #[.int .i64 0, .int .i64 12]) ∧ w = w' :=
  read_form _ w (by decide) (by decide +kernel)
theorem rb_0 (w : World) : Calls Tryd.prog 8 #[.string ⟨#[57, 50, 50, 51, 51, 55, 50, 48, 51, 54, 56, 53, 52, 55, 55, 53, 56, 48, 55]⟩] w fun e w' => e = .returned (.tuple #[.int .i64 9223372036854775807, .int .i64 0]) ∧ w = w' := by
  have h := read_dig ⟨#[57, 50, 50, 51, 51, 55, 50, 48, 51, 54, 56, 53, 52, 55, 55, 53, 56, 48, 55]⟩ w (by decide) (by decide +kernel)
  rw [show rdN (ByteArray.mk #[57, 50, 50, 51, 51, 55, 50, 48, 51, 54, 56, 53, 52, 55, 55, 53, 56, 48, 55]).data.toList = 9223372036854775807 by decide +kernel, show rdE (ByteArray.mk #[57, 50, 50, 51, 51, 55, 50, 48, 51, 54, 56, 53, 52, 55, 55, 53, 56, 48, 55]).data.toList = 0 by decide +kernel] at h
  exact h
theorem rb_1 (w : World) : Calls Tryd.prog 8 #[.string ⟨#[57, 50, 50, 51, 51, 55, 50, 48, 51, 54, 56, 53, 52, 55, 55, 53, 56, 48, 56]⟩] w fun e w' => e = .returned (.tuple #[.int .i64 0, .int .i64 16]) ∧ w = w' := by
  have h := read_dig ⟨#[57, 50, 50, 51, 51, 55, 50, 48, 51, 54, 56, 53, 52, 55, 55, 53, 56, 48, 56]⟩ w (by decide) (by decide +kernel)
  rw [show rdN (ByteArray.mk #[57, 50, 50, 51, 51, 55, 50, 48, 51, 54, 56, 53, 52, 55, 55, 53, 56, 48, 56]).data.toList = 0 by decide +kernel, show rdE (ByteArray.mk #[57, 50, 50, 51, 51, 55, 50, 48, 51, 54, 56, 53, 52, 55, 55, 53, 56, 48, 56]).data.toList = 16 by decide +kernel] at h
  exact h
theorem rb_2 (w : World) : Calls Tryd.prog 8 #[.string ⟨#[57, 57, 57, 57, 57, 57, 57, 57, 57, 57, 57, 57, 57, 57, 57, 57, 57, 57, 57, 57, 57, 57, 57]⟩] w fun e w' => e = .returned (.tuple #[.int .i64 0, .int .i64 16]) ∧ w = w' := by
  have h := read_dig ⟨#[57, 57, 57, 57, 57, 57, 57, 57, 57, 57, 57, 57, 57, 57, 57, 57, 57, 57, 57, 57, 57, 57, 57]⟩ w (by decide) (by decide +kernel)
  rw [show rdN (ByteArray.mk #[57, 57, 57, 57, 57, 57, 57, 57, 57, 57, 57, 57, 57, 57, 57, 57, 57, 57, 57, 57, 57, 57, 57]).data.toList = 0 by decide +kernel, show rdE (ByteArray.mk #[57, 57, 57, 57, 57, 57, 57, 57, 57, 57, 57, 57, 57, 57, 57, 57, 57, 57, 57, 57, 57, 57, 57]).data.toList = 16 by decide +kernel] at h
  exact h
theorem rb_3 (w : World) : Calls Tryd.prog 8 #[.string ⟨#[48, 48, 48, 48, 48, 48, 48, 48, 48, 48, 48, 48, 48, 48, 48, 48, 48, 48, 48, 48, 48, 48, 48, 48, 48, 48, 48, 49, 50]⟩] w fun e w' => e = .returned (.tuple #[.int .i64 12, .int .i64 0]) ∧ w = w' := by
  have h := read_dig ⟨#[48, 48, 48, 48, 48, 48, 48, 48, 48, 48, 48, 48, 48, 48, 48, 48, 48, 48, 48, 48, 48, 48, 48, 48, 48, 48, 48, 49, 50]⟩ w (by decide) (by decide +kernel)
  rw [show rdN (ByteArray.mk #[48, 48, 48, 48, 48, 48, 48, 48, 48, 48, 48, 48, 48, 48, 48, 48, 48, 48, 48, 48, 48, 48, 48, 48, 48, 48, 48, 49, 50]).data.toList = 12 by decide +kernel, show rdE (ByteArray.mk #[48, 48, 48, 48, 48, 48, 48, 48, 48, 48, 48, 48, 48, 48, 48, 48, 48, 48, 48, 48, 48, 48, 48, 48, 48, 48, 48, 49, 50]).data.toList = 0 by decide +kernel] at h
  exact h
theorem bk_0 (w : World) : Calls Tryd.prog 7 #[.int .u8 0, .int .i64 1, .int .i64 1] w fun e w' => e = .returned (.tuple #[.int .i64 0, .int .i64 2]) ∧ w = w' :=
  do_bad _ _ _ w (by decide)
theorem bk_1 (w : World) : Calls Tryd.prog 7 #[.int .u8 1, .int .i64 1, .int .i64 1] w fun e w' => e = .returned (.tuple #[.int .i64 0, .int .i64 2]) ∧ w = w' :=
  do_bad _ _ _ w (by decide)
theorem bk_2 (w : World) : Calls Tryd.prog 7 #[.int .u8 4, .int .i64 1, .int .i64 1] w fun e w' => e = .returned (.tuple #[.int .i64 0, .int .i64 2]) ∧ w = w' :=
  do_bad _ _ _ w (by decide)
theorem bk_3 (w : World) : Calls Tryd.prog 7 #[.int .u8 20, .int .i64 1, .int .i64 1] w fun e w' => e = .returned (.tuple #[.int .i64 0, .int .i64 2]) ∧ w = w' :=
  do_bad _ _ _ w (by decide)
theorem bk_4 (w : World) : Calls Tryd.prog 7 #[.int .u8 255, .int .i64 1, .int .i64 1] w fun e w' => e = .returned (.tuple #[.int .i64 0, .int .i64 2]) ∧ w = w' :=
  do_bad _ _ _ w (by decide)
theorem below_three (w : World) (o1 o2 o3 : Obj) : Below w.heap.size w (((w.alloc o1).alloc o2).alloc o3) :=
  ((((Below.refl _ _).alloc (Nat.le_refl _) _).alloc (by simp) _).alloc (by simp <;> omega) _)
theorem below_chain {W a b c : World} (h : Below W.heap.size W a) (h1 : Below a.heap.size a b) (h2 : Below b.heap.size b c) : Below W.heap.size W c :=
  (h.trans (h1.mono h.size)).trans (h2.mono (h.trans (h1.mono h.size)).size)
theorem txt_least : (txt (-9223372036854775808)).toList = [45, 57, 50, 50, 51, 51, 55, 50, 48, 51, 54, 56, 53, 52, 55, 55, 53, 56, 48, 56] := by
  rw [ByteArray.toList_eq]
  simp [txt, Lib.itoa, Lib.decDigits]
theorem txt_zero : (txt 0).toList = [48] := by
  rw [ByteArray.toList_eq]
  simp [txt, Lib.itoa, Lib.decDigits]

set_option maxRecDepth 100000 in
set_option maxHeartbeats 1000000 in
theorem IntsNames_walk (w : World) (hp : Pow w) :
    Calls Tryd.prog 3 #[] w fun e w' => e = .returned (.bool true) ∧ Below w.heap.size w w' := by
  have HP := Lib.hid hp
  clear hp
  go_enter Tryd.func3, Tryd.ntmps3
  go_wp2_with (go_at_call 6; (first | (with_reducible refine (gv_1 _).mono ?_) | (with_reducible refine (gv_2 _).mono ?_) | (with_reducible refine (gv_3 _).mono ?_) | (with_reducible refine (gv_4 _).mono ?_) | (with_reducible refine (gv_5 _).mono ?_) | (with_reducible refine (gv_6 _).mono ?_) | (with_reducible refine (gv_7 _).mono ?_) | (with_reducible refine (gv_8 _).mono ?_) | (with_reducible refine (gv_9 _).mono ?_) | (with_reducible refine (gv_10 _).mono ?_) | (with_reducible refine (gv_11 _).mono ?_) | (with_reducible refine (gv_12 _).mono ?_) | (with_reducible refine (gv_13 _).mono ?_) | (with_reducible refine (gv_14 _).mono ?_)); rintro e w' ⟨rfl, rfl⟩)
  go_loop [3] (fun i => ∃ k : Nat, k ≤ 6 ∧ i = .int .i64 k) (fun i => 6 - (intOf i).toNat)
  case atStart => exact ⟨0, by decide, rfl⟩
  case round =>
    obtain ⟨k, hk, rfl⟩ := hrel
    by_cases hlt : k < 6
    · rcases (show k = 0 ∨ k = 1 ∨ k = 2 ∨ k = 3 ∨ k = 4 ∨ k = 5 by omega) with rfl | rfl | rfl | rfl | rfl | rfl
      all_goals
        clear hk hlt
        go_wp2_with (go_at_call 6; (first | (with_reducible refine (gv_15 _).mono ?_) | (with_reducible refine (gv_16 _).mono ?_) | (with_reducible refine (gv_17 _).mono ?_) | (with_reducible refine (gv_18 _).mono ?_) | (with_reducible refine (gv_19 _).mono ?_) | (with_reducible refine (gv_20 _).mono ?_) | (with_reducible refine (gv_21 _).mono ?_) | (with_reducible refine (gv_22 _).mono ?_) | (with_reducible refine (gv_23 _).mono ?_) | (with_reducible refine (gv_24 _).mono ?_) | (with_reducible refine (gv_25 _).mono ?_) | (with_reducible refine (gv_26 _).mono ?_) | (with_reducible refine (gv_27 _).mono ?_) | (with_reducible refine (gv_28 _).mono ?_) | (with_reducible refine (gv_29 _).mono ?_) | (with_reducible refine (gv_30 _).mono ?_) | (with_reducible refine (gv_31 _).mono ?_) | (with_reducible refine (gv_32 _).mono ?_)); rintro e w' ⟨rfl, rfl⟩)
        go_round
        case rel => first | exact ⟨1, by decide, rfl⟩ | exact ⟨2, by decide, rfl⟩ | exact ⟨3, by decide, rfl⟩ | exact ⟨4, by decide, rfl⟩ | exact ⟨5, by decide, rfl⟩ | exact ⟨6, by decide, rfl⟩
        case measure => simp [intOf]
    · go_wp2_with (fail)
      clear hk hlt
      go_loop [6] (fun i => ∃ k : Nat, k ≤ 5 ∧ i = .int .i64 k) (fun i => 5 - (intOf i).toNat)
      case atStart => exact ⟨0, by decide, rfl⟩
      case round =>
        obtain ⟨k, hk, rfl⟩ := hrel
        by_cases hlt : k < 5
        · rcases (show k = 0 ∨ k = 1 ∨ k = 2 ∨ k = 3 ∨ k = 4 by omega) with rfl | rfl | rfl | rfl | rfl
          all_goals
            clear hk hlt
            go_wp2_with (go_at_call 7; (first | (with_reducible refine (bk_0 _).mono ?_) | (with_reducible refine (bk_1 _).mono ?_) | (with_reducible refine (bk_2 _).mono ?_) | (with_reducible refine (bk_3 _).mono ?_) | (with_reducible refine (bk_4 _).mono ?_)); rintro e w' ⟨rfl, rfl⟩)
            go_round
            case rel => first | exact ⟨1, by decide, rfl⟩ | exact ⟨2, by decide, rfl⟩ | exact ⟨3, by decide, rfl⟩ | exact ⟨4, by decide, rfl⟩ | exact ⟨5, by decide, rfl⟩
            case measure => simp [intOf]
        · go_wp2_with (fail)
          clear hk hlt
          go_loop [10] (fun i => ∃ k : Nat, k ≤ 10 ∧ i = .int .i64 k) (fun i => 10 - (intOf i).toNat)
          case atStart => exact ⟨0, by decide, rfl⟩
          case round =>
            obtain ⟨k, hk, rfl⟩ := hrel
            by_cases hlt : k < 10
            · rcases (show k = 0 ∨ k = 1 ∨ k = 2 ∨ k = 3 ∨ k = 4 ∨ k = 5 ∨ k = 6 ∨ k = 7 ∨ k = 8 ∨ k = 9 by omega) with rfl | rfl | rfl | rfl | rfl | rfl | rfl | rfl | rfl | rfl
              all_goals
                clear hk hlt
                go_wp2_with (go_at_call 8; (first | (with_reducible refine (rf_0 _).mono ?_) | (with_reducible refine (rf_1 _).mono ?_) | (with_reducible refine (rf_2 _).mono ?_) | (with_reducible refine (rf_3 _).mono ?_) | (with_reducible refine (rf_4 _).mono ?_) | (with_reducible refine (rf_5 _).mono ?_) | (with_reducible refine (rf_6 _).mono ?_) | (with_reducible refine (rf_7 _).mono ?_) | (with_reducible refine (rf_8 _).mono ?_) | (with_reducible refine (rf_9 _).mono ?_)); rintro e w' ⟨rfl, rfl⟩)
                go_round
                case rel => first | exact ⟨1, by decide, rfl⟩ | exact ⟨2, by decide, rfl⟩ | exact ⟨3, by decide, rfl⟩ | exact ⟨4, by decide, rfl⟩ | exact ⟨5, by decide, rfl⟩ | exact ⟨6, by decide, rfl⟩ | exact ⟨7, by decide, rfl⟩ | exact ⟨8, by decide, rfl⟩ | exact ⟨9, by decide, rfl⟩ | exact ⟨10, by decide, rfl⟩
                case measure => simp [intOf]
            · have t1 := txt_least
              have t2 := txt_zero
              go_wp2_with (first | (go_at_call 8; (first | (with_reducible refine (rb_0 _).mono ?_) | (with_reducible refine (rb_1 _).mono ?_) | (with_reducible refine (rb_2 _).mono ?_) | (with_reducible refine (rb_3 _).mono ?_)); rintro e w' ⟨rfl, rfl⟩) | (go_at_call 10; refine (alive_any _).mono ?_; rintro e w' ⟨rfl, rfl⟩) | (go_at_call 9; first | (with_reducible refine (itext_any (-9223372036854775808) _ (by decide) (by decide) (HP.out.stays ((((Below.refl _ _).alloc (Nat.le_refl _) _).alloc (by simp) _).alloc (by simp <;> omega) _))).mono ?_; rintro e w1 ⟨rfl, hb1⟩) | (with_reducible refine (itext_any 0 _ (by decide) (by decide) (HP.out.stays (((((Below.refl _ _).alloc (Nat.le_refl _) _).alloc (by simp) _).alloc (by simp <;> omega) _).trans (hb1.mono ((((Below.refl _ _).alloc (Nat.le_refl _) _).alloc (by simp) _).alloc (by simp <;> omega) _).size)))).mono ?_; rintro e w2 ⟨rfl, hb2⟩)))
              go_ret
              refine ⟨rfl, ?_⟩
              exact below_chain (below_three _ _ _ _) hb1 hb2
end Go.Proofs.YteoppgfdifhjmaaDoor
