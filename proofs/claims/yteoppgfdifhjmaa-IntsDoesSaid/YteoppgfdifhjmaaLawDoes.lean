/- The law IntsDoes: ints.Do and the reference's Do return the same number and error, for each kind and all numbers. -/
import Derived.Test.YteoppgfdifhjmaaRef
namespace Go.Proofs.Yteoppgfdifhjmaa
open Go.ChangeShapes Go.WideShapes Go.ChangeAt Go.RowKit
set_option linter.unusedVariables false

theorem does_of (k a b v c : Int) (w : World)
    (h1 : ∀ w : World, Calls Try.prog 7 #[.int .u8 k, .int .i64 a, .int .i64 b] w fun e w' => e = .returned (.tuple #[.int .i64 v, .int .i64 c]) ∧ w = w')
    (h2 : ∀ w : World, Calls Try.prog 8 #[.int .u8 k, .int .i64 a, .int .i64 b] w fun e w' => e = .returned (.tuple #[.int .i64 v, .int .i64 c]) ∧ w = w') :
    Calls Try.prog 3 #[.int .u8 k, .int .i64 a, .int .i64 b] w fun e w' => e = .returned (.bool true) ∧ w = w' := by
  have H1 := Lib.hid h1
  have H2 := Lib.hid h2
  clear h1 h2
  go_enter Try.func3, Try.ntmps3
  go_wp2_with (first | (go_at_call 7; refine (H1.out _).mono ?_; rintro e w' ⟨rfl, rfl⟩) | (go_at_call 8; refine (H2.out _).mono ?_; rintro e w' ⟨rfl, rfl⟩))
  go_ret
  exact ⟨ret_bool' (by simp), rfl⟩

theorem kinds_of (k : Int) (h0 : 0 ≤ k) (h1 : k ≤ 255) : (k < 5 ∨ 19 < k) ∨ k = 5 ∨ k = 6 ∨ k = 7 ∨ k = 8 ∨ k = 9 ∨ k = 10 ∨ k = 11 ∨ k = 12 ∨ k = 13 ∨ k = 14 ∨ k = 15 ∨ k = 16 ∨ k = 17 ∨ k = 18 ∨ k = 19 := by omega

theorem IntsDoes_walk (k a b : Int) (w0 : (Lit.int .u8 k).wf = true) (w1 : (Lit.int .i64 a).wf = true) (w2 : (Lit.int .i64 b).wf = true) (w : World) :
    Calls Try.prog 3 #[.int .u8 k, .int .i64 a, .int .i64 b] w fun e w' => e = .returned (.bool true) ∧ Grown w w' := by
  have hk := bounds_u8 w0
  have ha := bounds_i64 w1
  suffices h : Calls Try.prog 3 #[.int .u8 k, .int .i64 a, .int .i64 b] w fun e w' => e = .returned (.bool true) ∧ w = w' from
    h.mono fun e w' ⟨h1, h2⟩ => ⟨h1, h2 ▸ Grown.refl _⟩
  rcases kinds_of k hk.1 hk.2 with h | rfl | rfl | rfl | rfl | rfl | rfl | rfl | rfl | rfl | rfl | rfl | rfl | rfl | rfl | rfl
  · exact does_of _ _ _ _ _ _ (fun w => do_bad k a b w h) (fun w => rdo_bad k a b w h)
  · exact does_of _ _ _ _ _ _ (do_neg a b) (fun w => rdo_of _ _ _ _ w (by decide) (by decide) (given_neg a b))
  · exact does_of _ _ _ _ _ _ (do_not a b) (fun w => rdo_of _ _ _ _ w (by decide) (by decide) (given_not a b))
  · exact does_of _ _ _ _ _ _ (do_mul a b) (fun w => rdo_of _ _ _ _ w (by decide) (by decide) (given_mul a b))
  · exact does_of _ _ _ _ _ _ (do_add a b) (fun w => rdo_of _ _ _ _ w (by decide) (by decide) (given_add a b))
  · exact does_of _ _ _ _ _ _ (do_sub a b) (fun w => rdo_of _ _ _ _ w (by decide) (by decide) (given_sub a b))
  · exact does_of _ _ _ _ _ _ (do_shl a b) (fun w => rdo_of _ _ _ _ w (by decide) (by decide) (given_shl a b))
  · exact does_of _ _ _ _ _ _ (do_shr a b) (fun w => rdo_of _ _ _ _ w (by decide) (by decide) (fun w => given_shr a b w ha.1 ha.2))
  · exact does_of _ _ _ _ _ _ (do_less a b) (fun w => rdo_of _ _ _ _ w (by decide) (by decide) (given_less a b))
  · exact does_of _ _ _ _ _ _ (do_most a b) (fun w => rdo_of _ _ _ _ w (by decide) (by decide) (given_most a b))
  · exact does_of _ _ _ _ _ _ (do_more a b) (fun w => rdo_of _ _ _ _ w (by decide) (by decide) (given_more a b))
  · exact does_of _ _ _ _ _ _ (do_least a b) (fun w => rdo_of _ _ _ _ w (by decide) (by decide) (given_least a b))
  · exact does_of _ _ _ _ _ _ (do_equal a b) (fun w => rdo_of _ _ _ _ w (by decide) (by decide) (given_equal a b))
  · exact does_of _ _ _ _ _ _ (do_other a b) (fun w => rdo_of _ _ _ _ w (by decide) (by decide) (given_other a b))
  · exact does_of _ _ _ _ _ _ (do_and a b) (fun w => rdo_of _ _ _ _ w (by decide) (by decide) (given_and a b))
  · exact does_of _ _ _ _ _ _ (do_or a b) (fun w => rdo_of _ _ _ _ w (by decide) (by decide) (given_or a b))
end Go.Proofs.Yteoppgfdifhjmaa
