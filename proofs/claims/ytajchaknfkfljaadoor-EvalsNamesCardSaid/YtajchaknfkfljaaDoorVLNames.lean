/- EvalsNames walks to true. -/
import Derived.Test.YtajchaknfkfljaaDoorVLaw
namespace Go.Proofs.YtajchaknfkfljaaDoor.V7
open Go.ChangeShapes Go.WideShapes Go.ChangeAt Go.RowKit N4 K6
set_option linter.unusedVariables false
set_option linter.unusedSimpArgs false
set_option maxRecDepth 100000

theorem er_nil : errF [] = 8 := by decide +kernel
theorem er_zero : errF [⟨0, 0, 0, 0, 0⟩] = 8 := by decide +kernel
theorem er_61 : errF (List.replicate 61 ⟨0, 0, 0, 0, 0⟩) = 4 := by decide +kernel
theorem made_61 : (madeCells #[.int .u8 0, .int .i64 0, .int .i64 0, .int .i64 0, .int .i64 0] 305).toList = ndCells (List.replicate 61 ⟨0, 0, 0, 0, 0⟩) := by kernel_rfl
def four : List Int := [9223372036854775807, -9223372036854775807, 2, 9223372036854775807]
theorem ck_M : checkF (lf 1 9223372036854775807) = 0 := by decide +kernel
theorem ck_N7 : checkF (lf 1 7) = 0 := by decide +kernel
theorem ck_neg : checkF (made1 5 0 0 (lf 1 9223372036854775807)) = 0 := by decide +kernel
theorem ck_sub : checkF (made2 9 0 0 (made1 5 0 0 (lf 1 9223372036854775807)) (lf 1 2)) = 0 := by decide +kernel
theorem er_wrong : errF (made2 18 0 0 (lf 2 0) (lf 2 0)) = 42 := by decide +kernel
theorem er_sub : errF (made2 9 0 0 (made1 5 0 0 (lf 1 9223372036854775807)) (lf 1 2)) = 0 := by decide +kernel
theorem er_mul : errF (made2 7 0 0 (lf 2 0) (lf 3 0)) = 0 := by decide +kernel
theorem va_sub : valsF ⟨0, 0, 0⟩ (made2 9 0 0 (made1 5 0 0 (lf 1 9223372036854775807)) (lf 1 2)) = four := by decide +kernel
theorem us_2 : usesF (made2 7 0 0 (lf 2 0) (lf 3 0)) 2 = true := by decide +kernel
theorem us_3 : usesF (made2 7 0 0 (lf 2 0) (lf 3 0)) 3 = true := by decide +kernel
theorem us_4 : usesF (made2 7 0 0 (lf 2 0) (lf 3 0)) 4 = false := by decide +kernel
theorem er_N7 : errF (lf 1 7) = 0 := by decide +kernel
theorem va_N7 : lastV rc0 (lf 1 7) = 7 := by decide +kernel
theorem er_K : errF (lf 2 0) = 0 := by decide +kernel
theorem va_K : lastV rc0 (lf 2 0) = 3 := by decide +kernel
theorem er_T : errF (lf 3 0) = 0 := by decide +kernel
theorem va_T : lastV rc0 (lf 3 0) = 10 := by decide +kernel
theorem er_V : errF (lf 4 0) = 0 := by decide +kernel
theorem va_V : lastV rc0 (lf 4 0) = -4 := by decide +kernel
set_option maxHeartbeats 8000000 in
theorem EvalsNames_walk (w : World) (hs : SigT w) : Calls Tryd.prog 3 #[] w fun e w' => e = .returned (.bool true) ∧ Below w.heap.size w w' := by
  have HS := Lib.hid hs
  obtain ⟨i0, hi, hz0, hz1, hz2⟩ := info_parts nd_info
  have b0 := Bl.start w
  have SUB := Lib.hid (checkF_zero ck_sub)
  clear hs
  go_enter Tryd.func3, Tryd.ntmps3
  go_wp2_with (first
    | (go_at_call 9; (refine (ofv_bad none 0 0 [] ⟨0, 0, 0⟩ _ (b0.sig HS.out) rfl (by unfold maxLen; omega) (.inl rfl) 8 er_nil (by decide)).mono ?_); rintro e w1 ⟨rfl, hb⟩; have b1 := b0.step hb; clear hb b0)
    | (go_at_call 10; (refine (allv_bad _ 1 1 [⟨0, 0, 0, 0, 0⟩] ⟨0, 0, 0⟩ _ ((b1.al _).sig HS.out) rfl (by unfold maxLen; omega) (by exact lies_vals w1 _ rfl _ _ _ rfl) 8 er_zero (by decide)).mono ?_); rintro e w2 ⟨rfl, hb⟩; have b2 := (b1.al _).step hb; clear hb b1)
    | (refine wpList_make_full _ rfl _ _ 32 rfl w2.heap.size 31 i0 _ 5 Tryd.underlying32 hi hz0 hz1 .i64 .i64 _ _ 61 rfl rfl (by rfl) (by rfl) ?c1 ?c2 ?c3 ?_))
  case c1 => rw [hz2]; decide
  case c2 => unfold maxLen; decide
  case c3 => exact Nat.le_refl _
  intro w3 hown hgw
  have b3 : Bl w w3 := b2.step ((Below.refl _ _).grown hgw (Nat.le_refl _) (fun j hj => by cases hj))
  have L61 := Lib.hid (show Lies w3 (some ⟨w2.heap.size, 0, none⟩) (ndCells (List.replicate 61 ⟨0, 0, 0, 0, 0⟩)) by
    rw [← made_61]
    exact Lies.of_own hown (fun h => absurd h (by decide)))
  clear hown hgw b2
  go_wp2_with (first
    | (go_at_call 11; (refine (uses_bad _ 61 61 (List.replicate 61 ⟨0, 0, 0, 0, 0⟩) _ (b3.sig HS.out) (by rw [List.length_replicate]) (by unfold maxLen; omega) L61.out 4 er_61 (by decide)).mono ?_); rintro e w4 ⟨rfl, hb⟩; have b4 := b3.step hb; clear hb b3)
    | (go_at_call 13; (with_reducible refine (leaf_any 2 0 _).mono ?_); rintro e w5 ⟨A5, c5, rfl, l5, hb, q5⟩; have b5 := b4.step hb; clear hb b4)
    | (go_at_call 13; (with_reducible refine (leaf_any 2 0 _).mono ?_); rintro e w6 ⟨A6, c6, rfl, l6, hb, q6⟩; have b6 := b5.step hb; have l5 := (l5).below hb; clear hb b5)
    | (go_at_call 12; (with_reducible refine (two_any 18 A5 c5 1 (lf 2 0) rfl ck_K (by omega) A6 c6 1 (lf 2 0) rfl ck_K (by omega) 3 rfl _ l5 l6).mono ?_); rintro e w7 ⟨A7, c7, rfl, l7, hb, q7⟩; have b7 := b6.step hb; have l5 := (l5).below hb; have l6 := (l6).below hb; clear hb b6)
    | (go_at_call 9; (refine (ofv_bad A7 c7 3 (made2 18 0 0 (lf 2 0) (lf 2 0)) ⟨0, 0, 0⟩ _ (b7.sig HS.out) rfl (by unfold maxLen; omega) l7 42 er_wrong (by decide)).mono ?_); rintro e w8 ⟨rfl, hb⟩; have b8 := b7.step hb; have l7 := (l7).below hb; clear hb b7)
    | (go_at_call 10; (refine (allv_bad A7 c7 3 (made2 18 0 0 (lf 2 0) (lf 2 0)) ⟨0, 0, 0⟩ _ (b8.sig HS.out) rfl (by unfold maxLen; omega) l7 42 er_wrong (by decide)).mono ?_); rintro e w9 ⟨rfl, hb⟩; have b9 := b8.step hb; have l7 := (l7).below hb; clear hb b8)
    | (go_at_call 11; (refine (uses_bad A7 c7 3 (made2 18 0 0 (lf 2 0) (lf 2 0)) _ (b9.sig HS.out) rfl (by unfold maxLen; omega) l7 42 er_wrong (by decide)).mono ?_); rintro e w10 ⟨rfl, hb⟩; have b10 := b9.step hb; have l7 := (l7).below hb; clear hb b9)
    | (go_at_call 13; (with_reducible refine (leaf_any 1 9223372036854775807 _).mono ?_); rintro e w11 ⟨A11, c11, rfl, l11, hb, q11⟩; have b11 := b10.step hb; clear hb b10)
    | (go_at_call 14; (with_reducible refine (rmade_1 _ _ 5 0 0 _ A11 c11 1 (lf 1 9223372036854775807) rfl (l11.below ((Below.refl _ _).alloc (Nat.le_refl _) _)) ck_M (by omega) (lies_vals w11 _ rfl _ _ _ rfl) 2 rfl).mono ?_); rintro e w12 ⟨A12, c12, rfl, l12, hb, q12⟩; have b12 := (b11.al _).step hb; clear hb b11)
    | (go_at_call 13; (with_reducible refine (leaf_any 1 2 _).mono ?_); rintro e w13 ⟨A13, c13, rfl, l13, hb, q13⟩; have b13 := b12.step hb; have l12 := (l12).below hb; clear hb b12)
    | (go_at_call 12; (with_reducible refine (two_any 9 A12 c12 2 (made1 5 0 0 (lf 1 9223372036854775807)) rfl ck_neg (by omega) A13 c13 1 (lf 1 2) rfl ck_N2 (by omega) 4 rfl _ l12 l13).mono ?_); rintro e w14 ⟨A14, c14, rfl, l14, hb, q14⟩; have b14 := b13.step hb; have l12 := (l12).below hb; have l13 := (l13).below hb; clear hb b13)
    | (go_at_call 10; (refine (allv_ok A14 c14 4 (made2 9 0 0 (made1 5 0 0 (lf 1 9223372036854775807)) (lf 1 2)) _ ⟨0, 0, 0⟩ _ (b14.sig HS.out) rfl l14 SUB.out.choose_spec er_sub).mono ?_); rintro e w15 ⟨av, rfl, hl, hb⟩; have LV := Lib.hid (va_sub ▸ hl); have b15 := b14.step hb; have l14 := (l14).below hb; clear hb b14)
    | (go_at_call 13; (with_reducible refine (leaf_any 2 0 _).mono ?_); rintro e w16 ⟨A16, c16, rfl, l16, hb, q16⟩; have b16 := b15.step hb; have LV := Lib.hid (LV.out.below hb); clear hb b15)
    | (go_at_call 13; (with_reducible refine (leaf_any 3 0 _).mono ?_); rintro e w17 ⟨A17, c17, rfl, l17, hb, q17⟩; have b17 := b16.step hb; have l16 := (l16).below hb; have LV := Lib.hid (LV.out.below hb); clear hb b16)
    | (go_at_call 12; (with_reducible refine (two_any 7 A16 c16 1 (lf 2 0) rfl ck_K (by omega) A17 c17 1 (lf 3 0) rfl ck_T (by omega) 3 rfl _ l16 l17).mono ?_); rintro e w18 ⟨A18, c18, rfl, l18, hb, q18⟩; have b18 := b17.step hb; have l16 := (l16).below hb; have l17 := (l17).below hb; have LV := Lib.hid (LV.out.below hb); clear hb b17)
    | (go_at_call 11; (refine (uses_ok A18 c18 3 (made2 7 0 0 (lf 2 0) (lf 3 0)) _ (b18.sig HS.out) rfl (by unfold maxLen; omega) l18 er_mul true true false us_2 us_3 us_4).mono ?_); rintro e w19 ⟨rfl, hb⟩; have b19 := b18.step hb; have l18 := (l18).below hb; have LV := Lib.hid (LV.out.below hb); clear hb b18)
    | (go_at_call 13; (with_reducible refine (leaf_any 1 7 _).mono ?_); rintro e w20 ⟨A20, c20, rfl, l20, hb, q20⟩; have b20 := b19.step hb; have LV := Lib.hid (LV.out.below hb); clear hb b19)
    | (go_at_call 15; (with_reducible refine (is_true A20 c20 0 (lf 1 7) (7) rfl ck_N7 er_N7 va_N7 _ (b20.sig HS.out) l20).mono ?_); rintro e w21 ⟨rfl, hb⟩; have b21 := b20.step hb; have l20 := (l20).below hb; have LV := Lib.hid (LV.out.below hb); clear hb b20)
    | (go_at_call 13; (with_reducible refine (leaf_any 2 0 _).mono ?_); rintro e w22 ⟨A22, c22, rfl, l22, hb, q22⟩; have b22 := b21.step hb; have LV := Lib.hid (LV.out.below hb); clear hb b21)
    | (go_at_call 15; (with_reducible refine (is_true A22 c22 0 (lf 2 0) (3) rfl ck_K er_K va_K _ (b22.sig HS.out) l22).mono ?_); rintro e w23 ⟨rfl, hb⟩; have b23 := b22.step hb; have l22 := (l22).below hb; have LV := Lib.hid (LV.out.below hb); clear hb b22)
    | (go_at_call 13; (with_reducible refine (leaf_any 3 0 _).mono ?_); rintro e w24 ⟨A24, c24, rfl, l24, hb, q24⟩; have b24 := b23.step hb; have LV := Lib.hid (LV.out.below hb); clear hb b23)
    | (go_at_call 15; (with_reducible refine (is_true A24 c24 0 (lf 3 0) (10) rfl ck_T er_T va_T _ (b24.sig HS.out) l24).mono ?_); rintro e w25 ⟨rfl, hb⟩; have b25 := b24.step hb; have l24 := (l24).below hb; have LV := Lib.hid (LV.out.below hb); clear hb b24)
    | (go_at_call 13; (with_reducible refine (leaf_any 4 0 _).mono ?_); rintro e w26 ⟨A26, c26, rfl, l26, hb, q26⟩; have b26 := b25.step hb; have LV := Lib.hid (LV.out.below hb); clear hb b25)
    | (go_at_call 15; (with_reducible refine (is_true A26 c26 0 (lf 4 0) (-4) rfl ck_V er_V va_V _ (b26.sig HS.out) l26).mono ?_); rintro e w27 ⟨rfl, hb⟩; have b27 := b26.step hb; have l26 := (l26).below hb; have LV := Lib.hid (LV.out.below hb); clear hb b26)
    | (go_at_call 16; (refine (rsame_same _ _ 4 _ _ four _ rfl (by omega) (LV.out.below ((Below.refl _ _).alloc (Nat.le_refl _) _)) (lies_vals w27 _ rfl _ _ _ rfl)).mono ?_); rintro e w28 ⟨rfl, hb⟩; have b28 := (b27.al _).step hb; clear hb b27)
    | (go_at_call 17; (refine (alive_any _ (b28.sig HS.out)).mono ?_); rintro e w29 ⟨rfl, hb⟩; have b29 := b28.step hb; clear hb b28))
  go_ret
  exact ⟨rfl, b29⟩
end Go.Proofs.YtajchaknfkfljaaDoor.V7
