/- KindsNames: the walk. -/
import Derived.Test.YtfnkofcgjbakeaaDoorKLNm0
namespace Go.Proofs.YtfnkofcgjbakeaaDoor.K6
open Go.ChangeShapes Go.WideShapes Go.ChangeAt Go.RowKit N4
set_option linter.unusedVariables false
set_option linter.unusedSimpArgs false
set_option maxRecDepth 100000

set_option maxHeartbeats 20000000 in
theorem KindsNames_walk (w : World) (hs : SigT w) : Calls Tryd.prog 3 #[] w fun e w' => e = .returned (.bool true) ∧ Below w.heap.size w w' := by
  have HS := Lib.hid hs
  clear hs
  go_enter Tryd.func3, Tryd.ntmps3
  go_wp2
  go_loopw [1] (fun kv wr => ∃ kk : Int, kv = .int .u8 kk ∧ 7 ≤ kk ∧ kk ≤ 20 ∧ Hid (Bl w wr)) (fun kv _ => 20 - (intOf kv).toNat)
  case atStart => exact ⟨7, rfl, by decide, by decide, Lib.hid (Bl.start w)⟩
  case round =>
    obtain ⟨kk, rfl, hk7, hk20, HB⟩ := hrel
    by_cases hlt : kk ≤ 19
    · go_wp2
      go_loopw [2] (fun iv wr => ∃ z : Int, iv = .int .i64 z ∧ 0 ≤ z ∧ z ≤ 4 ∧ Hid (Bl w wr)) (fun iv _ => 4 - (intOf iv).toNat)
      case atStart => exact ⟨0, rfl, by decide, by decide, HB⟩
      case round =>
        clear HB
        obtain ⟨z, rfl, hz0, hz4, HB⟩ := hrel
        have hcl : (7 ≤ kk ∧ kk ≤ 11) ∨ (12 ≤ kk ∧ kk ≤ 15) ∨ (16 ≤ kk ∧ kk ≤ 17) ∨ (18 ≤ kk ∧ kk ≤ 19) := by omega
        rcases (by omega : z = 4 ∨ z = 0 ∨ z = 1 ∨ z = 2 ∨ z = 3) with rfl | rfl | rfl | rfl | rfl
        · go_wp2
          go_roundw
          case rel => exact ⟨kk + 1, by go_num, by omega, by omega, HB⟩
          case measure => simp [intOf] <;> omega
        · rcases hcl with ⟨h1, h2⟩ | ⟨h1, h2⟩ | ⟨h1, h2⟩ | ⟨h1, h2⟩
          · have HO := Lib.hid (fun A c W (hb : Bl w W) hl => of_any A c 3 _ W (hb.sig HS.out) (by rfl) (by unfold maxLen; omega) hl _ _ _ (nm_ff_num h1 h2))
            have HT := Lib.hid (fun A c W (hb : Bl w W) hl => typed_true A c 3 _ false W (hb.sig HS.out) (by rfl) (by omega) hl 2 (by omega) (nm_ff_num h1 h2))
            have d17 : decide (kk ≤ 17) = true := by simp; omega
            have d16 : decide (16 ≤ kk) = false := by simp; omega
            have d12 : decide (12 ≤ kk) = false := by simp; omega
            go_wp2_with (first
              | (go_at_call 10; (with_reducible refine (bin_ff kk _).mono ?_); rintro e w1 ⟨A1, c1, rfl, hl1, hb, hc1⟩; have b1 := HB.out.step hb; have HL1 := Lib.hid hl1; clear hb hl1 hc1)
              | (go_at_call 11; (with_reducible refine (HT.out _ _ _ b1 HL1.out).mono ?_); rintro e w2 ⟨rfl, hb⟩; have b2 := b1.step hb; have HL1 := Lib.hid (HL1.out.below hb); clear hb b1)
              | (go_at_call 12; (with_reducible refine (HO.out _ _ _ b2 HL1.out).mono ?_); rintro e w3 ⟨rfl, hb⟩; have b3 := b2.step hb; clear hb b2))
            have HB3 := Lib.hid b3
            clear b3
            go_roundw
            case rel => exact ⟨1, by go_num, by decide, by decide, HB3⟩
            case measure => simp [intOf] <;> omega
          · have HO := Lib.hid (fun A c W (hb : Bl w W) hl => of_any A c 3 _ W (hb.sig HS.out) (by rfl) (by unfold maxLen; omega) hl _ _ _ (nm_ff_cmp h1 h2))
            have HT := Lib.hid (fun A c W (hb : Bl w W) hl => typed_true A c 3 _ true W (hb.sig HS.out) (by rfl) (by omega) hl 2 (by omega) (nm_ff_cmp h1 h2))
            have d17 : decide (kk ≤ 17) = true := by simp; omega
            have d16 : decide (16 ≤ kk) = false := by simp; omega
            have d12 : decide (12 ≤ kk) = true := by simp; omega
            go_wp2_with (first
              | (go_at_call 10; (with_reducible refine (bin_ff kk _).mono ?_); rintro e w1 ⟨A1, c1, rfl, hl1, hb, hc1⟩; have b1 := HB.out.step hb; have HL1 := Lib.hid hl1; clear hb hl1 hc1)
              | (go_at_call 11; (with_reducible refine (HT.out _ _ _ b1 HL1.out).mono ?_); rintro e w2 ⟨rfl, hb⟩; have b2 := b1.step hb; have HL1 := Lib.hid (HL1.out.below hb); clear hb b1)
              | (go_at_call 12; (with_reducible refine (HO.out _ _ _ b2 HL1.out).mono ?_); rintro e w3 ⟨rfl, hb⟩; have b3 := b2.step hb; clear hb b2))
            have HB3 := Lib.hid b3
            clear b3
            go_roundw
            case rel => exact ⟨1, by go_num, by decide, by decide, HB3⟩
            case measure => simp [intOf] <;> omega
          · have HO := Lib.hid (fun A c W (hb : Bl w W) hl => of_any A c 3 _ W (hb.sig HS.out) (by rfl) (by unfold maxLen; omega) hl _ _ _ (nm_ff_eq h1 h2))
            have HT := Lib.hid (fun A c W (hb : Bl w W) hl => typed_true A c 3 _ true W (hb.sig HS.out) (by rfl) (by omega) hl 2 (by omega) (nm_ff_eq h1 h2))
            have d17 : decide (kk ≤ 17) = true := by simp; omega
            have d16 : decide (16 ≤ kk) = true := by simp; omega
            have d12 : decide (12 ≤ kk) = true := by simp; omega
            go_wp2_with (first
              | (go_at_call 10; (with_reducible refine (bin_ff kk _).mono ?_); rintro e w1 ⟨A1, c1, rfl, hl1, hb, hc1⟩; have b1 := HB.out.step hb; have HL1 := Lib.hid hl1; clear hb hl1 hc1)
              | (go_at_call 11; (with_reducible refine (HT.out _ _ _ b1 HL1.out).mono ?_); rintro e w2 ⟨rfl, hb⟩; have b2 := b1.step hb; have HL1 := Lib.hid (HL1.out.below hb); clear hb b1)
              | (go_at_call 12; (with_reducible refine (HO.out _ _ _ b2 HL1.out).mono ?_); rintro e w3 ⟨rfl, hb⟩; have b3 := b2.step hb; clear hb b2))
            have HB3 := Lib.hid b3
            clear b3
            go_roundw
            case rel => exact ⟨1, by go_num, by decide, by decide, HB3⟩
            case measure => simp [intOf] <;> omega
          · have HO := Lib.hid (fun A c W (hb : Bl w W) hl => of_any A c 3 _ W (hb.sig HS.out) (by rfl) (by unfold maxLen; omega) hl _ _ _ (nm_ff_log h1 h2))
            have d17 : decide (kk ≤ 17) = false := by simp; omega
            have d16 : decide (16 ≤ kk) = true := by simp; omega
            have d12 : decide (12 ≤ kk) = true := by simp; omega
            go_wp2_with (first
              | (go_at_call 10; (with_reducible refine (bin_ff kk _).mono ?_); rintro e w1 ⟨A1, c1, rfl, hl1, hb, hc1⟩; have b1 := HB.out.step hb; have HL1 := Lib.hid hl1; clear hb hl1 hc1)
              | (go_at_call 12; (with_reducible refine (HO.out _ _ _ b1 HL1.out).mono ?_); rintro e w3 ⟨rfl, hb⟩; have b3 := b1.step hb; clear hb b1))
            have HB3 := Lib.hid b3
            clear b3
            go_roundw
            case rel => exact ⟨1, by go_num, by decide, by decide, HB3⟩
            case measure => simp [intOf] <;> omega
        · rcases hcl with ⟨h1, h2⟩ | ⟨h1, h2⟩ | ⟨h1, h2⟩ | ⟨h1, h2⟩
          · have HO := Lib.hid (fun A c W (hb : Bl w W) hl => of_any A c 5 _ W (hb.sig HS.out) (by rfl) (by unfold maxLen; omega) hl _ _ _ (nm_tf_num h1 h2))
            have d17 : decide (kk ≤ 17) = true := by simp; omega
            have d16 : decide (16 ≤ kk) = false := by simp; omega
            have d12 : decide (12 ≤ kk) = false := by simp; omega
            go_wp2_with (first
              | (go_at_call 10; (with_reducible refine (bin_tf kk _).mono ?_); rintro e w1 ⟨A1, c1, rfl, hl1, hb, hc1⟩; have b1 := HB.out.step hb; have HL1 := Lib.hid hl1; clear hb hl1 hc1)
              | (go_at_call 12; (with_reducible refine (HO.out _ _ _ b1 HL1.out).mono ?_); rintro e w3 ⟨rfl, hb⟩; have b3 := b1.step hb; clear hb b1))
            have HB3 := Lib.hid b3
            clear b3
            go_roundw
            case rel => exact ⟨2, by go_num, by decide, by decide, HB3⟩
            case measure => simp [intOf] <;> omega
          · have HO := Lib.hid (fun A c W (hb : Bl w W) hl => of_any A c 5 _ W (hb.sig HS.out) (by rfl) (by unfold maxLen; omega) hl _ _ _ (nm_tf_cmp h1 h2))
            have d17 : decide (kk ≤ 17) = true := by simp; omega
            have d16 : decide (16 ≤ kk) = false := by simp; omega
            have d12 : decide (12 ≤ kk) = true := by simp; omega
            go_wp2_with (first
              | (go_at_call 10; (with_reducible refine (bin_tf kk _).mono ?_); rintro e w1 ⟨A1, c1, rfl, hl1, hb, hc1⟩; have b1 := HB.out.step hb; have HL1 := Lib.hid hl1; clear hb hl1 hc1)
              | (go_at_call 12; (with_reducible refine (HO.out _ _ _ b1 HL1.out).mono ?_); rintro e w3 ⟨rfl, hb⟩; have b3 := b1.step hb; clear hb b1))
            have HB3 := Lib.hid b3
            clear b3
            go_roundw
            case rel => exact ⟨2, by go_num, by decide, by decide, HB3⟩
            case measure => simp [intOf] <;> omega
          · have HO := Lib.hid (fun A c W (hb : Bl w W) hl => of_any A c 5 _ W (hb.sig HS.out) (by rfl) (by unfold maxLen; omega) hl _ _ _ (nm_tf_eq h1 h2))
            have d17 : decide (kk ≤ 17) = true := by simp; omega
            have d16 : decide (16 ≤ kk) = true := by simp; omega
            have d12 : decide (12 ≤ kk) = true := by simp; omega
            go_wp2_with (first
              | (go_at_call 10; (with_reducible refine (bin_tf kk _).mono ?_); rintro e w1 ⟨A1, c1, rfl, hl1, hb, hc1⟩; have b1 := HB.out.step hb; have HL1 := Lib.hid hl1; clear hb hl1 hc1)
              | (go_at_call 12; (with_reducible refine (HO.out _ _ _ b1 HL1.out).mono ?_); rintro e w3 ⟨rfl, hb⟩; have b3 := b1.step hb; clear hb b1))
            have HB3 := Lib.hid b3
            clear b3
            go_roundw
            case rel => exact ⟨2, by go_num, by decide, by decide, HB3⟩
            case measure => simp [intOf] <;> omega
          · have HO := Lib.hid (fun A c W (hb : Bl w W) hl => of_any A c 5 _ W (hb.sig HS.out) (by rfl) (by unfold maxLen; omega) hl _ _ _ (nm_tf_log h1 h2))
            have d17 : decide (kk ≤ 17) = false := by simp; omega
            have d16 : decide (16 ≤ kk) = true := by simp; omega
            have d12 : decide (12 ≤ kk) = true := by simp; omega
            go_wp2_with (first
              | (go_at_call 10; (with_reducible refine (bin_tf kk _).mono ?_); rintro e w1 ⟨A1, c1, rfl, hl1, hb, hc1⟩; have b1 := HB.out.step hb; have HL1 := Lib.hid hl1; clear hb hl1 hc1)
              | (go_at_call 12; (with_reducible refine (HO.out _ _ _ b1 HL1.out).mono ?_); rintro e w3 ⟨rfl, hb⟩; have b3 := b1.step hb; clear hb b1))
            have HB3 := Lib.hid b3
            clear b3
            go_roundw
            case rel => exact ⟨2, by go_num, by decide, by decide, HB3⟩
            case measure => simp [intOf] <;> omega
        · rcases hcl with ⟨h1, h2⟩ | ⟨h1, h2⟩ | ⟨h1, h2⟩ | ⟨h1, h2⟩
          · have HO := Lib.hid (fun A c W (hb : Bl w W) hl => of_any A c 5 _ W (hb.sig HS.out) (by rfl) (by unfold maxLen; omega) hl _ _ _ (nm_ft_num h1 h2))
            have d17 : decide (kk ≤ 17) = true := by simp; omega
            have d16 : decide (16 ≤ kk) = false := by simp; omega
            have d12 : decide (12 ≤ kk) = false := by simp; omega
            go_wp2_with (first
              | (go_at_call 10; (with_reducible refine (bin_ft kk _).mono ?_); rintro e w1 ⟨A1, c1, rfl, hl1, hb, hc1⟩; have b1 := HB.out.step hb; have HL1 := Lib.hid hl1; clear hb hl1 hc1)
              | (go_at_call 12; (with_reducible refine (HO.out _ _ _ b1 HL1.out).mono ?_); rintro e w3 ⟨rfl, hb⟩; have b3 := b1.step hb; clear hb b1))
            have HB3 := Lib.hid b3
            clear b3
            go_roundw
            case rel => exact ⟨3, by go_num, by decide, by decide, HB3⟩
            case measure => simp [intOf] <;> omega
          · have HO := Lib.hid (fun A c W (hb : Bl w W) hl => of_any A c 5 _ W (hb.sig HS.out) (by rfl) (by unfold maxLen; omega) hl _ _ _ (nm_ft_cmp h1 h2))
            have d17 : decide (kk ≤ 17) = true := by simp; omega
            have d16 : decide (16 ≤ kk) = false := by simp; omega
            have d12 : decide (12 ≤ kk) = true := by simp; omega
            go_wp2_with (first
              | (go_at_call 10; (with_reducible refine (bin_ft kk _).mono ?_); rintro e w1 ⟨A1, c1, rfl, hl1, hb, hc1⟩; have b1 := HB.out.step hb; have HL1 := Lib.hid hl1; clear hb hl1 hc1)
              | (go_at_call 12; (with_reducible refine (HO.out _ _ _ b1 HL1.out).mono ?_); rintro e w3 ⟨rfl, hb⟩; have b3 := b1.step hb; clear hb b1))
            have HB3 := Lib.hid b3
            clear b3
            go_roundw
            case rel => exact ⟨3, by go_num, by decide, by decide, HB3⟩
            case measure => simp [intOf] <;> omega
          · have HO := Lib.hid (fun A c W (hb : Bl w W) hl => of_any A c 5 _ W (hb.sig HS.out) (by rfl) (by unfold maxLen; omega) hl _ _ _ (nm_ft_eq h1 h2))
            have d17 : decide (kk ≤ 17) = true := by simp; omega
            have d16 : decide (16 ≤ kk) = true := by simp; omega
            have d12 : decide (12 ≤ kk) = true := by simp; omega
            go_wp2_with (first
              | (go_at_call 10; (with_reducible refine (bin_ft kk _).mono ?_); rintro e w1 ⟨A1, c1, rfl, hl1, hb, hc1⟩; have b1 := HB.out.step hb; have HL1 := Lib.hid hl1; clear hb hl1 hc1)
              | (go_at_call 12; (with_reducible refine (HO.out _ _ _ b1 HL1.out).mono ?_); rintro e w3 ⟨rfl, hb⟩; have b3 := b1.step hb; clear hb b1))
            have HB3 := Lib.hid b3
            clear b3
            go_roundw
            case rel => exact ⟨3, by go_num, by decide, by decide, HB3⟩
            case measure => simp [intOf] <;> omega
          · have HO := Lib.hid (fun A c W (hb : Bl w W) hl => of_any A c 5 _ W (hb.sig HS.out) (by rfl) (by unfold maxLen; omega) hl _ _ _ (nm_ft_log h1 h2))
            have d17 : decide (kk ≤ 17) = false := by simp; omega
            have d16 : decide (16 ≤ kk) = true := by simp; omega
            have d12 : decide (12 ≤ kk) = true := by simp; omega
            go_wp2_with (first
              | (go_at_call 10; (with_reducible refine (bin_ft kk _).mono ?_); rintro e w1 ⟨A1, c1, rfl, hl1, hb, hc1⟩; have b1 := HB.out.step hb; have HL1 := Lib.hid hl1; clear hb hl1 hc1)
              | (go_at_call 12; (with_reducible refine (HO.out _ _ _ b1 HL1.out).mono ?_); rintro e w3 ⟨rfl, hb⟩; have b3 := b1.step hb; clear hb b1))
            have HB3 := Lib.hid b3
            clear b3
            go_roundw
            case rel => exact ⟨3, by go_num, by decide, by decide, HB3⟩
            case measure => simp [intOf] <;> omega
        · rcases hcl with ⟨h1, h2⟩ | ⟨h1, h2⟩ | ⟨h1, h2⟩ | ⟨h1, h2⟩
          · have HO := Lib.hid (fun A c W (hb : Bl w W) hl => of_any A c 7 _ W (hb.sig HS.out) (by rfl) (by unfold maxLen; omega) hl _ _ _ (nm_tt_num h1 h2))
            have d17 : decide (kk ≤ 17) = true := by simp; omega
            have d16 : decide (16 ≤ kk) = false := by simp; omega
            have d12 : decide (12 ≤ kk) = false := by simp; omega
            go_wp2_with (first
              | (go_at_call 10; (with_reducible refine (bin_tt kk _).mono ?_); rintro e w1 ⟨A1, c1, rfl, hl1, hb, hc1⟩; have b1 := HB.out.step hb; have HL1 := Lib.hid hl1; clear hb hl1 hc1)
              | (go_at_call 12; (with_reducible refine (HO.out _ _ _ b1 HL1.out).mono ?_); rintro e w3 ⟨rfl, hb⟩; have b3 := b1.step hb; clear hb b1))
            have HB3 := Lib.hid b3
            clear b3
            go_roundw
            case rel => exact ⟨4, by go_num, by decide, by decide, HB3⟩
            case measure => simp [intOf] <;> omega
          · have HO := Lib.hid (fun A c W (hb : Bl w W) hl => of_any A c 7 _ W (hb.sig HS.out) (by rfl) (by unfold maxLen; omega) hl _ _ _ (nm_tt_cmp h1 h2))
            have d17 : decide (kk ≤ 17) = true := by simp; omega
            have d16 : decide (16 ≤ kk) = false := by simp; omega
            have d12 : decide (12 ≤ kk) = true := by simp; omega
            go_wp2_with (first
              | (go_at_call 10; (with_reducible refine (bin_tt kk _).mono ?_); rintro e w1 ⟨A1, c1, rfl, hl1, hb, hc1⟩; have b1 := HB.out.step hb; have HL1 := Lib.hid hl1; clear hb hl1 hc1)
              | (go_at_call 12; (with_reducible refine (HO.out _ _ _ b1 HL1.out).mono ?_); rintro e w3 ⟨rfl, hb⟩; have b3 := b1.step hb; clear hb b1))
            have HB3 := Lib.hid b3
            clear b3
            go_roundw
            case rel => exact ⟨4, by go_num, by decide, by decide, HB3⟩
            case measure => simp [intOf] <;> omega
          · have HO := Lib.hid (fun A c W (hb : Bl w W) hl => of_any A c 7 _ W (hb.sig HS.out) (by rfl) (by unfold maxLen; omega) hl _ _ _ (nm_tt_eq h1 h2))
            have HT := Lib.hid (fun A c W (hb : Bl w W) hl => typed_true A c 7 _ true W (hb.sig HS.out) (by rfl) (by omega) hl 6 (by omega) (nm_tt_eq h1 h2))
            have d17 : decide (kk ≤ 17) = true := by simp; omega
            have d16 : decide (16 ≤ kk) = true := by simp; omega
            have d12 : decide (12 ≤ kk) = true := by simp; omega
            go_wp2_with (first
              | (go_at_call 10; (with_reducible refine (bin_tt kk _).mono ?_); rintro e w1 ⟨A1, c1, rfl, hl1, hb, hc1⟩; have b1 := HB.out.step hb; have HL1 := Lib.hid hl1; clear hb hl1 hc1)
              | (go_at_call 11; (with_reducible refine (HT.out _ _ _ b1 HL1.out).mono ?_); rintro e w2 ⟨rfl, hb⟩; have b2 := b1.step hb; have HL1 := Lib.hid (HL1.out.below hb); clear hb b1)
              | (go_at_call 12; (with_reducible refine (HO.out _ _ _ b2 HL1.out).mono ?_); rintro e w3 ⟨rfl, hb⟩; have b3 := b2.step hb; clear hb b2))
            have HB3 := Lib.hid b3
            clear b3
            go_roundw
            case rel => exact ⟨4, by go_num, by decide, by decide, HB3⟩
            case measure => simp [intOf] <;> omega
          · have HO := Lib.hid (fun A c W (hb : Bl w W) hl => of_any A c 7 _ W (hb.sig HS.out) (by rfl) (by unfold maxLen; omega) hl _ _ _ (nm_tt_log h1 h2))
            have HT := Lib.hid (fun A c W (hb : Bl w W) hl => typed_true A c 7 _ true W (hb.sig HS.out) (by rfl) (by omega) hl 6 (by omega) (nm_tt_log h1 h2))
            have d17 : decide (kk ≤ 17) = false := by simp; omega
            have d16 : decide (16 ≤ kk) = true := by simp; omega
            have d12 : decide (12 ≤ kk) = true := by simp; omega
            go_wp2_with (first
              | (go_at_call 10; (with_reducible refine (bin_tt kk _).mono ?_); rintro e w1 ⟨A1, c1, rfl, hl1, hb, hc1⟩; have b1 := HB.out.step hb; have HL1 := Lib.hid hl1; clear hb hl1 hc1)
              | (go_at_call 11; (with_reducible refine (HT.out _ _ _ b1 HL1.out).mono ?_); rintro e w2 ⟨rfl, hb⟩; have b2 := b1.step hb; have HL1 := Lib.hid (HL1.out.below hb); clear hb b1)
              | (go_at_call 12; (with_reducible refine (HO.out _ _ _ b2 HL1.out).mono ?_); rintro e w3 ⟨rfl, hb⟩; have b3 := b2.step hb; clear hb b2))
            have HB3 := Lib.hid b3
            clear b3
            go_roundw
            case rel => exact ⟨4, by go_num, by decide, by decide, HB3⟩
            case measure => simp [intOf] <;> omega
    · obtain rfl : kk = 20 := by omega
      have M1 := Lib.hid (fun PA pc W A1 c1 (h1 : Lies W A1 (ndCells vL)) hp => rmade_1 PA pc 5 0 0 W A1 c1 1 vL rfl h1 vL_ok (by omega) hp 2 rfl)
      have M2 := Lib.hid (fun PA pc W A1 c1 (h1 : Lies W A1 (ndCells uL)) hp => rmade_1 PA pc 6 0 0 W A1 c1 3 uL rfl h1 uL_ok (by omega) hp 4 rfl)
      have M3 := Lib.hid (fun PA pc W A1 c1 (h1 : Lies W A1 (ndCells uL)) hp => rmade_1 PA pc 5 0 0 W A1 c1 3 uL rfl h1 uL_ok (by omega) hp 4 rfl)
      have O3 := Lib.hid (fun A c W (hb : SigT W) hl => of_any A c 4 _ W hb (by rfl) (by unfold maxLen; omega) hl _ _ _ of_5u)
      have N1 := Lib.hid (fun A c W (hb : SigT W) hl => any_Number A c 3 _ W hb (by rfl) (by unfold maxLen; omega) hl _ _ w_u)
      have T1 := Lib.hid (fun A c W (hb : SigT W) hl => any_Truth A c 1 _ W hb (by rfl) (by unfold maxLen; omega) hl _ _ w_v)
      have N2 := Lib.hid (fun A c W (hb : SigT W) hl => any_Number A c 1 _ W hb (by rfl) (by unfold maxLen; omega) hl _ _ w_v2)
      have T2 := Lib.hid (fun A c W (hb : SigT W) hl => any_Truth A c 4 _ W hb (by rfl) (by unfold maxLen; omega) hl _ _ w_o)
      have O4 := Lib.hid (fun W (hb : SigT W) => of_any none 0 0 [] W hb rfl (by unfold maxLen; omega) (.inl rfl) _ _ _ of_nil)
      have A5 := Lib.hid (fun A c W (hb : SigT W) hl => all_bad A c 1 _ W hb (by rfl) (by unfold maxLen; omega) hl _ _ _ of_zero (by decide))
      have N6 := Lib.hid (fun A c W (hb : SigT W) hl => any_Number A c 61 (List.replicate 61 ⟨0, 0, 0, 0, 0⟩) W hb (by rw [List.length_replicate]) (by unfold maxLen; omega) hl _ _ (w_61 _ (by rw [List.length_replicate])))
      have T7 := Lib.hid (fun A c W (hb : SigT W) hl => any_Truth A c 5 _ W hb (by rfl) (by unfold maxLen; omega) hl _ _ w_18)
      have Y1 := Lib.hid (fun A c W (hb : SigT W) hl => typed_true A c 2 _ false W hb (by rfl) (by omega) hl 1 (by omega) of_n)
      have Y2 := Lib.hid (fun A c W (hb : SigT W) hl => typed_true A c 4 _ true W hb (by rfl) (by omega) hl 3 (by omega) of_o)
      have Y3 := Lib.hid (fun A c W (hb : SigT W) hl => typed_true A c 1 _ false W hb (by rfl) (by omega) hl 0 (by omega) of_v)
      obtain ⟨i0, hi, hz0, hz1, hz2⟩ := info_parts nd_info
      go_wp2_with (first
        | (go_at_call 10; (with_reducible refine (bin_ff 14 _).mono ?_); rintro e w1 ⟨A1, c1, rfl, hl1, hb, hc1⟩; have b1 := (HB.out.al _).step hb; have V1 := Lib.hid ((show Lies (wr.alloc _) (some ⟨wr.heap.size, 0, none⟩) (ndCells vL) from lies_vals wr _ rfl _ _ _ rfl).below hb); have U1 := Lib.hid (show Lies w1 A1 (ndCells uL) from hl1); clear hb hl1 hc1)
        | (go_at_call 13; (with_reducible refine (M1.out _ _ _ _ _ (V1.out.alloc _) (by exact lies_vals w1 _ rfl _ _ _ rfl)).mono ?_); rintro e w2 ⟨A2, c2, rfl, hl2, hb, hc2⟩; have b2 := (b1.al _).step hb; have V2 := Lib.hid ((V1.out.alloc _).below hb); have U2 := Lib.hid ((U1.out.alloc _).below hb); have P2 := Lib.hid (show Lies w2 A2 (ndCells nL) from hl2); clear hb hl2 hc2 b1 V1 U1)
        | (go_at_call 13; (with_reducible refine (M2.out _ _ _ _ _ (U2.out.alloc _) (by exact lies_vals w2 _ rfl _ _ _ rfl)).mono ?_); rintro e w3 ⟨A3, c3, rfl, hl3, hb, hc3⟩; have b3 := (b2.al _).step hb; have t0 : KS w _ _ _ _ w3 := ⟨b3, b3.sig HS.out, (V2.out.alloc _).below hb, (U2.out.alloc _).below hb, (P2.out.alloc _).below hb, hl3⟩; clear hb hl3 hc3 b2 V2 U2 P2)
        | (go_at_call 13; (with_reducible refine (M3.out _ _ _ _ _ (t0.t.alloc _) (by exact lies_vals w3 _ rfl _ _ _ rfl)).mono ?_); rintro e w4 ⟨A4, c4, rfl, hl4, hb, hc4⟩; have t1 := (t0.al _).step hb; have L4 := Lib.hid hl4; clear hb hl4 hc4 t0)
        | (go_at_call 12; (with_reducible refine (O3.out _ _ _ t1.sig L4.out).mono ?_); rintro e w5 ⟨rfl, hb⟩; have t2 := t1.step hb; clear hb t1)
        | (go_at_call 14; (with_reducible refine (N1.out _ _ _ t2.sig t2.t).mono ?_); rintro e w6 ⟨rfl, hb⟩; have t3 := t2.step hb; clear hb t2)
        | (go_at_call 15; (with_reducible refine (T1.out _ _ _ t3.sig t3.v).mono ?_); rintro e w7 ⟨rfl, hb⟩; have t4 := t3.step hb; clear hb t3)
        | (go_at_call 14; (with_reducible refine (N2.out _ _ _ t4.sig t4.v).mono ?_); rintro e w8 ⟨rfl, hb⟩; have t5 := t4.step hb; clear hb t4)
        | (go_at_call 15; (with_reducible refine (T2.out _ _ _ t5.sig t5.o).mono ?_); rintro e w9 ⟨rfl, hb⟩; have t6 := t5.step hb; clear hb t5)
        | (go_at_call 12; (with_reducible refine (O4.out _ t6.sig).mono ?_); rintro e wa ⟨rfl, hb⟩; have t7 := t6.step hb; clear hb t6)
        | (go_at_call 16; (with_reducible refine (A5.out _ _ _ (t7.al _).sig (by exact lies_vals wa _ rfl _ _ _ rfl)).mono ?_); rintro e wb ⟨rfl, hb⟩; have t8 := (t7.al _).step hb; clear hb t7)
        | (refine wpList_make_full _ rfl _ _ 22 rfl w.heap.size 29 i0 _ 5 Tryd.underlying22 hi hz0 hz1 .i64 .i64 _ _ 61 rfl rfl (by rfl) (by rfl) ?c1 ?c2 ?c3 ?_))
      case c1 => rw [hz2]; decide
      case c2 => unfold maxLen; decide
      case c3 => have := t8.bl.size; exact this
      intro wc hown hgw
      have t9 : KS w _ _ _ _ wc := t8.step ((Below.refl _ _).grown hgw (Nat.le_refl _) (fun j hj => by cases hj))
      have L61 := Lib.hid (show Lies wc (some ⟨wb.heap.size, 0, none⟩) (ndCells (List.replicate 61 ⟨0, 0, 0, 0, 0⟩)) by
        rw [← made_61]
        exact Lies.of_own hown (fun h => absurd h (by decide)))
      clear hown hgw t8 M1 M2 M3 O3 N1 T1 N2 T2 O4 A5
      go_wp2_with (first
        | (go_at_call 14; (with_reducible refine (N6.out _ _ _ t9.sig L61.out).mono ?_); rintro e wd ⟨rfl, hb⟩; have ta := t9.step hb; clear hb t9)
        | (go_at_call 10; (with_reducible refine (bin_tf 18 _).mono ?_); rintro e we ⟨Ae, ce, rfl, hle, hb, hce⟩; have tb := ta.step hb; have LE := Lib.hid hle; clear hb hle hce ta)
        | (go_at_call 15; (with_reducible refine (T7.out _ _ _ tb.sig LE.out).mono ?_); rintro e wf ⟨rfl, hb⟩; have tc := tb.step hb; clear hb tb)
        | (go_at_call 11; (with_reducible refine (Y1.out _ _ _ tc.sig tc.n).mono ?_); rintro e wg ⟨rfl, hb⟩; have td := tc.step hb; clear hb tc)
        | (go_at_call 11; (with_reducible refine (Y2.out _ _ _ td.sig td.o).mono ?_); rintro e wh ⟨rfl, hb⟩; have te := td.step hb; clear hb td)
        | (go_at_call 11; (with_reducible refine (Y3.out _ _ _ te.sig te.v).mono ?_); rintro e wi ⟨rfl, hb⟩; have tf := te.step hb; clear hb te)
        | (go_at_call 17; (with_reducible refine (alive_any _ tf.sig).mono ?_); rintro e wj ⟨rfl, hb⟩; have tg := tf.step hb; clear hb tf))
      go_ret
      exact ⟨rfl, tg.bl⟩
end Go.Proofs.YtfnkofcgjbakeaaDoor.K6
