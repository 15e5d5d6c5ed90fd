/- ParserNames walks to true. -/
import Derived.Test.YtlmamidodahgmaaDoorPAlive
import Derived.Test.YtlmamidodahgmaaDoorPNames0
namespace Go.Proofs.YtlmamidodahgmaaDoor.P9
open Go.ChangeShapes Go.WideShapes Go.ChangeAt Go.RowKit N4 Q8
set_option linter.unusedVariables false
set_option linter.unusedSimpArgs false
set_option maxRecDepth 100000

theorem qv_facts {w : World} {q : Qy} {v : Value} (h : QV w q v) : True := trivial
set_option maxHeartbeats 40000000 in
theorem ParserNames_walk (w : World) (hT : T9 w) : Calls Tryd.prog 3 #[] w fun e w' => e = .returned (.bool true) ∧ Below w.heap.size w w' := by
  have hg := G9.start hT
  have HG0 := Lib.hid hg
  have HAL := Lib.hid (fun W (hg : G9 w W) => alive_c w W hg)
  have HP0 := Lib.hid (fun W (hg : G9 w W) => show Calls Tryd.prog 6 #[.string ⟨#[115, 101, 108, 101, 99, 116, 32, 99, 111, 117, 110, 116, 40, 42, 41, 32, 102, 114, 111, 109, 32, 98, 32, 119, 105, 110, 100, 111, 119, 32, 116, 117, 109, 98, 108, 101, 32, 49]⟩] W (ParP ((parF n_0).1, 38, 0) W) from by have := parse_v n_0 ⟨#[115, 101, 108, 101, 99, 116, 32, 99, 111, 117, 110, 116, 40, 42, 41, 32, 102, 114, 111, 109, 32, 98, 32, 119, 105, 110, 100, 111, 119, 32, 116, 117, 109, 98, 108, 101, 32, 49]⟩ rfl (by decide) w W hg; rwa [show parF n_0 = ((parF n_0).1, 38, 0) from by rw [← nn_0.1, ← nn_0.2]] at this)
  have HC0 := Lib.hid (fun (W : World) (v : Value) (h : QV W (parF n_0).1 v) => show Calls Tryd.prog 7 #[v] W fun e w' => e = .returned (.int .i64 0) ∧ Below W.heap.size W w' from by have := rchk_v h; rwa [parF_chk nn_0.1] at this)
  have HP1 := Lib.hid (fun W (hg : G9 w W) => show Calls Tryd.prog 6 #[.string ⟨#[115, 101, 108, 101, 99, 116, 32, 109, 97, 120, 40, 116, 41, 32, 102, 114, 111, 109, 32, 100, 32, 119, 105, 110, 100, 111, 119, 32, 115, 101, 115, 115, 105, 111, 110, 32, 49, 48, 55, 51, 55, 52, 49, 56, 50, 52, 32, 108, 97, 116, 101, 32, 100, 114, 111, 112]⟩] W (ParP ((parF n_1).1, 56, 0) W) from by have := parse_v n_1 ⟨#[115, 101, 108, 101, 99, 116, 32, 109, 97, 120, 40, 116, 41, 32, 102, 114, 111, 109, 32, 100, 32, 119, 105, 110, 100, 111, 119, 32, 115, 101, 115, 115, 105, 111, 110, 32, 49, 48, 55, 51, 55, 52, 49, 56, 50, 52, 32, 108, 97, 116, 101, 32, 100, 114, 111, 112]⟩ rfl (by decide) w W hg; rwa [show parF n_1 = ((parF n_1).1, 56, 0) from by rw [← nn_1.1, ← nn_1.2]] at this)
  have HC1 := Lib.hid (fun (W : World) (v : Value) (h : QV W (parF n_1).1 v) => show Calls Tryd.prog 7 #[v] W fun e w' => e = .returned (.int .i64 0) ∧ Below W.heap.size W w' from by have := rchk_v h; rwa [parF_chk nn_1.1] at this)
  have HP2 := Lib.hid (fun W (hg : G9 w W) => show Calls Tryd.prog 6 #[.string ⟨#[115, 101, 108, 101, 99, 116, 32, 109, 105, 110, 40, 45, 107, 41, 32, 102, 114, 111, 109, 32, 97, 32, 106, 111, 105, 110, 32, 100, 32, 119, 105, 110, 100, 111, 119, 32, 116, 117, 109, 98, 108, 101, 32, 57, 32, 98, 121, 32, 107, 101, 121]⟩] W (ParP ((parF n_2).1, 51, 0) W) from by have := parse_v n_2 ⟨#[115, 101, 108, 101, 99, 116, 32, 109, 105, 110, 40, 45, 107, 41, 32, 102, 114, 111, 109, 32, 97, 32, 106, 111, 105, 110, 32, 100, 32, 119, 105, 110, 100, 111, 119, 32, 116, 117, 109, 98, 108, 101, 32, 57, 32, 98, 121, 32, 107, 101, 121]⟩ rfl (by decide) w W hg; rwa [show parF n_2 = ((parF n_2).1, 51, 0) from by rw [← nn_2.1, ← nn_2.2]] at this)
  have HC2 := Lib.hid (fun (W : World) (v : Value) (h : QV W (parF n_2).1 v) => show Calls Tryd.prog 7 #[v] W fun e w' => e = .returned (.int .i64 0) ∧ Below W.heap.size W w' from by have := rchk_v h; rwa [parF_chk nn_2.1] at this)
  have HP3 := Lib.hid (fun W (hg : G9 w W) => show Calls Tryd.prog 6 #[.string ⟨#[115, 101, 108, 101, 99, 116, 32, 99, 111, 117, 110, 116, 32, 40, 32, 42, 32, 41, 32, 102, 114, 111, 109, 32, 100, 32, 117, 110, 105, 111, 110, 32, 99, 32, 117, 110, 105, 111, 110, 32, 98, 32, 117, 110, 105, 111, 110, 32, 97, 32, 119, 105, 110, 100, 111, 119, 32, 115, 108, 105, 100, 101, 32, 49, 54, 32, 101, 118, 101, 114, 121, 32, 49]⟩] W (ParP ((parF n_3).1, 73, 0) W) from by have := parse_v n_3 ⟨#[115, 101, 108, 101, 99, 116, 32, 99, 111, 117, 110, 116, 32, 40, 32, 42, 32, 41, 32, 102, 114, 111, 109, 32, 100, 32, 117, 110, 105, 111, 110, 32, 99, 32, 117, 110, 105, 111, 110, 32, 98, 32, 117, 110, 105, 111, 110, 32, 97, 32, 119, 105, 110, 100, 111, 119, 32, 115, 108, 105, 100, 101, 32, 49, 54, 32, 101, 118, 101, 114, 121, 32, 49]⟩ rfl (by decide) w W hg; rwa [show parF n_3 = ((parF n_3).1, 73, 0) from by rw [← nn_3.1, ← nn_3.2]] at this)
  have HC3 := Lib.hid (fun (W : World) (v : Value) (h : QV W (parF n_3).1 v) => show Calls Tryd.prog 7 #[v] W fun e w' => e = .returned (.int .i64 0) ∧ Below W.heap.size W w' from by have := rchk_v h; rwa [parF_chk nn_3.1] at this)
  have HF0 := Lib.hid (fun W (hg : G9 w W) => fails_c f_0 ⟨#[]⟩ rfl (by decide) 0 12 ff_0.1 ff_0.2 (by decide) w W hg)
  have HF1 := Lib.hid (fun W (hg : G9 w W) => fails_c f_1 ⟨#[102, 114, 111, 109]⟩ rfl (by decide) 0 12 ff_1.1 ff_1.2 (by decide) w W hg)
  have HF2 := Lib.hid (fun W (hg : G9 w W) => fails_c f_2 ⟨#[115, 101, 108, 101, 99, 116]⟩ rfl (by decide) 6 12 ff_2.1 ff_2.2 (by decide) w W hg)
  have HF3 := Lib.hid (fun W (hg : G9 w W) => fails_c f_3 ⟨#[115, 101, 108, 101, 99, 116, 32, 97, 118, 103]⟩ rfl (by decide) 7 32 ff_3.1 ff_3.2 (by decide) w W hg)
  have HF4 := Lib.hid (fun W (hg : G9 w W) => fails_c f_4 ⟨#[115, 101, 108, 101, 99, 116, 32, 99, 111, 117, 110, 116, 40, 118, 41]⟩ rfl (by decide) 13 12 ff_4.1 ff_4.2 (by decide) w W hg)
  have HF5 := Lib.hid (fun W (hg : G9 w W) => fails_c f_5 ⟨#[115, 101, 108, 101, 99, 116, 32, 115, 117, 109, 40, 42, 41]⟩ rfl (by decide) 11 12 ff_5.1 ff_5.2 (by decide) w W hg)
  have HF6 := Lib.hid (fun W (hg : G9 w W) => fails_c f_6 ⟨#[115, 101, 108, 101, 99, 116, 32, 115, 117, 109, 40, 118]⟩ rfl (by decide) 12 12 ff_6.1 ff_6.2 (by decide) w W hg)
  have HF7 := Lib.hid (fun W (hg : G9 w W) => fails_c f_7 ⟨#[115, 101, 108, 101, 99, 116, 32, 115, 117, 109, 40, 41, 32, 102, 114, 111, 109]⟩ rfl (by decide) 11 12 ff_7.1 ff_7.2 (by decide) w W hg)
  have HF8 := Lib.hid (fun W (hg : G9 w W) => fails_c f_8 ⟨#[115, 101, 108, 101, 99, 116, 32, 99, 111, 117, 110, 116, 40, 42, 41, 32, 119, 105, 110, 100, 111, 119]⟩ rfl (by decide) 16 12 ff_8.1 ff_8.2 (by decide) w W hg)
  have HF9 := Lib.hid (fun W (hg : G9 w W) => fails_c f_9 ⟨#[115, 101, 108, 101, 99, 116, 32, 99, 111, 117, 110, 116, 40, 42, 41, 32, 102, 114, 111, 109, 32, 107]⟩ rfl (by decide) 21 12 ff_9.1 ff_9.2 (by decide) w W hg)
  have HF10 := Lib.hid (fun W (hg : G9 w W) => fails_c f_10 ⟨#[115, 101, 108, 101, 99, 116, 32, 99, 111, 117, 110, 116, 40, 42, 41, 32, 102, 114, 111, 109, 32, 97, 32, 119, 105, 110, 100, 111, 119]⟩ rfl (by decide) 29 12 ff_10.1 ff_10.2 (by decide) w W hg)
  have HF11 := Lib.hid (fun W (hg : G9 w W) => fails_c f_11 ⟨#[115, 101, 108, 101, 99, 116, 32, 99, 111, 117, 110, 116, 40, 42, 41, 32, 102, 114, 111, 109, 32, 97, 32, 119, 105, 110, 100, 111, 119, 32, 116, 117, 109, 98, 108, 101]⟩ rfl (by decide) 36 12 ff_11.1 ff_11.2 (by decide) w W hg)
  have HF12 := Lib.hid (fun W (hg : G9 w W) => fails_c f_12 ⟨#[115, 101, 108, 101, 99, 116, 32, 99, 111, 117, 110, 116, 40, 42, 41, 32, 102, 114, 111, 109, 32, 97, 32, 119, 105, 110, 100, 111, 119, 32, 116, 117, 109, 98, 108, 101, 32, 107]⟩ rfl (by decide) 37 12 ff_12.1 ff_12.2 (by decide) w W hg)
  have HF13 := Lib.hid (fun W (hg : G9 w W) => fails_c f_13 ⟨#[115, 101, 108, 101, 99, 116, 32, 99, 111, 117, 110, 116, 40, 42, 41, 32, 102, 114, 111, 109, 32, 97, 32, 119, 105, 110, 100, 111, 119, 32, 115, 108, 105, 100, 101, 32, 53]⟩ rfl (by decide) 37 12 ff_13.1 ff_13.2 (by decide) w W hg)
  have HF14 := Lib.hid (fun W (hg : G9 w W) => fails_c f_14 ⟨#[115, 101, 108, 101, 99, 116, 32, 99, 111, 117, 110, 116, 40, 42, 41, 32, 102, 114, 111, 109, 32, 97, 32, 119, 104, 101, 114, 101, 32, 119, 105, 110, 100, 111, 119]⟩ rfl (by decide) 29 12 ff_14.1 ff_14.2 (by decide) w W hg)
  have HF15 := Lib.hid (fun W (hg : G9 w W) => fails_c f_15 ⟨#[115, 101, 108, 101, 99, 116, 32, 99, 111, 117, 110, 116, 40, 42, 41, 32, 102, 114, 111, 109, 32, 97, 32, 117, 110, 105, 111, 110, 32, 98, 32, 106, 111, 105, 110, 32, 99, 32, 119, 105, 110, 100, 111, 119, 32, 116, 117, 109, 98, 108, 101, 32, 49]⟩ rfl (by decide) 31 12 ff_15.1 ff_15.2 (by decide) w W hg)
  have HF16 := Lib.hid (fun W (hg : G9 w W) => fails_c f_16 ⟨#[115, 101, 108, 101, 99, 116, 32, 99, 111, 117, 110, 116, 40, 42, 41, 32, 102, 114, 111, 109, 32, 97, 32, 106, 111, 105, 110, 32, 98, 32, 117, 110, 105, 111, 110, 32, 99, 32, 119, 105, 110, 100, 111, 119, 32, 116, 117, 109, 98, 108, 101, 32, 49]⟩ rfl (by decide) 30 12 ff_16.1 ff_16.2 (by decide) w W hg)
  have HF17 := Lib.hid (fun W (hg : G9 w W) => fails_c f_17 ⟨#[115, 101, 108, 101, 99, 116, 32, 99, 111, 117, 110, 116, 40, 42, 41, 32, 102, 114, 111, 109, 32, 97, 32, 119, 105, 110, 100, 111, 119, 32, 116, 117, 109, 98, 108, 101, 32, 48]⟩ rfl (by decide) 37 16 ff_17.1 ff_17.2 (by decide) w W hg)
  have HF18 := Lib.hid (fun W (hg : G9 w W) => fails_c f_18 ⟨#[115, 101, 108, 101, 99, 116, 32, 99, 111, 117, 110, 116, 40, 42, 41, 32, 102, 114, 111, 109, 32, 97, 32, 119, 105, 110, 100, 111, 119, 32, 116, 117, 109, 98, 108, 101, 32, 49, 48, 55, 51, 55, 52, 49, 56, 50, 53]⟩ rfl (by decide) 37 16 ff_18.1 ff_18.2 (by decide) w W hg)
  have HF19 := Lib.hid (fun W (hg : G9 w W) => fails_c f_19 ⟨#[115, 101, 108, 101, 99, 116, 32, 99, 111, 117, 110, 116, 40, 42, 41, 32, 102, 114, 111, 109, 32, 97, 32, 119, 105, 110, 100, 111, 119, 32, 115, 108, 105, 100, 101, 32, 53, 32, 101, 118, 101, 114, 121, 32, 54]⟩ rfl (by decide) 44 16 ff_19.1 ff_19.2 (by decide) w W hg)
  have HF20 := Lib.hid (fun W (hg : G9 w W) => fails_c f_20 ⟨#[115, 101, 108, 101, 99, 116, 32, 99, 111, 117, 110, 116, 40, 42, 41, 32, 102, 114, 111, 109, 32, 97, 32, 119, 105, 110, 100, 111, 119, 32, 115, 108, 105, 100, 101, 32, 49, 55, 32, 101, 118, 101, 114, 121, 32, 49]⟩ rfl (by decide) 45 16 ff_20.1 ff_20.2 (by decide) w W hg)
  have HF21 := Lib.hid (fun W (hg : G9 w W) => fails_c f_21 ⟨#[115, 101, 108, 101, 99, 116, 32, 99, 111, 117, 110, 116, 40, 42, 41, 32, 102, 114, 111, 109, 32, 97, 32, 119, 105, 110, 100, 111, 119, 32, 115, 108, 105, 100, 101, 32, 53, 32, 101, 118, 101, 114, 121, 32, 48]⟩ rfl (by decide) 44 16 ff_21.1 ff_21.2 (by decide) w W hg)
  have HF22 := Lib.hid (fun W (hg : G9 w W) => fails_c f_22 ⟨#[115, 101, 108, 101, 99, 116, 32, 99, 111, 117, 110, 116, 40, 42, 41, 32, 102, 114, 111, 109, 32, 97, 32, 106, 111, 105, 110, 32, 98, 32, 119, 105, 110, 100, 111, 119, 32, 115, 101, 115, 115, 105, 111, 110, 32, 53]⟩ rfl (by decide) 37 8 ff_22.1 ff_22.2 (by decide) w W hg)
  have HF23 := Lib.hid (fun W (hg : G9 w W) => fails_c f_23 ⟨#[115, 101, 108, 101, 99, 116, 32, 99, 111, 117, 110, 116, 40, 42, 41, 32, 102, 114, 111, 109, 32, 97, 32, 106, 111, 105, 110, 32, 98, 32, 119, 105, 110, 100, 111, 119, 32, 115, 108, 105, 100, 101, 32, 48]⟩ rfl (by decide) 37 8 ff_23.1 ff_23.2 (by decide) w W hg)
  have HF24 := Lib.hid (fun W (hg : G9 w W) => fails_c f_24 ⟨#[115, 101, 108, 101, 99, 116, 32, 99, 111, 117, 110, 116, 40, 42, 41, 32, 102, 114, 111, 109, 32, 97, 32, 117, 110, 105, 111, 110, 32, 98, 32, 117, 110, 105, 111, 110, 32, 97]⟩ rfl (by decide) 37 43 ff_24.1 ff_24.2 (by decide) w W hg)
  have HF25 := Lib.hid (fun W (hg : G9 w W) => fails_c f_25 ⟨#[115, 101, 108, 101, 99, 116, 32, 99, 111, 117, 110, 116, 40, 42, 41, 32, 102, 114, 111, 109, 32, 97, 32, 119, 105, 110, 100, 111, 119, 32, 116, 117, 109, 98, 108, 101, 32, 53, 32, 53]⟩ rfl (by decide) 39 38 ff_25.1 ff_25.2 (by decide) w W hg)
  have HF26 := Lib.hid (fun W (hg : G9 w W) => fails_c f_26 ⟨#[115, 101, 108, 101, 99, 116, 32, 99, 111, 117, 110, 116, 40, 42, 41, 32, 102, 114, 111, 109, 32, 97, 32, 119, 105, 110, 100, 111, 119, 32, 116, 117, 109, 98, 108, 101, 32, 53, 32, 98, 121]⟩ rfl (by decide) 41 12 ff_26.1 ff_26.2 (by decide) w W hg)
  have HF27 := Lib.hid (fun W (hg : G9 w W) => fails_c f_27 ⟨#[115, 101, 108, 101, 99, 116, 32, 99, 111, 117, 110, 116, 40, 42, 41, 32, 102, 114, 111, 109, 32, 97, 32, 119, 105, 110, 100, 111, 119, 32, 116, 117, 109, 98, 108, 101, 32, 53, 32, 108, 97, 116, 101]⟩ rfl (by decide) 43 12 ff_27.1 ff_27.2 (by decide) w W hg)
  have HF28 := Lib.hid (fun W (hg : G9 w W) => fails_c f_28 ⟨#[115, 101, 108, 101, 99, 116, 32, 99, 111, 117, 110, 116, 40, 42, 41, 32, 102, 114, 111, 109, 32, 97, 32, 119, 105, 110, 100, 111, 119, 32, 116, 117, 109, 98, 108, 101, 32, 53, 32, 108, 97, 116, 101, 32, 115, 105, 100, 101, 32, 108, 97, 116, 101, 32, 100, 114, 111, 112]⟩ rfl (by decide) 49 38 ff_28.1 ff_28.2 (by decide) w W hg)
  have HF29 := Lib.hid (fun W (hg : G9 w W) => fails_c f_29 ⟨#[115, 101, 108, 101, 99, 116, 32, 99, 111, 117, 110, 116, 40, 42, 41, 32, 102, 114, 111, 109, 32, 97, 32, 119, 105, 110, 100, 111, 119, 32, 116, 117, 109, 98, 108, 101, 32, 53, 32, 108, 97, 116, 101, 32, 100, 114, 111, 112, 32, 98, 121, 32, 107, 101, 121]⟩ rfl (by decide) 49 38 ff_29.1 ff_29.2 (by decide) w W hg)
  have HL0 := Lib.hid (N4.lies_vals w w.heap.size rfl #[.string ⟨#[115, 101, 108, 101, 99, 116, 32, 99, 111, 117, 110, 116, 40, 42, 41, 32, 102, 114, 111, 109, 32, 98, 32, 119, 105, 110, 100, 111, 119, 32, 116, 117, 109, 98, 108, 101, 32, 49]⟩, .string ⟨#[115, 101, 108, 101, 99, 116, 32, 109, 97, 120, 40, 116, 41, 32, 102, 114, 111, 109, 32, 100, 32, 119, 105, 110, 100, 111, 119, 32, 115, 101, 115, 115, 105, 111, 110, 32, 49, 48, 55, 51, 55, 52, 49, 56, 50, 52, 32, 108, 97, 116, 101, 32, 100, 114, 111, 112]⟩, .string ⟨#[115, 101, 108, 101, 99, 116, 32, 109, 105, 110, 40, 45, 107, 41, 32, 102, 114, 111, 109, 32, 97, 32, 106, 111, 105, 110, 32, 100, 32, 119, 105, 110, 100, 111, 119, 32, 116, 117, 109, 98, 108, 101, 32, 57, 32, 98, 121, 32, 107, 101, 121]⟩, .string ⟨#[115, 101, 108, 101, 99, 116, 32, 99, 111, 117, 110, 116, 32, 40, 32, 42, 32, 41, 32, 102, 114, 111, 109, 32, 100, 32, 117, 110, 105, 111, 110, 32, 99, 32, 117, 110, 105, 111, 110, 32, 98, 32, 117, 110, 105, 111, 110, 32, 97, 32, 119, 105, 110, 100, 111, 119, 32, 115, 108, 105, 100, 101, 32, 49, 54, 32, 101, 118, 101, 114, 121, 32, 49]⟩] 9 (strC [n_0, n_1, n_2, n_3]) rfl)
  have HQ2 := Lib.hid nn_q
  clear hT hg
  go_enter Tryd.func3, Tryd.ntmps3
  go_wp2
  go_loopw [2] (fun i wr => ∃ k : Nat, k ≤ 4 ∧ i = .int .i64 k ∧ Hid (G9 w wr) ∧ Hid (Lies wr (some ⟨w.heap.size, 0, none⟩) (strC [n_0, n_1, n_2, n_3]))) (fun i _ => 4 - (intOf i).toNat)
  case atStart => exact ⟨0, Nat.zero_le _, rfl, Lib.hid (HG0.out.step ((Below.refl _ _).alloc (Nat.le_refl _) _)), HL0⟩
  case round =>
    clear HG0 HL0
    obtain ⟨k, hk, rfl, HG, HL⟩ := hrel
    have HLB := Lib.hid (fun W (hb : Below wr.heap.size wr W) => HL.out.below hb)
    by_cases hlt : k < 4
    · have hc : k = 0 ∨ k = 1 ∨ k = 2 ∨ k = 3 := by omega
      clear hlt hk
      rcases hc with rfl | rfl | rfl | rfl
      · have z0 : w.heap.size < wr.heap.size := lies_lt HL.out (by simp [strC]) _ rfl
        have c0 : wr.cell? ⟨w.heap.size, 0, none⟩ = some (.string ⟨#[115, 101, 108, 101, 99, 116, 32, 99, 111, 117, 110, 116, 40, 42, 41, 32, 102, 114, 111, 109, 32, 98, 32, 119, 105, 110, 100, 111, 119, 32, 116, 117, 109, 98, 108, 101, 32, 49]⟩) := by
          obtain ⟨ad, hA, _, c0⟩ := HL.out.one (k := 0) (u := .string ⟨#[115, 101, 108, 101, 99, 116, 32, 99, 111, 117, 110, 116, 40, 42, 41, 32, 102, 114, 111, 109, 32, 98, 32, 119, 105, 110, 100, 111, 119, 32, 116, 117, 109, 98, 108, 101, 32, 49]⟩) rfl
          injection hA with hA
          subst hA
          rw [← c0]; congr 1
        generalize hq : (parF n_0).1 = q at HP0 HC0
        clear hq
        go_wp2_with (first
          | (go_at_call 6
             refine (HP0.out _ HG.out).mono ?_
             rintro e w2 ⟨v, rfl, hq, hb⟩
             obtain ⟨A1, c1, S1, d1, B1, e1, rfl, hqa, hsl⟩ := hq
             have HG2 := Lib.hid (HG.out.step hb)
             have HL2 := Lib.hid (HLB.out _ hb)
             have HQ := Lib.hid (show QV w2 q (.agg #[.int .u8 q.g, .slice A1 q.L.length c1, .slice S1 q.l.length d1, .bool q.j, .slice B1 q.M.length e1, .int .u8 q.k, .int .i64 q.s, .int .i64 q.v, .bool q.y, .int .u8 q.t]) from ⟨A1, c1, S1, d1, B1, e1, rfl, hqa, hsl⟩)
             have z2 : w.heap.size < w2.heap.size := lies_lt HL2.out (by simp [strC]) _ rfl
             have c2 : w2.cell? ⟨w.heap.size, 0, none⟩ = some (.string ⟨#[115, 101, 108, 101, 99, 116, 32, 99, 111, 117, 110, 116, 40, 42, 41, 32, 102, 114, 111, 109, 32, 98, 32, 119, 105, 110, 100, 111, 119, 32, 116, 117, 109, 98, 108, 101, 32, 49]⟩) := by
               obtain ⟨ad, hA, _, c0⟩ := HL2.out.one (k := 0) (u := .string ⟨#[115, 101, 108, 101, 99, 116, 32, 99, 111, 117, 110, 116, 40, 42, 41, 32, 102, 114, 111, 109, 32, 98, 32, 119, 105, 110, 100, 111, 119, 32, 116, 117, 109, 98, 108, 101, 32, 49]⟩) rfl
               injection hA with hA
               subst hA
               rw [← c0]; congr 1
             clear hb hqa hsl)
          | (go_at_call 7
             refine (HC0.out _ _ (HQ.out.step ((Below.refl _ _).alloc (Nat.le_refl _) _))).mono ?_
             rintro e w3 ⟨rfl, hb⟩
             have HB3 := Lib.hid (((Below.refl w2.heap.size w2).alloc (Nat.le_refl _) _).trans (hb.mono (by simp)))
             clear hb))
        go_roundw
        case rel => exact ⟨1, by omega, by go_num, HG2.out.step HB3.out, HL2.out.below HB3.out⟩
        case measure => simp [intOf]
      · have z0 : w.heap.size < wr.heap.size := lies_lt HL.out (by simp [strC]) _ rfl
        have c0 : wr.cell? ⟨w.heap.size, 1, none⟩ = some (.string ⟨#[115, 101, 108, 101, 99, 116, 32, 109, 97, 120, 40, 116, 41, 32, 102, 114, 111, 109, 32, 100, 32, 119, 105, 110, 100, 111, 119, 32, 115, 101, 115, 115, 105, 111, 110, 32, 49, 48, 55, 51, 55, 52, 49, 56, 50, 52, 32, 108, 97, 116, 101, 32, 100, 114, 111, 112]⟩) := by
          obtain ⟨ad, hA, _, c0⟩ := HL.out.one (k := 1) (u := .string ⟨#[115, 101, 108, 101, 99, 116, 32, 109, 97, 120, 40, 116, 41, 32, 102, 114, 111, 109, 32, 100, 32, 119, 105, 110, 100, 111, 119, 32, 115, 101, 115, 115, 105, 111, 110, 32, 49, 48, 55, 51, 55, 52, 49, 56, 50, 52, 32, 108, 97, 116, 101, 32, 100, 114, 111, 112]⟩) rfl
          injection hA with hA
          subst hA
          rw [← c0]; congr 1
        generalize hq : (parF n_1).1 = q at HP1 HC1
        clear hq
        go_wp2_with (first
          | (go_at_call 6
             refine (HP1.out _ HG.out).mono ?_
             rintro e w2 ⟨v, rfl, hq, hb⟩
             obtain ⟨A1, c1, S1, d1, B1, e1, rfl, hqa, hsl⟩ := hq
             have HG2 := Lib.hid (HG.out.step hb)
             have HL2 := Lib.hid (HLB.out _ hb)
             have HQ := Lib.hid (show QV w2 q (.agg #[.int .u8 q.g, .slice A1 q.L.length c1, .slice S1 q.l.length d1, .bool q.j, .slice B1 q.M.length e1, .int .u8 q.k, .int .i64 q.s, .int .i64 q.v, .bool q.y, .int .u8 q.t]) from ⟨A1, c1, S1, d1, B1, e1, rfl, hqa, hsl⟩)
             have z2 : w.heap.size < w2.heap.size := lies_lt HL2.out (by simp [strC]) _ rfl
             have c2 : w2.cell? ⟨w.heap.size, 1, none⟩ = some (.string ⟨#[115, 101, 108, 101, 99, 116, 32, 109, 97, 120, 40, 116, 41, 32, 102, 114, 111, 109, 32, 100, 32, 119, 105, 110, 100, 111, 119, 32, 115, 101, 115, 115, 105, 111, 110, 32, 49, 48, 55, 51, 55, 52, 49, 56, 50, 52, 32, 108, 97, 116, 101, 32, 100, 114, 111, 112]⟩) := by
               obtain ⟨ad, hA, _, c0⟩ := HL2.out.one (k := 1) (u := .string ⟨#[115, 101, 108, 101, 99, 116, 32, 109, 97, 120, 40, 116, 41, 32, 102, 114, 111, 109, 32, 100, 32, 119, 105, 110, 100, 111, 119, 32, 115, 101, 115, 115, 105, 111, 110, 32, 49, 48, 55, 51, 55, 52, 49, 56, 50, 52, 32, 108, 97, 116, 101, 32, 100, 114, 111, 112]⟩) rfl
               injection hA with hA
               subst hA
               rw [← c0]; congr 1
             clear hb hqa hsl)
          | (go_at_call 7
             refine (HC1.out _ _ (HQ.out.step ((Below.refl _ _).alloc (Nat.le_refl _) _))).mono ?_
             rintro e w3 ⟨rfl, hb⟩
             have HB3 := Lib.hid (((Below.refl w2.heap.size w2).alloc (Nat.le_refl _) _).trans (hb.mono (by simp)))
             clear hb))
        go_roundw
        case rel => exact ⟨2, by omega, by go_num, HG2.out.step HB3.out, HL2.out.below HB3.out⟩
        case measure => simp [intOf]
      · have z0 : w.heap.size < wr.heap.size := lies_lt HL.out (by simp [strC]) _ rfl
        have c0 : wr.cell? ⟨w.heap.size, 2, none⟩ = some (.string ⟨#[115, 101, 108, 101, 99, 116, 32, 109, 105, 110, 40, 45, 107, 41, 32, 102, 114, 111, 109, 32, 97, 32, 106, 111, 105, 110, 32, 100, 32, 119, 105, 110, 100, 111, 119, 32, 116, 117, 109, 98, 108, 101, 32, 57, 32, 98, 121, 32, 107, 101, 121]⟩) := by
          obtain ⟨ad, hA, _, c0⟩ := HL.out.one (k := 2) (u := .string ⟨#[115, 101, 108, 101, 99, 116, 32, 109, 105, 110, 40, 45, 107, 41, 32, 102, 114, 111, 109, 32, 97, 32, 106, 111, 105, 110, 32, 100, 32, 119, 105, 110, 100, 111, 119, 32, 116, 117, 109, 98, 108, 101, 32, 57, 32, 98, 121, 32, 107, 101, 121]⟩) rfl
          injection hA with hA
          subst hA
          rw [← c0]; congr 1
        generalize hq : (parF n_2).1 = q at HP2 HC2
        clear hq
        go_wp2_with (first
          | (go_at_call 6
             refine (HP2.out _ HG.out).mono ?_
             rintro e w2 ⟨v, rfl, hq, hb⟩
             obtain ⟨A1, c1, S1, d1, B1, e1, rfl, hqa, hsl⟩ := hq
             have HG2 := Lib.hid (HG.out.step hb)
             have HL2 := Lib.hid (HLB.out _ hb)
             have HQ := Lib.hid (show QV w2 q (.agg #[.int .u8 q.g, .slice A1 q.L.length c1, .slice S1 q.l.length d1, .bool q.j, .slice B1 q.M.length e1, .int .u8 q.k, .int .i64 q.s, .int .i64 q.v, .bool q.y, .int .u8 q.t]) from ⟨A1, c1, S1, d1, B1, e1, rfl, hqa, hsl⟩)
             have z2 : w.heap.size < w2.heap.size := lies_lt HL2.out (by simp [strC]) _ rfl
             have c2 : w2.cell? ⟨w.heap.size, 2, none⟩ = some (.string ⟨#[115, 101, 108, 101, 99, 116, 32, 109, 105, 110, 40, 45, 107, 41, 32, 102, 114, 111, 109, 32, 97, 32, 106, 111, 105, 110, 32, 100, 32, 119, 105, 110, 100, 111, 119, 32, 116, 117, 109, 98, 108, 101, 32, 57, 32, 98, 121, 32, 107, 101, 121]⟩) := by
               obtain ⟨ad, hA, _, c0⟩ := HL2.out.one (k := 2) (u := .string ⟨#[115, 101, 108, 101, 99, 116, 32, 109, 105, 110, 40, 45, 107, 41, 32, 102, 114, 111, 109, 32, 97, 32, 106, 111, 105, 110, 32, 100, 32, 119, 105, 110, 100, 111, 119, 32, 116, 117, 109, 98, 108, 101, 32, 57, 32, 98, 121, 32, 107, 101, 121]⟩) rfl
               injection hA with hA
               subst hA
               rw [← c0]; congr 1
             clear hb hqa hsl)
          | (go_at_call 7
             refine (HC2.out _ _ (HQ.out.step ((Below.refl _ _).alloc (Nat.le_refl _) _))).mono ?_
             rintro e w3 ⟨rfl, hb⟩
             have HB3 := Lib.hid (((Below.refl w2.heap.size w2).alloc (Nat.le_refl _) _).trans (hb.mono (by simp)))
             clear hb))
        go_roundw
        case rel => exact ⟨3, by omega, by go_num, HG2.out.step HB3.out, HL2.out.below HB3.out⟩
        case measure => simp [intOf]
      · have z0 : w.heap.size < wr.heap.size := lies_lt HL.out (by simp [strC]) _ rfl
        have c0 : wr.cell? ⟨w.heap.size, 3, none⟩ = some (.string ⟨#[115, 101, 108, 101, 99, 116, 32, 99, 111, 117, 110, 116, 32, 40, 32, 42, 32, 41, 32, 102, 114, 111, 109, 32, 100, 32, 117, 110, 105, 111, 110, 32, 99, 32, 117, 110, 105, 111, 110, 32, 98, 32, 117, 110, 105, 111, 110, 32, 97, 32, 119, 105, 110, 100, 111, 119, 32, 115, 108, 105, 100, 101, 32, 49, 54, 32, 101, 118, 101, 114, 121, 32, 49]⟩) := by
          obtain ⟨ad, hA, _, c0⟩ := HL.out.one (k := 3) (u := .string ⟨#[115, 101, 108, 101, 99, 116, 32, 99, 111, 117, 110, 116, 32, 40, 32, 42, 32, 41, 32, 102, 114, 111, 109, 32, 100, 32, 117, 110, 105, 111, 110, 32, 99, 32, 117, 110, 105, 111, 110, 32, 98, 32, 117, 110, 105, 111, 110, 32, 97, 32, 119, 105, 110, 100, 111, 119, 32, 115, 108, 105, 100, 101, 32, 49, 54, 32, 101, 118, 101, 114, 121, 32, 49]⟩) rfl
          injection hA with hA
          subst hA
          rw [← c0]; congr 1
        generalize hq : (parF n_3).1 = q at HP3 HC3
        clear hq
        go_wp2_with (first
          | (go_at_call 6
             refine (HP3.out _ HG.out).mono ?_
             rintro e w2 ⟨v, rfl, hq, hb⟩
             obtain ⟨A1, c1, S1, d1, B1, e1, rfl, hqa, hsl⟩ := hq
             have HG2 := Lib.hid (HG.out.step hb)
             have HL2 := Lib.hid (HLB.out _ hb)
             have HQ := Lib.hid (show QV w2 q (.agg #[.int .u8 q.g, .slice A1 q.L.length c1, .slice S1 q.l.length d1, .bool q.j, .slice B1 q.M.length e1, .int .u8 q.k, .int .i64 q.s, .int .i64 q.v, .bool q.y, .int .u8 q.t]) from ⟨A1, c1, S1, d1, B1, e1, rfl, hqa, hsl⟩)
             have z2 : w.heap.size < w2.heap.size := lies_lt HL2.out (by simp [strC]) _ rfl
             have c2 : w2.cell? ⟨w.heap.size, 3, none⟩ = some (.string ⟨#[115, 101, 108, 101, 99, 116, 32, 99, 111, 117, 110, 116, 32, 40, 32, 42, 32, 41, 32, 102, 114, 111, 109, 32, 100, 32, 117, 110, 105, 111, 110, 32, 99, 32, 117, 110, 105, 111, 110, 32, 98, 32, 117, 110, 105, 111, 110, 32, 97, 32, 119, 105, 110, 100, 111, 119, 32, 115, 108, 105, 100, 101, 32, 49, 54, 32, 101, 118, 101, 114, 121, 32, 49]⟩) := by
               obtain ⟨ad, hA, _, c0⟩ := HL2.out.one (k := 3) (u := .string ⟨#[115, 101, 108, 101, 99, 116, 32, 99, 111, 117, 110, 116, 32, 40, 32, 42, 32, 41, 32, 102, 114, 111, 109, 32, 100, 32, 117, 110, 105, 111, 110, 32, 99, 32, 117, 110, 105, 111, 110, 32, 98, 32, 117, 110, 105, 111, 110, 32, 97, 32, 119, 105, 110, 100, 111, 119, 32, 115, 108, 105, 100, 101, 32, 49, 54, 32, 101, 118, 101, 114, 121, 32, 49]⟩) rfl
               injection hA with hA
               subst hA
               rw [← c0]; congr 1
             clear hb hqa hsl)
          | (go_at_call 7
             refine (HC3.out _ _ (HQ.out.step ((Below.refl _ _).alloc (Nat.le_refl _) _))).mono ?_
             rintro e w3 ⟨rfl, hb⟩
             have HB3 := Lib.hid (((Below.refl w2.heap.size w2).alloc (Nat.le_refl _) _).trans (hb.mono (by simp)))
             clear hb))
        go_roundw
        case rel => exact ⟨4, by omega, by go_num, HG2.out.step HB3.out, HL2.out.below HB3.out⟩
        case measure => simp [intOf]
    · obtain rfl : 4 = k := by omega
      have z0 : w.heap.size < wr.heap.size := lies_lt HL.out (by simp [strC]) _ rfl
      have c0 : wr.cell? ⟨w.heap.size, 2, none⟩ = some (.string ⟨#[115, 101, 108, 101, 99, 116, 32, 109, 105, 110, 40, 45, 107, 41, 32, 102, 114, 111, 109, 32, 97, 32, 106, 111, 105, 110, 32, 100, 32, 119, 105, 110, 100, 111, 119, 32, 116, 117, 109, 98, 108, 101, 32, 57, 32, 98, 121, 32, 107, 101, 121]⟩) := by
        obtain ⟨ad, hA, _, c0⟩ := HL.out.one (k := 2) (u := .string ⟨#[115, 101, 108, 101, 99, 116, 32, 109, 105, 110, 40, 45, 107, 41, 32, 102, 114, 111, 109, 32, 97, 32, 106, 111, 105, 110, 32, 100, 32, 119, 105, 110, 100, 111, 119, 32, 116, 117, 109, 98, 108, 101, 32, 57, 32, 98, 121, 32, 107, 101, 121]⟩) rfl
        injection hA with hA
        subst hA
        rw [← c0]; congr 1
      obtain ⟨q1, q2, q3, q4, q5⟩ := HQ2.out
      generalize hq : (parF n_2).1 = q at HP2 q1 q2 q3 q4 q5
      have HQ5 := Lib.hid (And.intro q1 (And.intro q2 (And.intro q3 (And.intro q4 q5))))
      clear hq HP0 HP1 HP3 HC0 HC1 HC2 HC3 HQ2 hlt hk HLB q1 q2 q3 q4 q5
      go_wp2_with (first
        | (go_at_call 6
           refine (HP2.out _ HG.out).mono ?_
           rintro e w2 ⟨v, rfl, hq, hb⟩
           obtain ⟨A1, c1, S1, d1, B1, e1, rfl, hqa, hsl⟩ := hq
           have HG2 := Lib.hid (HG.out.step hb)
           have HQA := Lib.hid hqa.2.1.1
           obtain ⟨q1, q2, q3, q4, q5⟩ := HQ5.out
           have q6 : q.l.length = 2 := by rw [q2]; rfl
           simp only [q1, q3, q4, q5, q6]
           rw [q2] at HQA
           clear hb hqa hsl q1 q2 q3 q4 q5 q6)
        | (go_at_call 8
           refine (samesrc_any S1 (some ⟨w2.heap.size + 1, 0, none⟩) 2 2 d1 2 [0, 3] [0, 3] _ rfl rfl (by decide) (by decide) (HQA.out.below (bal (bal (Below.refl _ _) (Nat.le_refl _) _) (by simp) _)) (al_lies (by simp) rfl (Below.refl _ _)) true (by decide)).mono ?_
           rintro e w3 ⟨rfl, hb⟩
           have HG3 := Lib.hid ((HG2.out.step (bal (bal (Below.refl _ _) (Nat.le_refl _) _) (by simp) _)).step hb)
           have c9 : w3.cell? ⟨w2.heap.size, 9, none⟩ = some (.int .u8 1) := by
             rw [hb.cell (p := ⟨w2.heap.size, 9, none⟩) (by simp <;> omega)]; go_simp
           have z3 : w2.heap.size < w3.heap.size := Nat.lt_of_lt_of_le (by simp <;> omega) hb.size
           clear hb)
        | (go_at_call 9; ((with_reducible refine (HF0.out _ HG3.out).mono ?_); rintro e w4 ⟨rfl, hg⟩; have HG4 := Lib.hid hg; clear hg HF0 HG3))
        | (go_at_call 9; ((with_reducible refine (HF1.out _ HG4.out).mono ?_); rintro e w5 ⟨rfl, hg⟩; have HG5 := Lib.hid hg; clear hg HF1 HG4))
        | (go_at_call 9; ((with_reducible refine (HF2.out _ HG5.out).mono ?_); rintro e w6 ⟨rfl, hg⟩; have HG6 := Lib.hid hg; clear hg HF2 HG5))
        | (go_at_call 9; ((with_reducible refine (HF3.out _ HG6.out).mono ?_); rintro e w7 ⟨rfl, hg⟩; have HG7 := Lib.hid hg; clear hg HF3 HG6))
        | (go_at_call 9; ((with_reducible refine (HF4.out _ HG7.out).mono ?_); rintro e w8 ⟨rfl, hg⟩; have HG8 := Lib.hid hg; clear hg HF4 HG7))
        | (go_at_call 9; ((with_reducible refine (HF5.out _ HG8.out).mono ?_); rintro e w9 ⟨rfl, hg⟩; have HG9 := Lib.hid hg; clear hg HF5 HG8))
        | (go_at_call 9; ((with_reducible refine (HF6.out _ HG9.out).mono ?_); rintro e w10 ⟨rfl, hg⟩; have HG10 := Lib.hid hg; clear hg HF6 HG9))
        | (go_at_call 9; ((with_reducible refine (HF7.out _ HG10.out).mono ?_); rintro e w11 ⟨rfl, hg⟩; have HG11 := Lib.hid hg; clear hg HF7 HG10))
        | (go_at_call 9; ((with_reducible refine (HF8.out _ HG11.out).mono ?_); rintro e w12 ⟨rfl, hg⟩; have HG12 := Lib.hid hg; clear hg HF8 HG11))
        | (go_at_call 9; ((with_reducible refine (HF9.out _ HG12.out).mono ?_); rintro e w13 ⟨rfl, hg⟩; have HG13 := Lib.hid hg; clear hg HF9 HG12))
        | (go_at_call 9; ((with_reducible refine (HF10.out _ HG13.out).mono ?_); rintro e w14 ⟨rfl, hg⟩; have HG14 := Lib.hid hg; clear hg HF10 HG13))
        | (go_at_call 9; ((with_reducible refine (HF11.out _ HG14.out).mono ?_); rintro e w15 ⟨rfl, hg⟩; have HG15 := Lib.hid hg; clear hg HF11 HG14))
        | (go_at_call 9; ((with_reducible refine (HF12.out _ HG15.out).mono ?_); rintro e w16 ⟨rfl, hg⟩; have HG16 := Lib.hid hg; clear hg HF12 HG15))
        | (go_at_call 9; ((with_reducible refine (HF13.out _ HG16.out).mono ?_); rintro e w17 ⟨rfl, hg⟩; have HG17 := Lib.hid hg; clear hg HF13 HG16))
        | (go_at_call 9; ((with_reducible refine (HF14.out _ HG17.out).mono ?_); rintro e w18 ⟨rfl, hg⟩; have HG18 := Lib.hid hg; clear hg HF14 HG17))
        | (go_at_call 9; ((with_reducible refine (HF15.out _ HG18.out).mono ?_); rintro e w19 ⟨rfl, hg⟩; have HG19 := Lib.hid hg; clear hg HF15 HG18))
        | (go_at_call 9; ((with_reducible refine (HF16.out _ HG19.out).mono ?_); rintro e w20 ⟨rfl, hg⟩; have HG20 := Lib.hid hg; clear hg HF16 HG19))
        | (go_at_call 9; ((with_reducible refine (HF17.out _ HG20.out).mono ?_); rintro e w21 ⟨rfl, hg⟩; have HG21 := Lib.hid hg; clear hg HF17 HG20))
        | (go_at_call 9; ((with_reducible refine (HF18.out _ HG21.out).mono ?_); rintro e w22 ⟨rfl, hg⟩; have HG22 := Lib.hid hg; clear hg HF18 HG21))
        | (go_at_call 9; ((with_reducible refine (HF19.out _ HG22.out).mono ?_); rintro e w23 ⟨rfl, hg⟩; have HG23 := Lib.hid hg; clear hg HF19 HG22))
        | (go_at_call 9; ((with_reducible refine (HF20.out _ HG23.out).mono ?_); rintro e w24 ⟨rfl, hg⟩; have HG24 := Lib.hid hg; clear hg HF20 HG23))
        | (go_at_call 9; ((with_reducible refine (HF21.out _ HG24.out).mono ?_); rintro e w25 ⟨rfl, hg⟩; have HG25 := Lib.hid hg; clear hg HF21 HG24))
        | (go_at_call 9; ((with_reducible refine (HF22.out _ HG25.out).mono ?_); rintro e w26 ⟨rfl, hg⟩; have HG26 := Lib.hid hg; clear hg HF22 HG25))
        | (go_at_call 9; ((with_reducible refine (HF23.out _ HG26.out).mono ?_); rintro e w27 ⟨rfl, hg⟩; have HG27 := Lib.hid hg; clear hg HF23 HG26))
        | (go_at_call 9; ((with_reducible refine (HF24.out _ HG27.out).mono ?_); rintro e w28 ⟨rfl, hg⟩; have HG28 := Lib.hid hg; clear hg HF24 HG27))
        | (go_at_call 9; ((with_reducible refine (HF25.out _ HG28.out).mono ?_); rintro e w29 ⟨rfl, hg⟩; have HG29 := Lib.hid hg; clear hg HF25 HG28))
        | (go_at_call 9; ((with_reducible refine (HF26.out _ HG29.out).mono ?_); rintro e w30 ⟨rfl, hg⟩; have HG30 := Lib.hid hg; clear hg HF26 HG29))
        | (go_at_call 9; ((with_reducible refine (HF27.out _ HG30.out).mono ?_); rintro e w31 ⟨rfl, hg⟩; have HG31 := Lib.hid hg; clear hg HF27 HG30))
        | (go_at_call 9; ((with_reducible refine (HF28.out _ HG31.out).mono ?_); rintro e w32 ⟨rfl, hg⟩; have HG32 := Lib.hid hg; clear hg HF28 HG31))
        | (go_at_call 9; ((with_reducible refine (HF29.out _ HG32.out).mono ?_); rintro e w33 ⟨rfl, hg⟩; have HG33 := Lib.hid hg; clear hg HF29 HG32))
        | (go_at_call 10; refine (HAL.out _ HG33.out).mono ?_; rintro e w34 ⟨rfl, hg⟩; have HGZ := Lib.hid hg; clear hg))
      go_ret
      exact ⟨rfl, HGZ.out.1⟩
end Go.Proofs.YtlmamidodahgmaaDoor.P9
