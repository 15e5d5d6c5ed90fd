
/- The reference's Same, Equal and Great of queries; slide, alive. -/
import Derived.Test.YtaijhkfbfkdepaaDoorQSame2
import Derived.Test.YtaijhkfbfkdepaaDoorNSizes
namespace Go.Proofs.YtaijhkfbfkdepaaDoor.Q8
open Go.ChangeShapes Go.WideShapes Go.ChangeAt Go.RowKit N4
set_option linter.unusedVariables false
set_option linter.unusedSimpArgs false
set_option maxRecDepth 100000

/-- Great. -/
def greatQ (n o m : Nat) : Bool := decide (70 < n) || (decide (70 < o) || decide (10 < m))
/-! ### the law's own -/
theorem slide_any (s v : Int) (w : World) (hs : s ≤ 9223372036854775807) (x : Int) (hx : winE 2 s v = x) : Calls Tryd.prog 7 #[.int .i64 s, .int .i64 v] w fun e w' => e = .returned (.int .i64 x) ∧ Below w.heap.size w w' := by
  have HW := Lib.hid (fun W => win_any 2 s v W hs x hx)
  clear hs hx
  go_enter Tryd.func7, Tryd.ntmps7
  go_wp2_with (go_at_call 6; ((with_reducible refine (HW.out _).mono ?_); rintro e w1 ⟨rfl, hb⟩))
  go_ret
  exact ⟨rfl, hb⟩
theorem alive_any (w : World) : Calls Tryd.prog 14 #[] w fun e w' => e = .returned (.bool true) ∧ Below w.heap.size w w' := by
  have HA := Lib.hid (fun W => slide_any 10 3 W (by decide) 0 (by decide))
  have HB := Lib.hid (fun W => slide_any 10 11 W (by decide) 8 (by decide))
  have HC := Lib.hid (fun W => slide_any 17 1 W (by decide) 8 (by decide))
  have HD := Lib.hid (fun A W ht => src_any A 2 2 [2, 0] false W rfl ht 0 (by decide))
  have HE := Lib.hid (fun A W ht => src_any A 2 2 [2, 2] false W rfl ht 43 (by decide))
  have HF := Lib.hid (fun A W ht => src_any A 1 1 [2] true W rfl ht 8 (by decide))
  have b0 := Bl.start w
  go_enter Tryd.func14, Tryd.ntmps14
  go_wp2_with (first
    | (go_at_call 7; ((with_reducible refine (HA.out _).mono ?_); rintro e w1 ⟨rfl, hb⟩; have b1 := b0.step hb; clear hb b0 HA))
    | (go_at_call 7; ((with_reducible refine (HB.out _).mono ?_); rintro e w2 ⟨rfl, hb⟩; have b2 := b1.step hb; clear hb b1 HB))
    | (go_at_call 7; ((with_reducible refine (HC.out _).mono ?_); rintro e w3 ⟨rfl, hb⟩; have b3 := b2.step hb; clear hb b2 HC))
    | (go_at_call 8; ((with_reducible refine (HD.out _ _ (lies_vals w3 _ rfl #[.int .i64 2, .int .i64 0] _ (iC [2, 0]) rfl)).mono ?_); rintro e w4 ⟨rfl, hb⟩; have b4 := (b3.al _).step hb; clear hb b3 HD))
    | (go_at_call 8; ((with_reducible refine (HE.out _ _ (lies_vals w4 _ rfl #[.int .i64 2, .int .i64 2] _ (iC [2, 2]) rfl)).mono ?_); rintro e w5 ⟨rfl, hb⟩; have b5 := (b4.al _).step hb; clear hb b4 HE))
    | (go_at_call 8; ((with_reducible refine (HF.out _ _ (lies_vals w5 _ rfl #[.int .i64 2] _ (iC [2]) rfl)).mono ?_); rintro e w6 ⟨rfl, hb⟩; have b6 := (b5.al _).step hb; clear hb b5 HF)))
  go_ret
  exact ⟨rfl, b6⟩
end Go.Proofs.YtaijhkfbfkdepaaDoor.Q8
