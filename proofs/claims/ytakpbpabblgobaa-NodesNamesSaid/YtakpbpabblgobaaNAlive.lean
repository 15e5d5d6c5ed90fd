/- The chapter's example, and that it holds. -/
import Derived.Test.YtakpbpabblgobaaNCut
namespace Go.Proofs.Ytakpbpabblgobaa
open Go.ChangeShapes Go.WideShapes Go.ChangeAt Go.RowKit
set_option linter.unusedVariables false
set_option linter.unusedSimpArgs false

theorem lies_lit (w : World) (B : Nat) (hB : w.heap.size = B) (cs : Array Value) (t : TypeId) : Lies (w.alloc (.cells cs t)) (some ⟨B, 0, none⟩) cs.toList := by
  subst hB
  refine .inr ⟨_, rfl, by simp, fun j z hz => ?_⟩
  exact World.news_of_block (w := w.alloc (.cells cs t)) (B := w.heap.size) (cs := cs) (t := t) (fr := (0, 0)) (heap_alloc_new w _) j z hz
def exL : List Nd := [⟨4, 0, 0, 0, 0⟩, ⟨1, 2, 0, 0, 0⟩, ⟨2, 0, 0, 0, 0⟩, ⟨7, 0, 1, 2, 0⟩, ⟨8, 0, 0, 3, 0⟩]
def exP : List Nd := [⟨1, 2, 0, 0, 0⟩, ⟨2, 0, 0, 0, 0⟩, ⟨7, 0, 0, 1, 0⟩]
theorem exL_check : checkF exL = 0 := by decide
theorem exL_depth : depF exL = 3 := by decide
theorem exL_size : sizF exL 3 = 3 := by decide
theorem exL_cut : cutF exL 3 = exP := by decide
def XPost (w : World) (M : List Nd) (n : Nat) (e : Ending) (w' : World) : Prop := ∃ ad, e = .returned (.slice (some ad) n n) ∧ Lies w' (some ad) (ndCells M) ∧ Below w.heap.size w w'
theorem example_any (w : World) : Calls Try.prog 13 #[] w (XPost w exL 5) := by
  go_enter Try.func13, Try.ntmps13
  go_wp2
  go_ret
  exact ⟨⟨w.heap.size, 0, none⟩, rfl, lies_lit w _ rfl _ _, (Below.refl _ _).alloc (Nat.le_refl _) _⟩
set_option maxHeartbeats 1000000 in
theorem alive_any (w : World) : Calls Try.prog 17 #[] w fun e w' => e = .returned (.bool true) ∧ Below w.heap.size w w' := by
  have HX := Lib.hid example_any
  have HD := Lib.hid (fun A c w (ht : Lies w A (ndCells exL)) => depth_ok A c 5 exL w ht exL_check rfl 3 exL_depth)
  have HP := Lib.hid (fun A c w (hc : 5 ≤ c) (ht : Lies w A (ndCells exL)) => show Calls Try.prog 11 #[.slice A 5 c, .int .i64 3] w (POk w (cutF exL 3) 3) from part_ok A c 5 exL 3 3 w ht exL_check rfl hc (by decide) exL_size)
  have HE := Lib.hid (fun A A' c c' w (h1 : Lies w A (ndCells (cutF exL 3))) (h2 : Lies w A' (ndCells exP)) => requal_any A A' 3 3 c c' (cutF exL 3) exP w (by rw [exL_cut]; rfl) rfl (by decide) (by decide) h1 h2 true (by rw [exL_cut]; decide))
  go_enter Try.func17, Try.ntmps17
  go_wp2_with (first
    | (go_at_call 13; have HBx := HB2.out; refine (HX.out _).mono ?_; rintro e w3 ⟨ad3, rfl, hl3, hb3⟩; clear HBx)
    | (go_at_call 13; refine (HX.out _).mono ?_; rintro e w1 ⟨ad1, rfl, hl1, hb1⟩)
    | (go_at_call 9; refine (HD.out _ _ _ hl1).mono ?_; rintro e w2 ⟨rfl, hb2⟩; have HB2 := Lib.hid (hb1.trans (hb2.mono hb1.size)); clear hl1 hb1 hb2)
    | (go_at_call 11; refine (HP.out _ _ _ (Nat.le_refl _) hl3).mono ?_; rintro e w4 ⟨ad4, rfl, hl4, hb4⟩; have HB4 := Lib.hid ((HB2.out.trans (hb3.mono HB2.out.size)).trans (hb4.mono (Nat.le_trans HB2.out.size hb3.size))); have HL4 := Lib.hid hl4; clear hl3 hb3 hb4 hl4)
    | (go_at_call 24; refine (HE.out _ _ _ _ _ (HL4.out.alloc _) (lies_lit w4 _ rfl _ _)).mono ?_; rintro e w5 ⟨rfl, hb5⟩))
  go_ret
  exact ⟨rfl, (HB4.out.alloc HB4.out.size _).trans (hb5.mono (by have := HB4.out.size; simp; omega))⟩
end Go.Proofs.Ytakpbpabblgobaa
