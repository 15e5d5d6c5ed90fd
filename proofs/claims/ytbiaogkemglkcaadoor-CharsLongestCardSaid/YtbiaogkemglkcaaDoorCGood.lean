/- The laws' helper alive; CharsTells and CharsPlace. -/
import Derived.Test.YtbiaogkemglkcaaDoorCRef2
namespace Go.Proofs.YtbiaogkemglkcaaDoor
open Go.ChangeShapes Go.WideShapes Go.ChangeAt Go.RowKit
set_option linter.unusedVariables false

/-- The tables stand, and nothing that was there at w0 has turned. -/
def Good (w0 w : World) : Prop := Below w0.heap.size w0 w ∧ Tabs w
theorem Good.start {w : World} (h : Tabs w) : Good w w := ⟨Below.refl _ _, h⟩
theorem Good.step {w0 w w' : World} (h : Good w0 w) (hb : Below w.heap.size w w') : Good w0 w' := ⟨h.1.trans (hb.mono h.1.size), h.2.stays hb⟩
theorem below_drewN (w : World) (n : Nat) : Below w.heap.size w (w.drewN n) := Below.drewN' (Below.refl _ _) n

theorem kind_g (c v : Int) (w0 w : World) (hv : kindI c = v) (h : Good w0 w) :
    Calls Tryd.prog 16 #[.int .u8 c] w fun e w' => e = .returned (.int .u8 v) ∧ Below w.heap.size w w' ∧ Good w0 w' :=
  (kind_any c w).mono fun e w' ⟨he, hb⟩ => by subst hv; exact ⟨he, hb, h.step hb⟩
theorem word_g (s : ByteArray) (b : Bool) (w0 w : World) (hb : isWord s.data.toList = b) (h : Good w0 w) :
    Calls Tryd.prog 12 #[.string s] w fun e w' => e = .returned (.bool b) ∧ w = w' := by
  have := word_any s w h.2
  rwa [hb] at this
theorem length_g (s : ByteArray) (a : Nat) (n : Nat) (w0 w : World) (hs : s.size ≤ maxLen) (ha : a ≤ s.size) (hn : longL (s.data.toList.drop a) = n) (h : Good w0 w) :
    Calls Tryd.prog 10 #[.string s, .int .i64 a] w fun e w' => e = .returned (.int .i64 n) ∧ Below w.heap.size w w' ∧ Good w0 w' :=
  (length_in s a w hs h.2 ha).mono fun e w' ⟨he, m, hw⟩ => by subst hn; subst hw; exact ⟨he, below_drewN _ _, h.step (below_drewN _ _)⟩

theorem length_0 (s : ByteArray) (n : Nat) (w0 w : World) (hs : s.size ≤ maxLen) (hn : longL s.data.toList = n) (h : Good w0 w) :
    Calls Tryd.prog 10 #[.string s, .int .i64 0] w fun e w' => e = .returned (.int .i64 n) ∧ Below w.heap.size w w' ∧ Good w0 w' :=
  length_g s 0 n w0 w hs (by omega) (by rw [List.drop_zero, hn]) h
theorem alive_1 (w0 w : World) (h : Good w0 w) : Calls Tryd.prog 10 #[.string ⟨#[97, 60, 61, 98]⟩, .int .i64 1] w fun e w' => e = .returned (.int .i64 2) ∧ Below w.heap.size w w' ∧ Good w0 w' :=
  length_g _ 1 2 w0 w (by decide) (by decide) (by decide) h
theorem alive_2 (w0 w : World) (h : Good w0 w) : Calls Tryd.prog 10 #[.string ⟨#[61, 60]⟩, .int .i64 0] w fun e w' => e = .returned (.int .i64 1) ∧ Below w.heap.size w w' ∧ Good w0 w' :=
  length_g _ 0 1 w0 w (by decide) (by decide) (by decide) h
theorem alive_3 (w0 w : World) (h : Good w0 w) : Calls Tryd.prog 10 #[.string ⟨#[33, 97]⟩, .int .i64 0] w fun e w' => e = .returned (.int .i64 0) ∧ Below w.heap.size w w' ∧ Good w0 w' :=
  length_g _ 0 0 w0 w (by decide) (by decide) (by decide) h
theorem alive_4 (w0 w : World) (h : Good w0 w) : Calls Tryd.prog 12 #[.string ⟨#[119, 105, 110, 100, 111, 119]⟩] w fun e w' => e = .returned (.bool true) ∧ w = w' :=
  word_g _ _ w0 w (by decide) h
theorem alive_5 (w0 w : World) (h : Good w0 w) : Calls Tryd.prog 12 #[.string ⟨#[119, 105, 110, 100, 111, 119, 115]⟩] w fun e w' => e = .returned (.bool false) ∧ w = w' :=
  word_g _ _ w0 w (by decide) h
theorem alive_6 (w0 w : World) (h : Good w0 w) : Calls Tryd.prog 16 #[.int .u8 60] w fun e w' => e = .returned (.int .u8 4) ∧ Below w.heap.size w w' ∧ Good w0 w' :=
  kind_g 60 4 w0 w (by decide) h
theorem alive_7 (w0 w : World) (h : Good w0 w) : Calls Tryd.prog 16 #[.int .u8 65] w fun e w' => e = .returned (.int .u8 0) ∧ Below w.heap.size w w' ∧ Good w0 w' :=
  kind_g 65 0 w0 w (by decide) h

theorem alive_g (w0 w : World) (h : Good w0 w) : Calls Tryd.prog 14 #[] w fun e w' => e = .returned (.bool true) ∧ Below w.heap.size w w' ∧ Good w0 w' := by
  have H := Good.start h.2
  suffices hh : Calls Tryd.prog 14 #[] w fun e w' => e = .returned (.bool true) ∧ Good w w' from hh.mono fun e w' ⟨he, hg⟩ => ⟨he, hg.1, h.step hg.1⟩
  clear h
  go_enter Tryd.func14, Tryd.ntmps14
  go_wp2_with (first
    | (go_at_call 16; ((first | (with_reducible refine (alive_6 w _ (by assumption)).mono ?_) | (with_reducible refine (alive_7 w _ (by assumption)).mono ?_)); rintro e w' ⟨rfl, _, hg⟩))
    | (go_at_call 10; ((first | (with_reducible refine (alive_1 w _ (by assumption)).mono ?_) | (with_reducible refine (alive_2 w _ (by assumption)).mono ?_) | (with_reducible refine (alive_3 w _ (by assumption)).mono ?_)); rintro e w' ⟨rfl, _, hg⟩))
    | (go_at_call 12; ((first | (with_reducible refine (alive_4 w _ (by assumption)).mono ?_) | (with_reducible refine (alive_5 w _ (by assumption)).mono ?_)); rintro e w' ⟨rfl, rfl⟩)))
  go_ret
  exact ⟨rfl, by assumption⟩
theorem rkind_g (c v : Int) (w : World) (hv : kindI c = v) : Calls Tryd.prog 17 #[.int .u8 c] w fun e w' => e = .returned (.int .u8 v) ∧ w = w' := by
  subst hv; exact rkind_any c w
theorem rword_g (s : ByteArray) (b : Bool) (w0 w : World) (hb : isWord s.data.toList = b) (h : Good w0 w) :
    Calls Tryd.prog 18 #[.string s] w fun e w' => e = .returned (.bool b) ∧ Below w.heap.size w w' ∧ Good w0 w' := by
  subst hb; exact (rword_any s w).mono fun e w' ⟨he, hb⟩ => ⟨he, hb, h.step hb⟩
end Go.Proofs.YtbiaogkemglkcaaDoor
