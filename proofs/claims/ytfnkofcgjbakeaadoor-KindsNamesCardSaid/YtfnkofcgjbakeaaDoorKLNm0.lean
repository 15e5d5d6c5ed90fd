/- KindsNames: closed facts. -/
import Derived.Test.YtfnkofcgjbakeaaDoorKAlive
namespace Go.Proofs.YtfnkofcgjbakeaaDoor.K6
open Go.ChangeShapes Go.WideShapes Go.ChangeAt Go.RowKit N4
set_option linter.unusedVariables false
set_option linter.unusedSimpArgs false
set_option maxRecDepth 100000

theorem nm_ff_num {kk : Int} (h : 7 ≤ kk) (h2 : kk ≤ 11) : ofF (made2 kk 0 0 vL vL) = (false, 2, 0) := by
  rcases (by omega : kk = 7 ∨ kk = 8 ∨ kk = 9 ∨ kk = 10 ∨ kk = 11) with rfl | rfl | rfl | rfl | rfl <;> decide +kernel
theorem nm_ff_cmp {kk : Int} (h : 12 ≤ kk) (h2 : kk ≤ 15) : ofF (made2 kk 0 0 vL vL) = (true, 2, 0) := by
  rcases (by omega : kk = 12 ∨ kk = 13 ∨ kk = 14 ∨ kk = 15) with rfl | rfl | rfl | rfl <;> decide +kernel
theorem nm_ff_eq {kk : Int} (h : 16 ≤ kk) (h2 : kk ≤ 17) : ofF (made2 kk 0 0 vL vL) = (true, 2, 0) := by
  rcases (by omega : kk = 16 ∨ kk = 17) with rfl | rfl <;> decide +kernel
theorem nm_ff_log {kk : Int} (h : 18 ≤ kk) (h2 : kk ≤ 19) : ofF (made2 kk 0 0 vL vL) = (false, 2, 42) := by
  rcases (by omega : kk = 18 ∨ kk = 19) with rfl | rfl <;> decide +kernel
theorem nm_tf_num {kk : Int} (h : 7 ≤ kk) (h2 : kk ≤ 11) : ofF (made2 kk 0 0 tL vL) = (false, 4, 42) := by
  rcases (by omega : kk = 7 ∨ kk = 8 ∨ kk = 9 ∨ kk = 10 ∨ kk = 11) with rfl | rfl | rfl | rfl | rfl <;> decide +kernel
theorem nm_tf_cmp {kk : Int} (h : 12 ≤ kk) (h2 : kk ≤ 15) : ofF (made2 kk 0 0 tL vL) = (false, 4, 42) := by
  rcases (by omega : kk = 12 ∨ kk = 13 ∨ kk = 14 ∨ kk = 15) with rfl | rfl | rfl | rfl <;> decide +kernel
theorem nm_tf_eq {kk : Int} (h : 16 ≤ kk) (h2 : kk ≤ 17) : ofF (made2 kk 0 0 tL vL) = (false, 4, 42) := by
  rcases (by omega : kk = 16 ∨ kk = 17) with rfl | rfl <;> decide +kernel
theorem nm_tf_log {kk : Int} (h : 18 ≤ kk) (h2 : kk ≤ 19) : ofF (made2 kk 0 0 tL vL) = (false, 4, 42) := by
  rcases (by omega : kk = 18 ∨ kk = 19) with rfl | rfl <;> decide +kernel
theorem nm_ft_num {kk : Int} (h : 7 ≤ kk) (h2 : kk ≤ 11) : ofF (made2 kk 0 0 vL tL) = (false, 4, 42) := by
  rcases (by omega : kk = 7 ∨ kk = 8 ∨ kk = 9 ∨ kk = 10 ∨ kk = 11) with rfl | rfl | rfl | rfl | rfl <;> decide +kernel
theorem nm_ft_cmp {kk : Int} (h : 12 ≤ kk) (h2 : kk ≤ 15) : ofF (made2 kk 0 0 vL tL) = (false, 4, 42) := by
  rcases (by omega : kk = 12 ∨ kk = 13 ∨ kk = 14 ∨ kk = 15) with rfl | rfl | rfl | rfl <;> decide +kernel
theorem nm_ft_eq {kk : Int} (h : 16 ≤ kk) (h2 : kk ≤ 17) : ofF (made2 kk 0 0 vL tL) = (false, 4, 42) := by
  rcases (by omega : kk = 16 ∨ kk = 17) with rfl | rfl <;> decide +kernel
theorem nm_ft_log {kk : Int} (h : 18 ≤ kk) (h2 : kk ≤ 19) : ofF (made2 kk 0 0 vL tL) = (false, 4, 42) := by
  rcases (by omega : kk = 18 ∨ kk = 19) with rfl | rfl <;> decide +kernel
theorem nm_tt_num {kk : Int} (h : 7 ≤ kk) (h2 : kk ≤ 11) : ofF (made2 kk 0 0 tL tL) = (false, 6, 42) := by
  rcases (by omega : kk = 7 ∨ kk = 8 ∨ kk = 9 ∨ kk = 10 ∨ kk = 11) with rfl | rfl | rfl | rfl | rfl <;> decide +kernel
theorem nm_tt_cmp {kk : Int} (h : 12 ≤ kk) (h2 : kk ≤ 15) : ofF (made2 kk 0 0 tL tL) = (false, 6, 42) := by
  rcases (by omega : kk = 12 ∨ kk = 13 ∨ kk = 14 ∨ kk = 15) with rfl | rfl | rfl | rfl <;> decide +kernel
theorem nm_tt_eq {kk : Int} (h : 16 ≤ kk) (h2 : kk ≤ 17) : ofF (made2 kk 0 0 tL tL) = (true, 6, 0) := by
  rcases (by omega : kk = 16 ∨ kk = 17) with rfl | rfl <;> decide +kernel
theorem nm_tt_log {kk : Int} (h : 18 ≤ kk) (h2 : kk ≤ 19) : ofF (made2 kk 0 0 tL tL) = (true, 6, 0) := by
  rcases (by omega : kk = 18 ∨ kk = 19) with rfl | rfl <;> decide +kernel
def uL : List Nd := made2 14 0 0 vL vL
def nL : List Nd := made1 5 0 0 vL
def oL : List Nd := made1 6 0 0 uL
theorem uL_ok : checkF uL = 0 := by decide +kernel
theorem of_v : ofF vL = (false, 0, 0) := by decide +kernel
theorem of_n : ofF nL = (false, 1, 0) := by decide +kernel
theorem of_o : ofF oL = (true, 3, 0) := by decide +kernel
theorem of_5u : ofF (made1 5 0 0 uL) = (false, 3, 42) := by decide +kernel
theorem w_u : wantF uL false = (2, 42) := by decide +kernel
theorem w_v : wantF vL true = (0, 42) := by decide +kernel
theorem w_v2 : wantF vL false = (0, 0) := by decide +kernel
theorem w_o : wantF oL true = (3, 0) := by decide +kernel
theorem of_nil : ofF [] = (false, 0, 8) := by decide +kernel
theorem of_zero : ofF [⟨0, 0, 0, 0, 0⟩] = (false, 0, 8) := by decide +kernel
theorem w_18 : wantF (made2 18 0 0 tL vL) true = (4, 42) := by decide +kernel
theorem w_61 (L : List Nd) (h : L.length = 61) : wantF L false = (0, 4) := by
  have hc : checkF L = 4 := by unfold checkF; rw [if_pos (by omega)]
  unfold wantF
  rw [of_bad hc (by decide)]
  rfl
/-- What the law keeps from call to call. -/
def KS (w : World) (Av At An Ao : Option Addr) (W : World) : Prop := Bl w W ∧ SigT W ∧ Lies W Av (ndCells vL) ∧ Lies W At (ndCells uL) ∧ Lies W An (ndCells nL) ∧ Lies W Ao (ndCells oL)
theorem KS.step {w W W' : World} {Av At An Ao : Option Addr} (h : KS w Av At An Ao W) (hb : Below W.heap.size W W') : KS w Av At An Ao W' :=
  ⟨h.1.step hb, h.2.1.stays hb, h.2.2.1.below hb, h.2.2.2.1.below hb, h.2.2.2.2.1.below hb, h.2.2.2.2.2.below hb⟩
theorem KS.bl {w W : World} {Av At An Ao : Option Addr} (h : KS w Av At An Ao W) : Bl w W := h.1
theorem KS.sig {w W : World} {Av At An Ao : Option Addr} (h : KS w Av At An Ao W) : SigT W := h.2.1
theorem KS.v {w W : World} {Av At An Ao : Option Addr} (h : KS w Av At An Ao W) : Lies W Av (ndCells vL) := h.2.2.1
theorem KS.t {w W : World} {Av At An Ao : Option Addr} (h : KS w Av At An Ao W) : Lies W At (ndCells uL) := h.2.2.2.1
theorem KS.n {w W : World} {Av At An Ao : Option Addr} (h : KS w Av At An Ao W) : Lies W An (ndCells nL) := h.2.2.2.2.1
theorem KS.o {w W : World} {Av At An Ao : Option Addr} (h : KS w Av At An Ao W) : Lies W Ao (ndCells oL) := h.2.2.2.2.2
theorem KS.al {w W : World} {Av At An Ao : Option Addr} (h : KS w Av At An Ao W) (o : Obj) : KS w Av At An Ao (W.alloc o) := h.step ((Below.refl _ _).alloc (Nat.le_refl _) _)
theorem made_61 : (madeCells #[.int .u8 0, .int .i64 0, .int .i64 0, .int .i64 0, .int .i64 0] 305).toList = ndCells (List.replicate 61 ⟨0, 0, 0, 0, 0⟩) := by kernel_rfl
end Go.Proofs.YtfnkofcgjbakeaaDoor.K6
