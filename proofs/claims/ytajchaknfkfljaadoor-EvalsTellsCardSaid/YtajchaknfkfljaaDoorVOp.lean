/- What an operator gives, for any kind: ints.Do and the reference's Given. -/
import Derived.Test.YtajchaknfkfljaaDoorVMath
import Derived.Test.YtajchaknfkfljaaDoorKGive
namespace Go.Proofs.YtajchaknfkfljaaDoor.V7
open Go.ChangeShapes Go.WideShapes Go.ChangeAt Go.RowKit N4 K6
set_option linter.unusedVariables false

theorem op_kinds {k : Int} (h : 5 ≤ k) (h2 : k ≤ 19) : k = 5 ∨ k = 6 ∨ k = 7 ∨ k = 8 ∨ k = 9 ∨ k = 10 ∨ k = 11 ∨ k = 12 ∨ k = 13 ∨ k = 14 ∨ k = 15 ∨ k = 16 ∨ k = 17 ∨ k = 18 ∨ k = 19 := by omega
theorem do_op (k a b : Int) (h : 5 ≤ k) (h2 : k ≤ 19) (w : World) : Calls Tryd.prog 26 #[.int .u8 k, .int .i64 a, .int .i64 b] w fun e w' => e = .returned (.tuple #[.int .i64 (opV k a b), .int .i64 0]) ∧ w = w' := by
  rcases op_kinds h h2 with rfl | rfl | rfl | rfl | rfl | rfl | rfl | rfl | rfl | rfl | rfl | rfl | rfl | rfl | rfl
  · exact do_neg a b w
  · exact do_not a b w
  · exact do_mul a b w
  · exact do_add a b w
  · exact do_sub a b w
  · exact do_shl a b w
  · exact do_shr a b w
  · exact do_less a b w
  · exact do_most a b w
  · exact do_more a b w
  · exact do_least a b w
  · exact do_equal a b w
  · exact do_other a b w
  · exact do_and a b w
  · exact do_or a b w
theorem given_op (k a b : Int) (h : 5 ≤ k) (h2 : k ≤ 19) (ha : In64 a) (w : World) : Calls Tryd.prog 48 #[.int .u8 k, .int .i64 a, .int .i64 b] w fun e w' => e = .returned (.int .i64 (opV k a b)) ∧ w = w' := by
  rcases op_kinds h h2 with rfl | rfl | rfl | rfl | rfl | rfl | rfl | rfl | rfl | rfl | rfl | rfl | rfl | rfl | rfl
  · exact given_neg a b w
  · exact given_not a b w
  · exact given_mul a b w
  · exact given_add a b w
  · exact given_sub a b w
  · exact given_shl a b w
  · exact given_shr a b w ha.1 ha.2
  · exact given_less a b w
  · exact given_most a b w
  · exact given_more a b w
  · exact given_least a b w
  · exact given_equal a b w
  · exact given_other a b w
  · exact given_and a b w
  · exact given_or a b w
def iCells (vs : List Int) : List Value := vs.map fun v => .int .i64 v
abbrev rcV (r : Rc) : Value := .agg #[.int .i64 r.k, .int .i64 r.t, .int .i64 r.v]
theorem iCells_length (vs : List Int) : (iCells vs).length = vs.length := by simp [iCells]
theorem iCells_snoc (vs : List Int) (v : Int) : iCells (vs ++ [v]) = iCells vs ++ [.int .i64 v] := by simp [iCells]
theorem iCells_at {vs : List Int} {i : Nat} {v : Int} (h : vs[i]? = some v) : (iCells vs)[i]? = some (.int .i64 v) := by unfold iCells; rw [List.getElem?_map, h]; rfl
theorem iCells_take (vs : List Int) (k : Nat) : (iCells vs).take k = iCells (vs.take k) := by simp [iCells, List.map_take]
theorem Lies.val {w : World} {A : Option Addr} {vs : List Int} (h : Lies w A (iCells vs)) {i : Nat} (hi : i < vs.length) : ∃ ad, A = some ad ∧ ad.block < w.heap.size ∧ w.cell? (ad.add i) = some (.int .i64 (getV vs i)) := by
  have hv : vs[i]? = some vs[i] := List.getElem?_eq_getElem hi
  rw [getV_at hv]
  exact h.one (iCells_at hv)
end Go.Proofs.YtajchaknfkfljaaDoor.V7
