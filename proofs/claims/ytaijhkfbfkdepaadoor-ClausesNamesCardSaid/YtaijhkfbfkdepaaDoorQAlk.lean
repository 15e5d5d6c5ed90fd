
/- The contract of the reference's Alike of nodes. -/
import Derived.Test.YtaijhkfbfkdepaaDoorQMem
import Derived.Test.YtaijhkfbfkdepaaDoorNEq
import Derived.Deep.RegionHeld3
namespace Go.Proofs.YtaijhkfbfkdepaaDoor.Q8
open Go.ChangeShapes Go.WideShapes Go.ChangeAt Go.RowKit N4
set_option linter.unusedVariables false
set_option linter.unusedSimpArgs false
set_option maxRecDepth 100000

theorem alk_snoc {L : List Nd} {k : Nat} {x : Nd} (h : L[k]? = some x) : (L.take (k + 1)).map unp = (L.take k).map unp ++ [unp x] := by
  rw [take_snoc_nd h, List.map_append]; rfl
theorem alk_at {L M : List Nd} {k : Nat} {x y : Nd} (hx : L[k]? = some x) (hy : M[k]? = some y) (h : unp x ≠ unp y) : alikeF L M = false := by
  unfold alikeF
  rw [decide_eq_false_iff_not]
  intro e
  have := congrArg (fun l => l[k]?) e
  simp only [List.getElem?_map, hx, hy, Option.map_some, Option.some.injEq] at this
  exact h this
end Go.Proofs.YtaijhkfbfkdepaaDoor.Q8
