/- Integers and queries in memory. -/
import Derived.Test.YtaijhkfbfkdepaaQMath
import Derived.Test.YtaijhkfbfkdepaaNSame
namespace Go.Proofs.Ytaijhkfbfkdepaa.Q8
open Go.ChangeShapes Go.WideShapes Go.ChangeAt Go.RowKit N4
set_option linter.unusedVariables false
set_option linter.unusedSimpArgs false

def iC (l : List Int) : List Value := l.map fun v => .int .i64 v
theorem iC_at {l : List Int} {k : Nat} (hk : k < l.length) : (iC l)[k]? = some (.int .i64 l[k]) := by simp [iC, List.getElem?_map, List.getElem?_eq_getElem hk]
def Bl (w0 w : World) : Prop := Below w0.heap.size w0 w
theorem Bl.start (w : World) : Bl w w := Below.refl _ _
theorem Bl.step {w0 w w' : World} (h : Bl w0 w) (hb : Below w.heap.size w w') : Bl w0 w' := Below.trans h (Below.mono hb (Below.size h))
theorem Bl.size {w0 w : World} (h : Bl w0 w) : w0.heap.size ≤ w.heap.size := Below.size h
theorem Bl.al {w0 w : World} (h : Bl w0 w) (o : Obj) : Bl w0 (w.alloc o) := h.step ((Below.refl _ _).alloc (Nat.le_refl _) _)
theorem Bl.lies {w0 w : World} {A : Option Addr} {cs : List Value} (h : Bl w0 w) (hl : Lies w0 A cs) : Lies w A cs := hl.below h
theorem Bl.setCell {w W : World} (h : Bl w W) {g j : Nat} (hg : w.heap.size ≤ g) (v : Value) : Bl w (W.setCell ⟨g, j, none⟩ v) := Below.setCell h (p := ⟨g, j, none⟩) hg v
/-- The slices of a query. -/
def QA (w : World) (A : Option Addr) (n : Nat) (S : Option Addr) (m : Nat) (B : Option Addr) (o : Nat) (L M : List Nd) (l : List Int) : Prop :=
  (Lies w A (ndCells L) ∧ L.length = n ∧ n ≤ maxLen) ∧ (Lies w S (iC l) ∧ l.length = m) ∧ (Lies w B (ndCells M) ∧ M.length = o ∧ o ≤ maxLen)
theorem QA.step {w w' : World} {A : Option Addr} {n : Nat} {S : Option Addr} {m : Nat} {B : Option Addr} {o : Nat} {L M : List Nd} {l : List Int} (h : QA w A n S m B o L M l) (hb : Below w.heap.size w w') : QA w' A n S m B o L M l :=
  ⟨⟨h.1.1.below hb, h.1.2⟩, ⟨h.2.1.1.below hb, h.2.1.2⟩, ⟨h.2.2.1.below hb, h.2.2.2⟩⟩
end Go.Proofs.Ytaijhkfbfkdepaa.Q8
