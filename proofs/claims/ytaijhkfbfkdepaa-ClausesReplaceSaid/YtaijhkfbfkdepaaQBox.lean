/- A query's box. -/
import Derived.Test.YtaijhkfbfkdepaaQMem
import Derived.Test.YtaijhkfbfkdepaaQWin
namespace Go.Proofs.Ytaijhkfbfkdepaa.Q8
open Go.ChangeShapes Go.WideShapes Go.ChangeAt Go.RowKit N4
set_option linter.unusedVariables false
set_option linter.unusedSimpArgs false
set_option maxRecDepth 100000
/-- A query's box, and what was there. -/
def QX (w0 : World) (b : Nat) (g1 : Int) (A1 : Option Addr) (n1 c1 : Nat) (S1 : Option Addr) (m1 d1 : Nat) (j1 : Bool) (B1 : Option Addr) (o1 e1 : Nat) (k1 s1 v1 : Int) (y1 : Bool) (t1 : Int) (W : World) : Prop :=
  Bl w0 W ∧ b < W.heap.size ∧ W.cell? ⟨b, 0, none⟩ = some (.int .u8 g1) ∧ W.cell? ⟨b, 1, none⟩ = some (.slice A1 n1 c1) ∧ W.cell? ⟨b, 2, none⟩ = some (.slice S1 m1 d1) ∧ W.cell? ⟨b, 3, none⟩ = some (.bool j1) ∧ W.cell? ⟨b, 4, none⟩ = some (.slice B1 o1 e1) ∧
  W.cell? ⟨b, 5, none⟩ = some (.int .u8 k1) ∧ W.cell? ⟨b, 6, none⟩ = some (.int .i64 s1) ∧ W.cell? ⟨b, 7, none⟩ = some (.int .i64 v1) ∧ W.cell? ⟨b, 8, none⟩ = some (.bool y1) ∧ W.cell? ⟨b, 9, none⟩ = some (.int .u8 t1)
theorem QX.step {w0 : World} {b : Nat} {g1 : Int} {A1 : Option Addr} {n1 c1 : Nat} {S1 : Option Addr} {m1 d1 : Nat} {j1 : Bool} {B1 : Option Addr} {o1 e1 : Nat} {k1 s1 v1 : Int} {y1 : Bool} {t1 : Int} {W W' : World} (h : QX w0 b g1 A1 n1 c1 S1 m1 d1 j1 B1 o1 e1 k1 s1 v1 y1 t1 W) (hb : Below W.heap.size W W') : QX w0 b g1 A1 n1 c1 S1 m1 d1 j1 B1 o1 e1 k1 s1 v1 y1 t1 W' := by
  obtain ⟨h1, h2, h3⟩ := h
  have e : ∀ o, W'.cell? ⟨b, o, none⟩ = W.cell? ⟨b, o, none⟩ := fun o => hb.cell (p := ⟨b, o, none⟩) h2
  refine ⟨h1.step hb, Nat.lt_of_lt_of_le h2 hb.size, ?_⟩
  simp only [e]
  exact h3
theorem QX.new {w0 w : World} (h : Bl w0 w) (g1 : Int) (A1 : Option Addr) (n1 c1 : Nat) (S1 : Option Addr) (m1 d1 : Nat) (j1 : Bool) (B1 : Option Addr) (o1 e1 : Nat) (k1 s1 v1 : Int) (y1 : Bool) (t1 : Int) (t : TypeId) : QX w0 w.heap.size g1 A1 n1 c1 S1 m1 d1 j1 B1 o1 e1 k1 s1 v1 y1 t1 (w.alloc (.cells #[.int .u8 g1, .slice A1 n1 c1, .slice S1 m1 d1, .bool j1, .slice B1 o1 e1, .int .u8 k1, .int .i64 s1, .int .i64 v1, .bool y1, .int .u8 t1] t)) :=
  ⟨h.al _, by simp, by go_simp, by go_simp, by go_simp, by go_simp, by go_simp, by go_simp, by go_simp, by go_simp, by go_simp, by go_simp⟩
theorem QX.bl {w0 : World} {b : Nat} {g1 : Int} {A1 : Option Addr} {n1 c1 : Nat} {S1 : Option Addr} {m1 d1 : Nat} {j1 : Bool} {B1 : Option Addr} {o1 e1 : Nat} {k1 s1 v1 : Int} {y1 : Bool} {t1 : Int} {W : World} (h : QX w0 b g1 A1 n1 c1 S1 m1 d1 j1 B1 o1 e1 k1 s1 v1 y1 t1 W) : Bl w0 W := h.1
theorem QX.cells {w0 : World} {b : Nat} {g1 : Int} {A1 : Option Addr} {n1 c1 : Nat} {S1 : Option Addr} {m1 d1 : Nat} {j1 : Bool} {B1 : Option Addr} {o1 e1 : Nat} {k1 s1 v1 : Int} {y1 : Bool} {t1 : Int} {W : World} (h : QX w0 b g1 A1 n1 c1 S1 m1 d1 j1 B1 o1 e1 k1 s1 v1 y1 t1 W) : b < W.heap.size ∧ W.cell? ⟨b, 0, none⟩ = some (.int .u8 g1) ∧ W.cell? ⟨b, 1, none⟩ = some (.slice A1 n1 c1) ∧ W.cell? ⟨b, 2, none⟩ = some (.slice S1 m1 d1) ∧ W.cell? ⟨b, 3, none⟩ = some (.bool j1) ∧ W.cell? ⟨b, 4, none⟩ = some (.slice B1 o1 e1) ∧
  W.cell? ⟨b, 5, none⟩ = some (.int .u8 k1) ∧ W.cell? ⟨b, 6, none⟩ = some (.int .i64 s1) ∧ W.cell? ⟨b, 7, none⟩ = some (.int .i64 v1) ∧ W.cell? ⟨b, 8, none⟩ = some (.bool y1) ∧ W.cell? ⟨b, 9, none⟩ = some (.int .u8 t1) := h.2
end Go.Proofs.Ytaijhkfbfkdepaa.Q8
