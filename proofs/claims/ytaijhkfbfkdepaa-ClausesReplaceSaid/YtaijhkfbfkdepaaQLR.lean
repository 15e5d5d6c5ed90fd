/- ClausesReplace walks to true. -/
import Derived.Test.YtaijhkfbfkdepaaQLQW
import Derived.Deep.Onto
import Derived.Deep.RegionHeld3
import Derived.Outline
import Derived.Tactics2
import Derived.Deep.DeepCutAuto
import Derived.Deep.CutBlock
namespace Go.Proofs.Ytaijhkfbfkdepaa.Q8
open Go.ChangeShapes Go.WideShapes Go.ChangeAt Go.RowKit N4
set_option linter.unusedVariables false
set_option linter.unusedSimpArgs false
set_option maxRecDepth 100000

/-- A window's box. -/
def WX (w0 : World) (b : Nat) (k s v : Int) (W : World) : Prop := Bl w0 W ∧ b < W.heap.size ∧ W.cell? ⟨b, 0, none⟩ = some (.int .u8 k) ∧ W.cell? ⟨b, 1, none⟩ = some (.int .i64 s) ∧ W.cell? ⟨b, 2, none⟩ = some (.int .i64 v)
theorem WX.step {w0 : World} {b : Nat} {k s v : Int} {W W' : World} (h : WX w0 b k s v W) (hb : Below W.heap.size W W') : WX w0 b k s v W' := by
  obtain ⟨h1, h2, h3⟩ := h
  have e : ∀ o, W'.cell? ⟨b, o, none⟩ = W.cell? ⟨b, o, none⟩ := fun o => hb.cell (p := ⟨b, o, none⟩) h2
  refine ⟨h1.step hb, Nat.lt_of_lt_of_le h2 hb.size, ?_⟩
  simp only [e]
  exact h3
theorem WX.new {w0 w : World} (h : Bl w0 w) (k s v : Int) (t : TypeId) : WX w0 w.heap.size k s v (w.alloc (.cells #[.int .u8 k, .int .i64 s, .int .i64 v] t)) :=
  ⟨h.al _, by simp, by go_simp, by go_simp, by go_simp⟩
theorem WX.bl {w0 : World} {b : Nat} {k s v : Int} {W : World} (h : WX w0 b k s v W) : Bl w0 W := h.1
/-- A query's box, and a window's. -/
def QW (w : World) (g1 : Int) (A1 : Option Addr) (n1 c1 : Nat) (S1 : Option Addr) (m1 d1 : Nat) (j1 : Bool) (B1 : Option Addr) (o1 e1 : Nat) (k1 s1 v1 : Int) (y1 : Bool) (t1 : Int) (k s v : Int) (W : World) : Prop := QX w w.heap.size g1 A1 n1 c1 S1 m1 d1 j1 B1 o1 e1 k1 s1 v1 y1 t1 W ∧ WX w (w.heap.size + 1) k s v W
theorem QW.step {w : World} {g1 : Int} {A1 : Option Addr} {n1 c1 : Nat} {S1 : Option Addr} {m1 d1 : Nat} {j1 : Bool} {B1 : Option Addr} {o1 e1 : Nat} {k1 s1 v1 : Int} {y1 : Bool} {t1 : Int} {k s v : Int} {W W' : World} (h : QW w g1 A1 n1 c1 S1 m1 d1 j1 B1 o1 e1 k1 s1 v1 y1 t1 k s v W) (hb : Below W.heap.size W W') : QW w g1 A1 n1 c1 S1 m1 d1 j1 B1 o1 e1 k1 s1 v1 y1 t1 k s v W' := ⟨h.1.step hb, h.2.step hb⟩
theorem QW.bl {w : World} {g1 : Int} {A1 : Option Addr} {n1 c1 : Nat} {S1 : Option Addr} {m1 d1 : Nat} {j1 : Bool} {B1 : Option Addr} {o1 e1 : Nat} {k1 s1 v1 : Int} {y1 : Bool} {t1 : Int} {k s v : Int} {W : World} (h : QW w g1 A1 n1 c1 S1 m1 d1 j1 B1 o1 e1 k1 s1 v1 y1 t1 k s v W) : Bl w W := h.1.1
theorem QW.new (w : World) (g1 : Int) (A1 : Option Addr) (n1 c1 : Nat) (S1 : Option Addr) (m1 d1 : Nat) (j1 : Bool) (B1 : Option Addr) (o1 e1 : Nat) (k1 s1 v1 : Int) (y1 : Bool) (t1 : Int) (k s v : Int) (t t' : TypeId) : QW w g1 A1 n1 c1 S1 m1 d1 j1 B1 o1 e1 k1 s1 v1 y1 t1 k s v ((w.alloc (.cells #[.int .u8 g1, .slice A1 n1 c1, .slice S1 m1 d1, .bool j1, .slice B1 o1 e1, .int .u8 k1, .int .i64 s1, .int .i64 v1, .bool y1, .int .u8 t1] t)).alloc (.cells #[.int .u8 k, .int .i64 s, .int .i64 v] t')) :=
  ⟨(QX.new (Bl.start w) g1 A1 n1 c1 S1 m1 d1 j1 B1 o1 e1 k1 s1 v1 y1 t1 t).step ((Below.refl _ _).alloc (Nat.le_refl _) _), by have := WX.new ((Bl.start w).al (.cells #[.int .u8 g1, .slice A1 n1 c1, .slice S1 m1 d1, .bool j1, .slice B1 o1 e1, .int .u8 k1, .int .i64 s1, .int .i64 v1, .bool y1, .int .u8 t1] t)) k s v t'; rwa [show (w.alloc (.cells #[.int .u8 g1, .slice A1 n1 c1, .slice S1 m1 d1, .bool j1, .slice B1 o1 e1, .int .u8 k1, .int .i64 s1, .int .i64 v1, .bool y1, .int .u8 t1] t)).heap.size = w.heap.size + 1 by simp] at this⟩
/-- A box of its own. -/
def RQ (w : World) (b : Nat) (cs : List Value) (W : World) : Prop := W.ownsRow (w.heap.size + 2) 27 1 (.slice (some ⟨b, 0, none⟩) 10 10) 10 cs
theorem RQ.lt {w : World} {b : Nat} {cs : List Value} {W : World} (h : RQ w b cs W) : w.heap.size + 2 ≤ b ∧ b < W.heap.size := World.ownsRow.lt h b rfl
theorem c10_al {b : Nat} {z0 z1 z2 z3 z4 z5 z6 z7 z8 z9 : Value} {W : World} (h : W.cell? ⟨b, 0, none⟩ = some z0 ∧ W.cell? ⟨b, 1, none⟩ = some z1 ∧ W.cell? ⟨b, 2, none⟩ = some z2 ∧ W.cell? ⟨b, 3, none⟩ = some z3 ∧ W.cell? ⟨b, 4, none⟩ = some z4 ∧ W.cell? ⟨b, 5, none⟩ = some z5 ∧ W.cell? ⟨b, 6, none⟩ = some z6 ∧ W.cell? ⟨b, 7, none⟩ = some z7 ∧ W.cell? ⟨b, 8, none⟩ = some z8 ∧ W.cell? ⟨b, 9, none⟩ = some z9) (hb : b < W.heap.size) (o : Obj) :
    (W.alloc o).cell? ⟨b, 0, none⟩ = some z0 ∧ (W.alloc o).cell? ⟨b, 1, none⟩ = some z1 ∧ (W.alloc o).cell? ⟨b, 2, none⟩ = some z2 ∧ (W.alloc o).cell? ⟨b, 3, none⟩ = some z3 ∧ (W.alloc o).cell? ⟨b, 4, none⟩ = some z4 ∧ (W.alloc o).cell? ⟨b, 5, none⟩ = some z5 ∧ (W.alloc o).cell? ⟨b, 6, none⟩ = some z6 ∧ (W.alloc o).cell? ⟨b, 7, none⟩ = some z7 ∧ (W.alloc o).cell? ⟨b, 8, none⟩ = some z8 ∧ (W.alloc o).cell? ⟨b, 9, none⟩ = some z9 := by
  have e : ∀ j, (W.alloc o).cell? ⟨b, j, none⟩ = W.cell? ⟨b, j, none⟩ := fun j => World.cell?_alloc_lt _ _ _ hb
  simp only [e]
  exact h
theorem c10_set {b : Nat} {z0 z1 z2 z3 z4 z5 z6 z7 z8 z9 : Value} {W : World} (h : W.cell? ⟨b, 0, none⟩ = some z0 ∧ W.cell? ⟨b, 1, none⟩ = some z1 ∧ W.cell? ⟨b, 2, none⟩ = some z2 ∧ W.cell? ⟨b, 3, none⟩ = some z3 ∧ W.cell? ⟨b, 4, none⟩ = some z4 ∧ W.cell? ⟨b, 5, none⟩ = some z5 ∧ W.cell? ⟨b, 6, none⟩ = some z6 ∧ W.cell? ⟨b, 7, none⟩ = some z7 ∧ W.cell? ⟨b, 8, none⟩ = some z8 ∧ W.cell? ⟨b, 9, none⟩ = some z9) {g : Nat} (hne : g ≠ b) (i : Nat) (v : Value) :
    (W.setCell ⟨g, i, none⟩ v).cell? ⟨b, 0, none⟩ = some z0 ∧ (W.setCell ⟨g, i, none⟩ v).cell? ⟨b, 1, none⟩ = some z1 ∧ (W.setCell ⟨g, i, none⟩ v).cell? ⟨b, 2, none⟩ = some z2 ∧ (W.setCell ⟨g, i, none⟩ v).cell? ⟨b, 3, none⟩ = some z3 ∧ (W.setCell ⟨g, i, none⟩ v).cell? ⟨b, 4, none⟩ = some z4 ∧ (W.setCell ⟨g, i, none⟩ v).cell? ⟨b, 5, none⟩ = some z5 ∧ (W.setCell ⟨g, i, none⟩ v).cell? ⟨b, 6, none⟩ = some z6 ∧ (W.setCell ⟨g, i, none⟩ v).cell? ⟨b, 7, none⟩ = some z7 ∧ (W.setCell ⟨g, i, none⟩ v).cell? ⟨b, 8, none⟩ = some z8 ∧ (W.setCell ⟨g, i, none⟩ v).cell? ⟨b, 9, none⟩ = some z9 := by
  have e : ∀ j, (W.setCell ⟨g, i, none⟩ v).cell? ⟨b, j, none⟩ = W.cell? ⟨b, j, none⟩ := fun j => World.cell?_setCell_far _ _ _ _ hne
  simp only [e]
  exact h
theorem c10_drew {b : Nat} {z0 z1 z2 z3 z4 z5 z6 z7 z8 z9 : Value} {W : World} (h : W.cell? ⟨b, 0, none⟩ = some z0 ∧ W.cell? ⟨b, 1, none⟩ = some z1 ∧ W.cell? ⟨b, 2, none⟩ = some z2 ∧ W.cell? ⟨b, 3, none⟩ = some z3 ∧ W.cell? ⟨b, 4, none⟩ = some z4 ∧ W.cell? ⟨b, 5, none⟩ = some z5 ∧ W.cell? ⟨b, 6, none⟩ = some z6 ∧ W.cell? ⟨b, 7, none⟩ = some z7 ∧ W.cell? ⟨b, 8, none⟩ = some z8 ∧ W.cell? ⟨b, 9, none⟩ = some z9) : W.drew.cell? ⟨b, 0, none⟩ = some z0 ∧ W.drew.cell? ⟨b, 1, none⟩ = some z1 ∧ W.drew.cell? ⟨b, 2, none⟩ = some z2 ∧ W.drew.cell? ⟨b, 3, none⟩ = some z3 ∧ W.drew.cell? ⟨b, 4, none⟩ = some z4 ∧ W.drew.cell? ⟨b, 5, none⟩ = some z5 ∧ W.drew.cell? ⟨b, 6, none⟩ = some z6 ∧ W.drew.cell? ⟨b, 7, none⟩ = some z7 ∧ W.drew.cell? ⟨b, 8, none⟩ = some z8 ∧ W.drew.cell? ⟨b, 9, none⟩ = some z9 := h
/-- Four copies of a query, in blocks of their own. -/
def R4 (w : World) (p q r s : Nat) (cs : List Value) (W : World) : Prop := RQ w p cs W ∧ RQ w q cs W ∧ RQ w r cs W ∧ RQ w s cs W ∧ p ≠ q ∧ p ≠ r ∧ p ≠ s ∧ q ≠ r ∧ q ≠ s ∧ r ≠ s
theorem rows4 (w W : World) (cs : Array Value) (hcs : cs.size = 10) (hb : w.heap.size + 2 ≤ W.heap.size) (W4 : World) (h4 : W4 = ((((W.alloc (.cells cs 27)).alloc (.cells cs 27)).alloc (.cells cs 27)).alloc (.cells cs 27))) :
    RQ w W.heap.size cs.toList W4 ∧ RQ w (W.heap.size + 1) cs.toList W4 ∧ RQ w (W.heap.size + 1 + 1) cs.toList W4 ∧ RQ w (W.heap.size + 1 + 1 + 1) cs.toList W4 := by
  subst h4
  have lit : ∀ (X : World) (B : Nat), X.heap.size = B → w.heap.size + 2 ≤ B → (X.alloc (.cells cs 27)).ownsRow (w.heap.size + 2) 27 1 (.slice (some ⟨B, 0, none⟩) 10 10) 10 cs.toList := fun X B hB hb => by
    subst hB
    exact World.ownsRow_lit (base := w.heap.size + 2) (e := 27) (size := 1) X cs 10 hb (by decide) (by omega)
  exact ⟨((((lit W _ rfl hb).alloc _).alloc _).alloc _), (((lit _ _ (by simp) (by omega)).alloc _).alloc _), ((lit _ _ (by simp) (by omega)).alloc _), lit _ _ (by simp) (by omega)⟩
theorem chk_a {g : Int} {L : List Nd} {l : List Int} {M : List Nd} {k s v : Int} {y : Bool} {t : Int} (kk ss vv : Int) (h : chkF ⟨g, L, l, false, M, k, s, v, y, t⟩ = 0) : chkF ⟨g, L, l, false, M, kk, ss, vv, y, t⟩ = winE kk ss vv := by
  obtain ⟨e1, e2, e3, e4, e5, e6⟩ := (chk_zero _).1 h
  simp only at e1 e2 e3 e4 e5 e6
  unfold chkF chkL
  simp only [e1.1, e1.2, e2, e3, e4]
  simp [firstE, badE]
  intro h0; exact h0.symm
theorem chk_b {g : Int} {L : List Nd} {l : List Int} {M : List Nd} {k s v : Int} {y : Bool} {t : Int} (ll : List Int) (h : chkF ⟨g, L, l, false, M, k, s, v, y, t⟩ = 0) : chkF ⟨g, L, ll, false, M, k, s, v, y, t⟩ = srcF ll false := by
  obtain ⟨e1, e2, e3, e4, e5, e6⟩ := (chk_zero _).1 h
  simp only at e1 e2 e3 e4 e5 e6
  unfold chkF chkL
  simp only [e1.1, e1.2, e2, e3, winE, e5]
  simp [firstE, badE]
  intro h0; exact h0.symm
theorem chk_c {g : Int} {L : List Nd} {l : List Int} {M : List Nd} {k s v : Int} {y : Bool} {t : Int} (X : List Nd) (h : chkF ⟨g, L, l, false, M, k, s, v, y, t⟩ = 0) : chkF ⟨g, L, l, false, X, k, s, v, y, t⟩ = whrE X := by
  obtain ⟨e1, e2, e3, e4, e5, e6⟩ := (chk_zero _).1 h
  simp only at e1 e2 e3 e4 e5 e6
  unfold chkF chkL
  simp only [e1.1, e1.2, e2, e4, winE, e5]
  simp [firstE, badE]
  intro h0; exact h0.symm
theorem chk_d {g : Int} {L : List Nd} {l : List Int} {M : List Nd} {k s v : Int} {y : Bool} {t : Int} (X : List Nd) (h : chkF ⟨g, L, l, false, M, k, s, v, y, t⟩ = 0) : chkF ⟨4, X, l, false, M, k, s, v, y, t⟩ = checkF X := by
  obtain ⟨e1, e2, e3, e4, e5, e6⟩ := (chk_zero _).1 h
  simp only at e1 e2 e3 e4 e5 e6
  unfold chkF chkL argE
  simp only [e1.2, e3, e4, winE, e5]
  simp [firstE, badE, inB]
  intro h0; exact h0.symm
theorem qx_of {w W : World} {b : Nat} (g1 : Int) (A1 : Option Addr) (n1 c1 : Nat) (S1 : Option Addr) (m1 d1 : Nat) (j1 : Bool) (B1 : Option Addr) (o1 e1 : Nat) (k1 s1 v1 : Int) (y1 : Bool) (t1 : Int) (hB : Bl w W) (h : RQ w b #[.int .u8 g1, .slice A1 n1 c1, .slice S1 m1 d1, .bool j1, .slice B1 o1 e1, .int .u8 k1, .int .i64 s1, .int .i64 v1, .bool y1, .int .u8 t1].toList W) : QX w b g1 A1 n1 c1 S1 m1 d1 j1 B1 o1 e1 k1 s1 v1 y1 t1 W :=
  ⟨hB, h.lt.2, h.cellAt 0 (by decide), h.cellAt 1 (by decide), h.cellAt 2 (by decide), h.cellAt 3 (by decide), h.cellAt 4 (by decide), h.cellAt 5 (by decide), h.cellAt 6 (by decide), h.cellAt 7 (by decide), h.cellAt 8 (by decide), h.cellAt 9 (by decide)⟩
theorem RQ.far {w W : World} {b g : Nat} {cs ds : List Value} (h : RQ w b cs W) (hg : RQ w g ds W) (hne : b ≠ g) (i : Nat) (v : Value) : RQ w b cs (W.setCell ⟨g, i, none⟩ v) := World.ownsRow.kept h (hg.stored i v).2 (.inr (by simp [Value.ownBlock]; exact hne))
theorem RQ.put {w W : World} {b : Nat} {cs : List Value} (h : RQ w b cs W) (i : Nat) (v : Value) : RQ w b (cs.set i v) (W.setCell ⟨b, i, none⟩ v) := (World.ownsRow.stored h i v).1
theorem QX.set' {w0 : World} {b : Nat} {g1 : Int} {A1 : Option Addr} {n1 c1 : Nat} {S1 : Option Addr} {m1 d1 : Nat} {j1 : Bool} {B1 : Option Addr} {o1 e1 : Nat} {k1 s1 v1 : Int} {y1 : Bool} {t1 : Int} {W : World} (h : QX w0 b g1 A1 n1 c1 S1 m1 d1 j1 B1 o1 e1 k1 s1 v1 y1 t1 W) {g j : Nat} (hne : g ≠ b) (hge : w0.heap.size ≤ g) (v : Value) : QX w0 b g1 A1 n1 c1 S1 m1 d1 j1 B1 o1 e1 k1 s1 v1 y1 t1 (W.setCell ⟨g, j, none⟩ v) := by
  obtain ⟨h1, h2, h3⟩ := h
  have e : ∀ o, (W.setCell ⟨g, j, none⟩ v).cell? ⟨b, o, none⟩ = W.cell? ⟨b, o, none⟩ := fun o => World.cell?_setCell_far _ _ _ _ hne
  refine ⟨h1.setCell hge v, by simpa using h2, ?_⟩
  simp only [e]
  exact h3
theorem WX.set {w0 : World} {b : Nat} {k s v : Int} {W : World} (h : WX w0 b k s v W) {g j : Nat} (hne : g ≠ b) (hge : w0.heap.size ≤ g) (z : Value) : WX w0 b k s v (W.setCell ⟨g, j, none⟩ z) := by
  obtain ⟨h1, h2, h3⟩ := h
  have e : ∀ o, (W.setCell ⟨g, j, none⟩ z).cell? ⟨b, o, none⟩ = W.cell? ⟨b, o, none⟩ := fun o => World.cell?_setCell_far _ _ _ _ hne
  refine ⟨h1.setCell hge z, by simpa using h2, ?_⟩
  simp only [e]
  exact h3
theorem QW.set {w : World} {g1 : Int} {A1 : Option Addr} {n1 c1 : Nat} {S1 : Option Addr} {m1 d1 : Nat} {j1 : Bool} {B1 : Option Addr} {o1 e1 : Nat} {k1 s1 v1 : Int} {y1 : Bool} {t1 : Int} {k s v : Int} {W : World} (h : QW w g1 A1 n1 c1 S1 m1 d1 j1 B1 o1 e1 k1 s1 v1 y1 t1 k s v W) {g j : Nat} (hg : w.heap.size + 2 ≤ g) (z : Value) : QW w g1 A1 n1 c1 S1 m1 d1 j1 B1 o1 e1 k1 s1 v1 y1 t1 k s v (W.setCell ⟨g, j, none⟩ z) := ⟨h.1.set' (by omega) (by omega) _, h.2.set (by omega) (by omega) _⟩
/-- The four boxes, each with its other part. -/
def S4 (w : World) (g1 : Int) (A1 : Option Addr) (n1 c1 : Nat) (S1 : Option Addr) (m1 d1 : Nat) (j1 : Bool) (B1 : Option Addr) (o1 e1 : Nat) (k1 s1 v1 : Int) (y1 : Bool) (t1 : Int) (kk ss vv : Int) (SS : Option Addr) (mm dd : Nat) (XX : Option Addr) (nx cx : Nat) (p q r s : Nat) (W : World) : Prop :=
  QW w g1 A1 n1 c1 S1 m1 d1 j1 B1 o1 e1 k1 s1 v1 y1 t1 kk ss vv W ∧ QX w p g1 A1 n1 c1 S1 m1 d1 j1 B1 o1 e1 kk ss vv y1 t1 W ∧ QX w q g1 A1 n1 c1 SS mm dd j1 B1 o1 e1 k1 s1 v1 y1 t1 W ∧ QX w r g1 A1 n1 c1 S1 m1 d1 j1 XX nx cx k1 s1 v1 y1 t1 W ∧ QX w s 4 XX nx cx S1 m1 d1 j1 B1 o1 e1 k1 s1 v1 y1 t1 W
theorem S4.step {w : World} {g1 : Int} {A1 : Option Addr} {n1 c1 : Nat} {S1 : Option Addr} {m1 d1 : Nat} {j1 : Bool} {B1 : Option Addr} {o1 e1 : Nat} {k1 s1 v1 : Int} {y1 : Bool} {t1 : Int} {kk ss vv : Int} {SS : Option Addr} {mm dd : Nat} {XX : Option Addr} {nx cx : Nat} {p q r s : Nat} {W W' : World} (h : S4 w g1 A1 n1 c1 S1 m1 d1 j1 B1 o1 e1 k1 s1 v1 y1 t1 kk ss vv SS mm dd XX nx cx p q r s W) (hb : Below W.heap.size W W') : S4 w g1 A1 n1 c1 S1 m1 d1 j1 B1 o1 e1 k1 s1 v1 y1 t1 kk ss vv SS mm dd XX nx cx p q r s W' := ⟨h.1.step hb, h.2.1.step hb, h.2.2.1.step hb, h.2.2.2.1.step hb, h.2.2.2.2.step hb⟩
theorem S4.bl {w : World} {g1 : Int} {A1 : Option Addr} {n1 c1 : Nat} {S1 : Option Addr} {m1 d1 : Nat} {j1 : Bool} {B1 : Option Addr} {o1 e1 : Nat} {k1 s1 v1 : Int} {y1 : Bool} {t1 : Int} {kk ss vv : Int} {SS : Option Addr} {mm dd : Nat} {XX : Option Addr} {nx cx : Nat} {p q r s : Nat} {W : World} (h : S4 w g1 A1 n1 c1 S1 m1 d1 j1 B1 o1 e1 k1 s1 v1 y1 t1 kk ss vv SS mm dd XX nx cx p q r s W) : Bl w W := h.1.1.1
theorem s4_of {w W : World} (g1 : Int) (A1 : Option Addr) (n1 c1 : Nat) (S1 : Option Addr) (m1 d1 : Nat) (j1 : Bool) (B1 : Option Addr) (o1 e1 : Nat) (k1 s1 v1 : Int) (y1 : Bool) (t1 : Int) {kk ss vv : Int} {p q r s : Nat} (SS : Option Addr) (mm dd : Nat) (XX : Option Addr) (nx cx : Nat) (h : QW w g1 A1 n1 c1 S1 m1 d1 j1 B1 o1 e1 k1 s1 v1 y1 t1 kk ss vv W) (h4 : R4 w p q r s #[.int .u8 g1, .slice A1 n1 c1, .slice S1 m1 d1, .bool j1, .slice B1 o1 e1, .int .u8 k1, .int .i64 s1, .int .i64 v1, .bool y1, .int .u8 t1].toList W) :
    S4 w g1 A1 n1 c1 S1 m1 d1 j1 B1 o1 e1 k1 s1 v1 y1 t1 kk ss vv SS mm dd XX nx cx p q r s (((((((W.setCell ⟨p, 5, none⟩ (.int .u8 kk)).setCell ⟨p, 6, none⟩ (.int .i64 ss)).setCell ⟨p, 7, none⟩ (.int .i64 vv)).setCell ⟨q, 2, none⟩ (.slice SS mm dd)).setCell ⟨r, 4, none⟩ (.slice XX nx cx)).setCell ⟨s, 1, none⟩ (.slice XX nx cx)).setCell ⟨s, 0, none⟩ (.int .u8 4)) := by
  obtain ⟨r1, r2, r3, r4, n1', n2, n3, n4, n5, n6⟩ := h4
  have l1 := r1.lt.1
  have l2 := r2.lt.1
  have l3 := r3.lt.1
  have l4 := r4.lt.1
  -- p, 5
  have q1 := h.set (j := 5) l1 (.int .u8 kk)
  have a2 := r2.far r1 n1'.symm 5 (.int .u8 kk)
  have a3 := r3.far r1 n2.symm 5 (.int .u8 kk)
  have a4 := r4.far r1 n3.symm 5 (.int .u8 kk)
  have a1 := r1.put 5 (.int .u8 kk)
  have q2 := q1.set (j := 6) l1 (.int .i64 ss)
  have b2 := a2.far a1 n1'.symm 6 (.int .i64 ss)
  have b3 := a3.far a1 n2.symm 6 (.int .i64 ss)
  have b4 := a4.far a1 n3.symm 6 (.int .i64 ss)
  have b1 := a1.put 6 (.int .i64 ss)
  have q3 := q2.set (j := 7) l1 (.int .i64 vv)
  have c2 := b2.far b1 n1'.symm 7 (.int .i64 vv)
  have c3 := b3.far b1 n2.symm 7 (.int .i64 vv)
  have c4 := b4.far b1 n3.symm 7 (.int .i64 vv)
  have c1' := b1.put 7 (.int .i64 vv)
  have q4 := q3.set (j := 2) l2 (.slice SS mm dd)
  have d1' := c1'.far c2 n1' 2 (.slice SS mm dd)
  have d3 := c3.far c2 n4.symm 2 (.slice SS mm dd)
  have d4 := c4.far c2 n5.symm 2 (.slice SS mm dd)
  have d2 := c2.put 2 (.slice SS mm dd)
  have q5 := q4.set (j := 4) l3 (.slice XX nx cx)
  have e1' := d1'.far d3 n2 4 (.slice XX nx cx)
  have e2 := d2.far d3 n4 4 (.slice XX nx cx)
  have e4 := d4.far d3 n6.symm 4 (.slice XX nx cx)
  have e3 := d3.put 4 (.slice XX nx cx)
  have q6 := q5.set (j := 1) l4 (.slice XX nx cx)
  have f1 := e1'.far e4 n3 1 (.slice XX nx cx)
  have f2 := e2.far e4 n5 1 (.slice XX nx cx)
  have f3 := e3.far e4 n6 1 (.slice XX nx cx)
  have f4 := e4.put 1 (.slice XX nx cx)
  have q7 := q6.set (j := 0) l4 (.int .u8 4)
  have g1' := f1.far f4 n3 0 (.int .u8 4)
  have g2 := f2.far f4 n5 0 (.int .u8 4)
  have g3 := f3.far f4 n6 0 (.int .u8 4)
  have g4 := f4.put 0 (.int .u8 4)
  exact ⟨q7, qx_of _ _ _ _ _ _ _ _ _ _ _ _ _ _ _ _ q7.bl g1', qx_of _ _ _ _ _ _ _ _ _ _ _ _ _ _ _ _ q7.bl g2, qx_of _ _ _ _ _ _ _ _ _ _ _ _ _ _ _ _ q7.bl g3, qx_of _ _ _ _ _ _ _ _ _ _ _ _ _ _ _ _ q7.bl g4⟩
set_option maxHeartbeats 2000000 in
theorem lr_g (g1 : Int) (A1 : Option Addr) (n1 c1 : Nat) (S1 : Option Addr) (m1 d1 : Nat) (j1 : Bool) (B1 : Option Addr) (o1 e1 : Nat) (k1 s1 v1 : Int) (y1 : Bool) (t1 : Int) (L1 M1 : List Nd) (l1 : List Int) (kk ss vv : Int) (SS : Option Addr) (mm dd : Nat) (ll : List Int) (XX : Option Addr) (nx cx : Nat) (LX : List Nd) (w : World) (h : QA w A1 n1 S1 m1 B1 o1 L1 M1 l1) (hg1 : greatQ n1 o1 m1 = true) :
    Calls Try.prog 4 #[.agg #[.int .u8 g1, .slice A1 n1 c1, .slice S1 m1 d1, .bool j1, .slice B1 o1 e1, .int .u8 k1, .int .i64 s1, .int .i64 v1, .bool y1, .int .u8 t1], .agg #[.int .u8 kk, .int .i64 ss, .int .i64 vv], .slice SS mm dd, .slice XX nx cx] w fun e w' => e = .returned (.bool true) ∧ Below w.heap.size w w' := by
  have HG1 := Lib.hid (fun W => rgreat_any g1 A1 n1 c1 S1 m1 d1 j1 B1 o1 e1 k1 s1 v1 y1 t1 W true hg1)
  clear hg1
  have b0 := fun t t' => QW.new w g1 A1 n1 c1 S1 m1 d1 j1 B1 o1 e1 k1 s1 v1 y1 t1 kk ss vv t t'
  clear h
  go_enter Try.func4, Try.ntmps4
  go_wp2_with (first
    | (go_at_call 7; ((with_reducible refine (HG1.out _).mono ?_); rintro e w1 ⟨rfl, hb⟩; have b1 := (b0 _ _).step hb; clear hb b0; obtain ⟨xx1, xx1_0, xx1_1, xx1_2, xx1_3, xx1_4, xx1_5, xx1_6, xx1_7, xx1_8, xx1_9⟩ := b1.1.cells; obtain ⟨yy1, yy1_0, yy1_1, yy1_2⟩ := b1.2.2))
    | (go_at_call 15; refine (alive_any _).mono ?_; rintro e wz ⟨rfl, hb⟩))
  go_ret
  exact ⟨rfl, (b1.step hb).bl⟩
set_option maxHeartbeats 2000000 in
theorem lr_j (g1 : Int) (A1 : Option Addr) (n1 c1 : Nat) (S1 : Option Addr) (m1 d1 : Nat) (j1 : Bool) (B1 : Option Addr) (o1 e1 : Nat) (k1 s1 v1 : Int) (y1 : Bool) (t1 : Int) (L1 M1 : List Nd) (l1 : List Int) (kk ss vv : Int) (SS : Option Addr) (mm dd : Nat) (ll : List Int) (XX : Option Addr) (nx cx : Nat) (LX : List Nd) (w : World) (h : QA w A1 n1 S1 m1 B1 o1 L1 M1 l1) (hg1 : greatQ n1 o1 m1 = false) (hj : j1 = true) :
    Calls Try.prog 4 #[.agg #[.int .u8 g1, .slice A1 n1 c1, .slice S1 m1 d1, .bool j1, .slice B1 o1 e1, .int .u8 k1, .int .i64 s1, .int .i64 v1, .bool y1, .int .u8 t1], .agg #[.int .u8 kk, .int .i64 ss, .int .i64 vv], .slice SS mm dd, .slice XX nx cx] w fun e w' => e = .returned (.bool true) ∧ Below w.heap.size w w' := by
  have HG1 := Lib.hid (fun W => rgreat_any g1 A1 n1 c1 S1 m1 d1 j1 B1 o1 e1 k1 s1 v1 y1 t1 W false hg1)
  clear hg1
  have b0 := fun t t' => QW.new w g1 A1 n1 c1 S1 m1 d1 j1 B1 o1 e1 k1 s1 v1 y1 t1 kk ss vv t t'
  clear h
  subst hj
  go_enter Try.func4, Try.ntmps4
  go_wp2_with (first
    | (go_at_call 7; ((with_reducible refine (HG1.out _).mono ?_); rintro e w1 ⟨rfl, hb⟩; have b1 := (b0 _ _).step hb; clear hb b0; obtain ⟨xx1, xx1_0, xx1_1, xx1_2, xx1_3, xx1_4, xx1_5, xx1_6, xx1_7, xx1_8, xx1_9⟩ := b1.1.cells; obtain ⟨yy1, yy1_0, yy1_1, yy1_2⟩ := b1.2.2))
    | (go_at_call 15; refine (alive_any _).mono ?_; rintro e wz ⟨rfl, hb⟩))
  go_ret
  exact ⟨rfl, (b1.step hb).bl⟩
set_option maxHeartbeats 2000000 in
theorem lr_c (g1 : Int) (A1 : Option Addr) (n1 c1 : Nat) (S1 : Option Addr) (m1 d1 : Nat) (j1 : Bool) (B1 : Option Addr) (o1 e1 : Nat) (k1 s1 v1 : Int) (y1 : Bool) (t1 : Int) (L1 M1 : List Nd) (l1 : List Int) (kk ss vv : Int) (SS : Option Addr) (mm dd : Nat) (ll : List Int) (XX : Option Addr) (nx cx : Nat) (LX : List Nd) (w : World) (h : QA w A1 n1 S1 m1 B1 o1 L1 M1 l1) (hg1 : greatQ n1 o1 m1 = false) (hj : j1 = false) (x : Int) (hc1 : chkF ⟨g1, L1, l1, j1, M1, k1, s1, v1, y1, t1⟩ = x) (h0 : x ≠ 0) :
    Calls Try.prog 4 #[.agg #[.int .u8 g1, .slice A1 n1 c1, .slice S1 m1 d1, .bool j1, .slice B1 o1 e1, .int .u8 k1, .int .i64 s1, .int .i64 v1, .bool y1, .int .u8 t1], .agg #[.int .u8 kk, .int .i64 ss, .int .i64 vv], .slice SS mm dd, .slice XX nx cx] w fun e w' => e = .returned (.bool true) ∧ Below w.heap.size w w' := by
  have HG1 := Lib.hid (fun W => rgreat_any g1 A1 n1 c1 S1 m1 d1 j1 B1 o1 e1 k1 s1 v1 y1 t1 W false hg1)
  have HC1 := Lib.hid (fun W (hb : Bl w W) => rchk_any g1 A1 n1 c1 S1 m1 d1 j1 B1 o1 e1 k1 s1 v1 y1 t1 L1 M1 l1 W (h.step hb) x hc1)
  have i0 := errno_ne h0
  clear hg1 hc1 h0
  have b0 := fun t t' => QW.new w g1 A1 n1 c1 S1 m1 d1 j1 B1 o1 e1 k1 s1 v1 y1 t1 kk ss vv t t'
  clear h
  subst hj
  go_enter Try.func4, Try.ntmps4
  go_wp2_with (first
    | (go_at_call 7; ((with_reducible refine (HG1.out _).mono ?_); rintro e w1 ⟨rfl, hb⟩; have b1 := (b0 _ _).step hb; clear hb b0; obtain ⟨xx1, xx1_0, xx1_1, xx1_2, xx1_3, xx1_4, xx1_5, xx1_6, xx1_7, xx1_8, xx1_9⟩ := b1.1.cells; obtain ⟨yy1, yy1_0, yy1_1, yy1_2⟩ := b1.2.2))
    | (go_at_call 12; ((with_reducible refine (HC1.out _ b1.bl).mono ?_); rintro e w2 ⟨rfl, hb⟩; have b2 := b1.step hb; clear hb b1; obtain ⟨xx2, xx2_0, xx2_1, xx2_2, xx2_3, xx2_4, xx2_5, xx2_6, xx2_7, xx2_8, xx2_9⟩ := b2.1.cells; obtain ⟨yy2, yy2_0, yy2_1, yy2_2⟩ := b2.2.2))
    | (go_at_call 15; refine (alive_any _).mono ?_; rintro e wz ⟨rfl, hb⟩))
  go_ret
  exact ⟨rfl, (b2.step hb).bl⟩
set_option maxHeartbeats 2000000 in
theorem lr_l (g1 : Int) (A1 : Option Addr) (n1 c1 : Nat) (S1 : Option Addr) (m1 d1 : Nat) (j1 : Bool) (B1 : Option Addr) (o1 e1 : Nat) (k1 s1 v1 : Int) (y1 : Bool) (t1 : Int) (L1 M1 : List Nd) (l1 : List Int) (kk ss vv : Int) (SS : Option Addr) (mm dd : Nat) (ll : List Int) (XX : Option Addr) (nx cx : Nat) (LX : List Nd) (w : World) (h : QA w A1 n1 S1 m1 B1 o1 L1 M1 l1) (hg1 : greatQ n1 o1 m1 = false) (hj : j1 = false) (hc1 : chkF ⟨g1, L1, l1, j1, M1, k1, s1, v1, y1, t1⟩ = 0) (hm : 10 < mm) :
    Calls Try.prog 4 #[.agg #[.int .u8 g1, .slice A1 n1 c1, .slice S1 m1 d1, .bool j1, .slice B1 o1 e1, .int .u8 k1, .int .i64 s1, .int .i64 v1, .bool y1, .int .u8 t1], .agg #[.int .u8 kk, .int .i64 ss, .int .i64 vv], .slice SS mm dd, .slice XX nx cx] w fun e w' => e = .returned (.bool true) ∧ Below w.heap.size w w' := by
  have HG1 := Lib.hid (fun W => rgreat_any g1 A1 n1 c1 S1 m1 d1 j1 B1 o1 e1 k1 s1 v1 y1 t1 W false hg1)
  have HC1 := Lib.hid (fun W (hb : Bl w W) => rchk_any g1 A1 n1 c1 S1 m1 d1 j1 B1 o1 e1 k1 s1 v1 y1 t1 L1 M1 l1 W (h.step hb) 0 hc1)
  have i0 : (10 : Int) < mm := by omega
  clear hg1 hc1 hm
  have b0 := fun t t' => QW.new w g1 A1 n1 c1 S1 m1 d1 j1 B1 o1 e1 k1 s1 v1 y1 t1 kk ss vv t t'
  clear h
  subst hj
  go_enter Try.func4, Try.ntmps4
  go_wp2_with (first
    | (go_at_call 7; ((with_reducible refine (HG1.out _).mono ?_); rintro e w1 ⟨rfl, hb⟩; have b1 := (b0 _ _).step hb; clear hb b0; obtain ⟨xx1, xx1_0, xx1_1, xx1_2, xx1_3, xx1_4, xx1_5, xx1_6, xx1_7, xx1_8, xx1_9⟩ := b1.1.cells; obtain ⟨yy1, yy1_0, yy1_1, yy1_2⟩ := b1.2.2))
    | (go_at_call 12; ((with_reducible refine (HC1.out _ b1.bl).mono ?_); rintro e w2 ⟨rfl, hb⟩; have b2 := b1.step hb; clear hb b1; obtain ⟨xx2, xx2_0, xx2_1, xx2_2, xx2_3, xx2_4, xx2_5, xx2_6, xx2_7, xx2_8, xx2_9⟩ := b2.1.cells; obtain ⟨yy2, yy2_0, yy2_1, yy2_2⟩ := b2.2.2))
    | (go_at_call 15; refine (alive_any _).mono ?_; rintro e wz ⟨rfl, hb⟩))
  go_ret
  exact ⟨rfl, (b2.step hb).bl⟩
set_option maxHeartbeats 2000000 in
theorem lr_x (g1 : Int) (A1 : Option Addr) (n1 c1 : Nat) (S1 : Option Addr) (m1 d1 : Nat) (j1 : Bool) (B1 : Option Addr) (o1 e1 : Nat) (k1 s1 v1 : Int) (y1 : Bool) (t1 : Int) (L1 M1 : List Nd) (l1 : List Int) (kk ss vv : Int) (SS : Option Addr) (mm dd : Nat) (ll : List Int) (XX : Option Addr) (nx cx : Nat) (LX : List Nd) (w : World) (h : QA w A1 n1 S1 m1 B1 o1 L1 M1 l1) (hg1 : greatQ n1 o1 m1 = false) (hj : j1 = false) (hc1 : chkF ⟨g1, L1, l1, j1, M1, k1, s1, v1, y1, t1⟩ = 0) (hm : mm ≤ 10) (hx : 70 < nx) :
    Calls Try.prog 4 #[.agg #[.int .u8 g1, .slice A1 n1 c1, .slice S1 m1 d1, .bool j1, .slice B1 o1 e1, .int .u8 k1, .int .i64 s1, .int .i64 v1, .bool y1, .int .u8 t1], .agg #[.int .u8 kk, .int .i64 ss, .int .i64 vv], .slice SS mm dd, .slice XX nx cx] w fun e w' => e = .returned (.bool true) ∧ Below w.heap.size w w' := by
  have HG1 := Lib.hid (fun W => rgreat_any g1 A1 n1 c1 S1 m1 d1 j1 B1 o1 e1 k1 s1 v1 y1 t1 W false hg1)
  have HC1 := Lib.hid (fun W (hb : Bl w W) => rchk_any g1 A1 n1 c1 S1 m1 d1 j1 B1 o1 e1 k1 s1 v1 y1 t1 L1 M1 l1 W (h.step hb) 0 hc1)
  have HGX := Lib.hid (fun W => great_any XX nx cx W true (by simpa using hx))
  have i0 : ¬ ((10 : Int) < mm) := by omega
  clear hg1 hc1 hm hx
  have b0 := fun t t' => QW.new w g1 A1 n1 c1 S1 m1 d1 j1 B1 o1 e1 k1 s1 v1 y1 t1 kk ss vv t t'
  clear h
  subst hj
  go_enter Try.func4, Try.ntmps4
  go_wp2_with (first
    | (go_at_call 7; ((with_reducible refine (HG1.out _).mono ?_); rintro e w1 ⟨rfl, hb⟩; have b1 := (b0 _ _).step hb; clear hb b0; obtain ⟨xx1, xx1_0, xx1_1, xx1_2, xx1_3, xx1_4, xx1_5, xx1_6, xx1_7, xx1_8, xx1_9⟩ := b1.1.cells; obtain ⟨yy1, yy1_0, yy1_1, yy1_2⟩ := b1.2.2))
    | (go_at_call 12; ((with_reducible refine (HC1.out _ b1.bl).mono ?_); rintro e w2 ⟨rfl, hb⟩; have b2 := b1.step hb; clear hb b1; obtain ⟨xx2, xx2_0, xx2_1, xx2_2, xx2_3, xx2_4, xx2_5, xx2_6, xx2_7, xx2_8, xx2_9⟩ := b2.1.cells; obtain ⟨yy2, yy2_0, yy2_1, yy2_2⟩ := b2.2.2))
    | (go_at_call 14; ((with_reducible refine (HGX.out _).mono ?_); rintro e wx ⟨rfl, rfl⟩))
    | (go_at_call 15; refine (alive_any _).mono ?_; rintro e wz ⟨rfl, hb⟩))
  go_ret
  exact ⟨rfl, (b2.step hb).bl⟩
set_option maxHeartbeats 40000000 in
theorem lr_main_any (g1 : Int) (A1 : Option Addr) (n1 c1 : Nat) (S1 : Option Addr) (m1 d1 : Nat) (j1 : Bool) (B1 : Option Addr) (o1 e1 : Nat) (k1 s1 v1 : Int) (y1 : Bool) (t1 : Int) (L1 M1 : List Nd) (l1 : List Int) (kk ss vv : Int) (SS : Option Addr) (mm dd : Nat) (ll : List Int) (XX : Option Addr) (nx cx : Nat) (LX : List Nd) (w : World) (h : QA w A1 n1 S1 m1 B1 o1 L1 M1 l1) (hX : Lies w XX (ndCells LX)) (hnX : LX.length = nx) (hSl : Lies w SS (iC ll)) (hnS : ll.length = mm) (hss : ss ≤ 9223372036854775807) (hg1 : greatQ n1 o1 m1 = false) (hj : j1 = false) (hs1 : s1 ≤ 9223372036854775807) (hc1 : chkF ⟨g1, L1, l1, j1, M1, k1, s1, v1, y1, t1⟩ = 0) (hm : mm ≤ 10) (hx : nx ≤ 70)  :
    Calls Try.prog 4 #[.agg #[.int .u8 g1, .slice A1 n1 c1, .slice S1 m1 d1, .bool j1, .slice B1 o1 e1, .int .u8 k1, .int .i64 s1, .int .i64 v1, .bool y1, .int .u8 t1], .agg #[.int .u8 kk, .int .i64 ss, .int .i64 vv], .slice SS mm dd, .slice XX nx cx] w fun e w' => e = .returned (.bool true) ∧ Below w.heap.size w w' := by
  subst hj
  have HG1 := Lib.hid (fun W => rgreat_any g1 A1 n1 c1 S1 m1 d1 false B1 o1 e1 k1 s1 v1 y1 t1 W false hg1)
  have HC1 := Lib.hid (fun W (hb : Bl w W) => rchk_any g1 A1 n1 c1 S1 m1 d1 false B1 o1 e1 k1 s1 v1 y1 t1 L1 M1 l1 W (h.step hb) 0 hc1)
  have HGX := Lib.hid (fun W => great_any XX nx cx W false (decide_eq_false (by omega)))
  have i0 : ¬ ((10 : Int) < mm) := by omega
  have HCQ := Lib.hid (fun W (hb : Bl w W) => chk_any g1 A1 n1 c1 S1 m1 d1 false B1 o1 e1 k1 s1 v1 y1 t1 L1 M1 l1 W (h.step hb) hs1 0 hc1)
  have HXC := Lib.hid (fun W (hb : Bl w W) => show Calls Try.prog 16 #[.slice XX nx cx] W fun e w' => e = .returned (.int .i64 (checkF LX)) ∧ Below W.heap.size W w' by have := check_any XX cx LX W (by rw [hnX]; unfold maxLen; omega) (hb.lies hX) _ rfl; rwa [hnX] at this)
  have HCa := Lib.hid (fun W (hb : Bl w W) => chk_any g1 A1 n1 c1 S1 m1 d1 false B1 o1 e1 kk ss vv y1 t1 L1 M1 l1 W (h.step hb) hss _ (chk_a kk ss vv hc1))
  have HWn := Lib.hid (fun W => win_any kk ss vv W hss _ rfl)
  have HCb := Lib.hid (fun W (hb : Bl w W) => chk_any g1 A1 n1 c1 SS mm dd false B1 o1 e1 k1 s1 v1 y1 t1 L1 M1 ll W ⟨(h.step hb).1, ⟨hb.lies hSl, hnS⟩, (h.step hb).2.2⟩ hs1 _ (chk_b ll hc1))
  have HSr := Lib.hid (fun W (hb : Bl w W) => src_any SS dd mm ll false W hnS (hb.lies hSl) _ rfl)
  have HCd := Lib.hid (fun W (hb : Bl w W) => chk_any 4 XX nx cx S1 m1 d1 false B1 o1 e1 k1 s1 v1 y1 t1 LX M1 l1 W ⟨⟨hb.lies hX, hnX, by unfold maxLen; omega⟩, (h.step hb).2.1, (h.step hb).2.2⟩ hs1 _ (chk_d LX hc1))
  have HCc := Lib.hid (fun W (hb : Bl w W) => chk_any g1 A1 n1 c1 S1 m1 d1 false XX nx cx k1 s1 v1 y1 t1 L1 LX l1 W ⟨(h.step hb).1, (h.step hb).2.1, ⟨hb.lies hX, hnX, by unfold maxLen; omega⟩⟩ hs1 _ (chk_c LX hc1))
  have HWZ := Lib.hid (show (nx = 0 → whrE LX = 0) ∧ (nx ≠ 0 → whrE LX = checkF LX) from ⟨fun hz => by unfold whrE; rw [hnX, if_pos hz], fun hz => by unfold whrE; rw [hnX, if_neg hz]⟩)
  generalize winE kk ss vv = za at HCa HWn
  generalize srcF ll false = zb at HCb HSr
  generalize checkF LX = z at HXC HCd HWZ
  generalize whrE LX = zc at HCc HWZ
  have b0 := fun t t' => QW.new w g1 A1 n1 c1 S1 m1 d1 false B1 o1 e1 k1 s1 v1 y1 t1 kk ss vv t t'
  clear h hg1 hc1 hm hX hSl hnS hss hs1
  clear hnX
  go_enter Try.func4, Try.ntmps4
  go_upto_region 5 with (first
    | (go_at_call 7; ((with_reducible refine (HG1.out _).mono ?_); rintro e w1 ⟨rfl, hb⟩; have b1 := (b0 _ _).step hb; clear hb b0; obtain ⟨xx1, xx1_0, xx1_1, xx1_2, xx1_3, xx1_4, xx1_5, xx1_6, xx1_7, xx1_8, xx1_9⟩ := b1.1.cells; obtain ⟨yy1, yy1_0, yy1_1, yy1_2⟩ := b1.2.2))
    | (go_at_call 12; ((with_reducible refine (HC1.out _ b1.bl).mono ?_); rintro e w2 ⟨rfl, hb⟩; have b2 := b1.step hb; clear hb b1; obtain ⟨xx2, xx2_0, xx2_1, xx2_2, xx2_3, xx2_4, xx2_5, xx2_6, xx2_7, xx2_8, xx2_9⟩ := b2.1.cells; obtain ⟨yy2, yy2_0, yy2_1, yy2_2⟩ := b2.2.2))
    | (go_at_call 14; ((with_reducible refine (HGX.out _).mono ?_); rintro e wx ⟨rfl, rfl⟩))
    | (go_at_call 11; ((with_reducible refine (HCQ.out _ b2.bl).mono ?_); rintro e w3 ⟨rfl, hb⟩; have b3 := b2.step hb; clear hb b2; obtain ⟨xx3, xx3_0, xx3_1, xx3_2, xx3_3, xx3_4, xx3_5, xx3_6, xx3_7, xx3_8, xx3_9⟩ := b3.1.cells; obtain ⟨yy3, yy3_0, yy3_1, yy3_2⟩ := b3.2.2)))
  have hz3 : w.heap.size + 1 < w3.heap.size := b3.2.2.1
  have B3 := Lib.hid b3
  clear b3
  have HC3 := Lib.hid (show w3.cell? ⟨w.heap.size, 0, none⟩ = some (.int .u8 g1) ∧ w3.cell? ⟨w.heap.size, 1, none⟩ = some (.slice A1 n1 c1) ∧ w3.cell? ⟨w.heap.size, 2, none⟩ = some (.slice S1 m1 d1) ∧ w3.cell? ⟨w.heap.size, 3, none⟩ = some (.bool false) ∧ w3.cell? ⟨w.heap.size, 4, none⟩ = some (.slice B1 o1 e1) ∧ w3.cell? ⟨w.heap.size, 5, none⟩ = some (.int .u8 k1) ∧ w3.cell? ⟨w.heap.size, 6, none⟩ = some (.int .i64 s1) ∧ w3.cell? ⟨w.heap.size, 7, none⟩ = some (.int .i64 v1) ∧ w3.cell? ⟨w.heap.size, 8, none⟩ = some (.bool y1) ∧ w3.cell? ⟨w.heap.size, 9, none⟩ = some (.int .u8 t1) from B3.out.1.2.2)
  go_cut [9, 10, 11, 12] (fun s9 s10 s11 s12 W => ∃ b9 b10 b11 b12 : Nat, s9 = .pointer (some ⟨b9, 0, none⟩) ∧ s10 = .pointer (some ⟨b10, 0, none⟩) ∧ s11 = .pointer (some ⟨b11, 0, none⟩) ∧ s12 = .pointer (some ⟨b12, 0, none⟩) ∧ Hid (QW w g1 A1 n1 c1 S1 m1 d1 false B1 o1 e1 k1 s1 v1 y1 t1 kk ss vv W ∧ R4 w b9 b10 b11 b12 [.int .u8 g1, .slice A1 n1 c1, .slice S1 m1 d1, .bool false, .slice B1 o1 e1, .int .u8 k1, .int .i64 s1, .int .i64 v1, .bool y1, .int .u8 t1] W))
  case first =>
    go_region_held3 (fun w' => w'.cell? ⟨w.heap.size, 0, none⟩ = some (.int .u8 g1) ∧ w'.cell? ⟨w.heap.size, 1, none⟩ = some (.slice A1 n1 c1) ∧ w'.cell? ⟨w.heap.size, 2, none⟩ = some (.slice S1 m1 d1) ∧ w'.cell? ⟨w.heap.size, 3, none⟩ = some (.bool false) ∧ w'.cell? ⟨w.heap.size, 4, none⟩ = some (.slice B1 o1 e1) ∧ w'.cell? ⟨w.heap.size, 5, none⟩ = some (.int .u8 k1) ∧ w'.cell? ⟨w.heap.size, 6, none⟩ = some (.int .i64 s1) ∧ w'.cell? ⟨w.heap.size, 7, none⟩ = some (.int .i64 v1) ∧ w'.cell? ⟨w.heap.size, 8, none⟩ = some (.bool y1) ∧ w'.cell? ⟨w.heap.size, 9, none⟩ = some (.int .u8 t1)) ((first | assumption | (simp [*]; done) | ((repeat (first | exact HC3.out | refine c10_drew ?_ | refine c10_al ?_ (by (try simp); omega) _ | refine c10_set ?_ (by (try simp); omega) _ _)); done))) (fail)
    all_goals
      go_wp2_with fail
      go_meet
      obtain ⟨h0, h1, h2, h3⟩ := rows4 w w3 #[.int .u8 g1, .slice A1 n1 c1, .slice S1 m1 d1, .bool false, .slice B1 o1 e1, .int .u8 k1, .int .i64 s1, .int .i64 v1, .bool y1, .int .u8 t1] rfl (by omega) _ rfl
      exact ⟨_, _, _, _, rfl, rfl, rfl, rfl, (B3.out.step (((((Below.refl _ _).alloc (Nat.le_refl _) _).alloc (by simp <;> omega) _).alloc (by simp <;> omega) _).alloc (by simp <;> omega) _)).step (bd_drewN _ 1), (by assumption), (by assumption), (by assumption), (by assumption), by omega, by omega, by omega, by omega, by omega, by omega⟩
  case rest =>
    by_cases hz : nx = 0
    · have hzz := HWZ.out.1 hz
      subst hzz
      subst hz
      clear HWZ
      obtain ⟨b9, b10, b11, b12, rfl, rfl, rfl, rfl, H⟩ := hcut
      obtain ⟨yw, yw0, yw1, yw2⟩ := H.out.1.2.2
      have q9 := H.out.2.1
      have q10 := H.out.2.2.1
      have q11 := H.out.2.2.2.1
      have q12 := H.out.2.2.2.2.1
      have u5 := World.ownsRow.cellAt q9 5 (by decide)
      have u6 := World.ownsRow.cellAt q9 6 (by decide)
      have u7 := World.ownsRow.cellAt q9 7 (by decide)
      have v5 := World.ownsRow.frozenAt q9 5
      have v6 := World.ownsRow.frozenAt q9 6
      have v7 := World.ownsRow.frozenAt q9 7
      have u2 := World.ownsRow.cellAt q10 2 (by decide)
      have v2 := World.ownsRow.frozenAt q10 2
      have u4 := World.ownsRow.cellAt q11 4 (by decide)
      have v4 := World.ownsRow.frozenAt q11 4
      have u1 := World.ownsRow.cellAt q12 1 (by decide)
      have vv1 := World.ownsRow.frozenAt q12 1
      have u0 := World.ownsRow.cellAt q12 0 (by decide)
      have v0 := World.ownsRow.frozenAt q12 0
      simp only [List.getElem?_cons_succ, List.getElem?_cons_zero] at u5 u6 u7 u2 u4 u1 u0
      have ST := Lib.hid (s4_of g1 A1 n1 c1 S1 m1 d1 false B1 o1 e1 k1 s1 v1 y1 t1 SS mm dd XX 0 cx H.out.1 H.out.2)
      have hne1 := H.out.2.2.2.2.2.1
      have hne2 := H.out.2.2.2.2.2.2.1
      have hne3 := H.out.2.2.2.2.2.2.2.1
      have hne4 := H.out.2.2.2.2.2.2.2.2.1
      have hne5 := H.out.2.2.2.2.2.2.2.2.2.1
      have hne6 := H.out.2.2.2.2.2.2.2.2.2.2
      have k9 := (RQ.lt q9).1
      have k10 := (RQ.lt q10).1
      have k11 := (RQ.lt q11).1
      have k12 := (RQ.lt q12).1
      have m9 : b9 ≠ w.heap.size + 1 := by omega
      have m10 : b10 ≠ w.heap.size + 1 := by omega
      clear q9 q10 q11 q12
      go_wp2_with (go_at_call 16; (with_reducible refine (HXC.out _ ST.out.bl).mono ?_); rintro e w5 ⟨rfl, hb⟩; have S5 := Lib.hid (ST.out.step hb); clear hb ST)
      refine wp_region_pre (S := S4 w g1 A1 n1 c1 S1 m1 d1 false B1 o1 e1 k1 s1 v1 y1 t1 kk ss vv SS mm dd XX 0 cx b9 b10 b11 b12) 0 (by kernel_rfl) (S5.out.step (bd_drewN _ 1)) ?_
      refine Pre.pure (i := 0) (d := 53) (v := ?v1) rfl rfl (by rfl) ?yy1 ?zz1
      case yy1 => (intro w' hSw; (try unfold S4 QW WX QX at hSw); go_split_ands; go_simp; try with_reducible rfl)
      try simp only [Act.put, List.setIfInBounds_toArray, List.set_cons_zero, List.set_cons_succ]
      refine Pre.call (i := 1) (d := 54) (v := .int .i64 za) (f := ?f2) (args := ?a2) rfl rfl (by rfl) ?yy2 ?cc2 ?zz2
      case yy2 => (intro w' hSw; (try unfold S4 QW WX QX at hSw); go_split_ands; go_simp; refine ⟨?_, ?_⟩ <;> with_reducible rfl)
      case cc2 => (intro w' hSw; exact (HCa.out _ hSw.bl).mono (fun e w2 hh => ⟨hh.1, hSw.step hh.2⟩))
      try simp only [Act.put, List.setIfInBounds_toArray, List.set_cons_zero, List.set_cons_succ]
      refine Pre.pure (i := 2) (d := 55) (v := ?v3) rfl rfl (by rfl) ?yy3 ?zz3
      case yy3 => (intro w' hSw; (try unfold S4 QW WX QX at hSw); go_split_ands; go_simp; try with_reducible rfl)
      try simp only [Act.put, List.setIfInBounds_toArray, List.set_cons_zero, List.set_cons_succ]
      refine Pre.call (i := 3) (d := 56) (v := .int .i64 za) (f := ?f4) (args := ?a4) rfl rfl (by rfl) ?yy4 ?cc4 ?zz4
      case yy4 => (intro w' hSw; (try unfold S4 QW WX QX at hSw); go_split_ands; go_simp; refine ⟨?_, ?_⟩ <;> with_reducible rfl)
      case cc4 => (intro w' hSw; exact (HWn.out _).mono (fun e w2 hh => ⟨hh.1, hSw.step hh.2⟩))
      try simp only [Act.put, List.setIfInBounds_toArray, List.set_cons_zero, List.set_cons_succ]
      refine Pre.pure (i := 4) (d := 57) (v := ?v5) rfl rfl (by rfl) ?yy5 ?zz5
      case yy5 => (intro w' hSw; (try unfold S4 QW WX QX at hSw); go_split_ands; go_simp; try with_reducible rfl)
      try simp only [Act.put, List.setIfInBounds_toArray, List.set_cons_zero, List.set_cons_succ]
      refine Pre.pure (i := 5) (d := 58) (v := ?v6) rfl rfl (by rfl) ?yy6 ?zz6
      case yy6 => (intro w' hSw; (try unfold S4 QW WX QX at hSw); go_split_ands; go_simp; try with_reducible rfl)
      try simp only [Act.put, List.setIfInBounds_toArray, List.set_cons_zero, List.set_cons_succ]
      refine Pre.pure (i := 6) (d := 59) (v := ?v7) rfl rfl (by rfl) ?yy7 ?zz7
      case yy7 => (intro w' hSw; (try unfold S4 QW WX QX at hSw); go_split_ands; go_simp; try with_reducible rfl)
      try simp only [Act.put, List.setIfInBounds_toArray, List.set_cons_zero, List.set_cons_succ]
      refine Pre.call (i := 7) (d := 60) (v := .int .i64 zb) (f := ?f8) (args := ?a8) rfl rfl (by rfl) ?yy8 ?cc8 ?zz8
      case yy8 => (intro w' hSw; (try unfold S4 QW WX QX at hSw); go_split_ands; go_simp; refine ⟨?_, ?_⟩ <;> with_reducible rfl)
      case cc8 => (intro w' hSw; exact (HCb.out _ hSw.bl).mono (fun e w2 hh => ⟨hh.1, hSw.step hh.2⟩))
      try simp only [Act.put, List.setIfInBounds_toArray, List.set_cons_zero, List.set_cons_succ]
      refine Pre.pure (i := 8) (d := 61) (v := ?v9) rfl rfl (by rfl) ?yy9 ?zz9
      case yy9 => (intro w' hSw; (try unfold S4 QW WX QX at hSw); go_split_ands; go_simp; try with_reducible rfl)
      try simp only [Act.put, List.setIfInBounds_toArray, List.set_cons_zero, List.set_cons_succ]
      refine Pre.call (i := 9) (d := 62) (v := .int .i64 zb) (f := ?f10) (args := ?a10) rfl rfl (by rfl) ?yy10 ?cc10 ?zz10
      case yy10 => (intro w' hSw; (try unfold S4 QW WX QX at hSw); go_split_ands; go_simp; refine ⟨?_, ?_⟩ <;> with_reducible rfl)
      case cc10 => (intro w' hSw; exact (HSr.out _ hSw.bl).mono (fun e w2 hh => ⟨hh.1, hSw.step hh.2⟩))
      try simp only [Act.put, List.setIfInBounds_toArray, List.set_cons_zero, List.set_cons_succ]
      refine Pre.pure (i := 10) (d := 63) (v := ?v11) rfl rfl (by rfl) ?yy11 ?zz11
      case yy11 => (intro w' hSw; (try unfold S4 QW WX QX at hSw); go_split_ands; go_simp; try with_reducible rfl)
      try simp only [Act.put, List.setIfInBounds_toArray, List.set_cons_zero, List.set_cons_succ]
      refine Pre.pure (i := 11) (d := 64) (v := ?v12) rfl rfl (by rfl) ?yy12 ?zz12
      case yy12 => (intro w' hSw; (try unfold S4 QW WX QX at hSw); go_split_ands; go_simp; try with_reducible rfl)
      try simp only [Act.put, List.setIfInBounds_toArray, List.set_cons_zero, List.set_cons_succ]
      refine Pre.pure (i := 12) (d := 65) (v := ?v13) rfl rfl (by rfl) ?yy13 ?zz13
      case yy13 => (intro w' hSw; (try unfold S4 QW WX QX at hSw); go_split_ands; go_simp; try with_reducible rfl)
      try simp only [Act.put, List.setIfInBounds_toArray, List.set_cons_zero, List.set_cons_succ]
      refine Pre.pure (i := 13) (d := 66) (v := ?v14) rfl rfl (by rfl) ?yy14 ?zz14
      case yy14 => (intro w' hSw; (try unfold S4 QW WX QX at hSw); go_split_ands; go_simp; try with_reducible rfl)
      try simp only [Act.put, List.setIfInBounds_toArray, List.set_cons_zero, List.set_cons_succ]
      refine Pre.call (i := 14) (d := 67) (v := .int .i64 z) (f := ?f15) (args := ?a15) rfl rfl (by rfl) ?yy15 ?cc15 ?zz15
      case yy15 => (intro w' hSw; (try unfold S4 QW WX QX at hSw); go_split_ands; go_simp; refine ⟨?_, ?_⟩ <;> with_reducible rfl)
      case cc15 => (intro w' hSw; exact (HCd.out _ hSw.bl).mono (fun e w2 hh => ⟨hh.1, hSw.step hh.2⟩))
      try simp only [Act.put, List.setIfInBounds_toArray, List.set_cons_zero, List.set_cons_succ]
      refine Pre.pure (i := 15) (d := 68) (v := ?v16) rfl rfl (by rfl) ?yy16 ?zz16
      case yy16 => (intro w' hSw; (try unfold S4 QW WX QX at hSw); go_split_ands; go_simp; try with_reducible rfl)
      try simp only [Act.put, List.setIfInBounds_toArray, List.set_cons_zero, List.set_cons_succ]
      refine Pre.pure (i := 16) (d := 69) (v := ?v17) rfl rfl (by rfl) ?yy17 ?zz17
      case yy17 => (intro w' hSw; (try unfold S4 QW WX QX at hSw); go_split_ands; go_simp; try with_reducible rfl)
      try simp only [Act.put, List.setIfInBounds_toArray, List.set_cons_zero, List.set_cons_succ]
      refine Pre.pure (i := 17) (d := 70) (v := ?v18) rfl rfl (by rfl) ?yy18 ?zz18
      case yy18 => (intro w' hSw; (try unfold S4 QW WX QX at hSw); go_split_ands; go_simp; try with_reducible rfl)
      try simp only [Act.put, List.setIfInBounds_toArray, List.set_cons_zero, List.set_cons_succ]
      refine Pre.done (by kernel_rfl) (by kernel_rfl) ?_
      intro W hS
      refine wpAnyH_done (by kernel_rfl) ?_ _
      obtain ⟨xr, xr0, xr1, xr2, xr3, xr4, xr5, xr6, xr7, xr8, xr9⟩ := hS.2.2.2.1.cells
      go_wp2_with (first
      | (go_at_call 11; ((with_reducible refine (HCc.out _ hS.bl).mono ?_); rintro e w7 ⟨rfl, hb⟩; have S7 := hS.step hb; clear hb))
      | (go_at_call 15; refine (alive_any _).mono ?_; rintro e w8 ⟨rfl, hb⟩))
      go_ret
      exact ⟨rfl, S7.bl.step hb⟩
    · have hzz := (HWZ.out.2 hz).symm
      subst hzz
      have i1 : ((nx : Int) == 0) = false := by simpa using hz
      have i2 : (nx == 0) = false := by simpa using hz
      clear hz
      clear HWZ
      obtain ⟨b9, b10, b11, b12, rfl, rfl, rfl, rfl, H⟩ := hcut
      obtain ⟨yw, yw0, yw1, yw2⟩ := H.out.1.2.2
      have q9 := H.out.2.1
      have q10 := H.out.2.2.1
      have q11 := H.out.2.2.2.1
      have q12 := H.out.2.2.2.2.1
      have u5 := World.ownsRow.cellAt q9 5 (by decide)
      have u6 := World.ownsRow.cellAt q9 6 (by decide)
      have u7 := World.ownsRow.cellAt q9 7 (by decide)
      have v5 := World.ownsRow.frozenAt q9 5
      have v6 := World.ownsRow.frozenAt q9 6
      have v7 := World.ownsRow.frozenAt q9 7
      have u2 := World.ownsRow.cellAt q10 2 (by decide)
      have v2 := World.ownsRow.frozenAt q10 2
      have u4 := World.ownsRow.cellAt q11 4 (by decide)
      have v4 := World.ownsRow.frozenAt q11 4
      have u1 := World.ownsRow.cellAt q12 1 (by decide)
      have vv1 := World.ownsRow.frozenAt q12 1
      have u0 := World.ownsRow.cellAt q12 0 (by decide)
      have v0 := World.ownsRow.frozenAt q12 0
      simp only [List.getElem?_cons_succ, List.getElem?_cons_zero] at u5 u6 u7 u2 u4 u1 u0
      have ST := Lib.hid (s4_of g1 A1 n1 c1 S1 m1 d1 false B1 o1 e1 k1 s1 v1 y1 t1 SS mm dd XX nx cx H.out.1 H.out.2)
      have hne1 := H.out.2.2.2.2.2.1
      have hne2 := H.out.2.2.2.2.2.2.1
      have hne3 := H.out.2.2.2.2.2.2.2.1
      have hne4 := H.out.2.2.2.2.2.2.2.2.1
      have hne5 := H.out.2.2.2.2.2.2.2.2.2.1
      have hne6 := H.out.2.2.2.2.2.2.2.2.2.2
      have k9 := (RQ.lt q9).1
      have k10 := (RQ.lt q10).1
      have k11 := (RQ.lt q11).1
      have k12 := (RQ.lt q12).1
      have m9 : b9 ≠ w.heap.size + 1 := by omega
      have m10 : b10 ≠ w.heap.size + 1 := by omega
      clear q9 q10 q11 q12
      go_wp2_with (go_at_call 16; (with_reducible refine (HXC.out _ ST.out.bl).mono ?_); rintro e w5 ⟨rfl, hb⟩; have S5 := Lib.hid (ST.out.step hb); clear hb ST)
      refine wp_region_pre (S := S4 w g1 A1 n1 c1 S1 m1 d1 false B1 o1 e1 k1 s1 v1 y1 t1 kk ss vv SS mm dd XX nx cx b9 b10 b11 b12) 0 (by kernel_rfl) (S5.out.step (bd_drewN _ 1)) ?_
      refine Pre.pure (i := 0) (d := 53) (v := ?v19) rfl rfl (by rfl) ?yy19 ?zz19
      case yy19 => (intro w' hSw; (try unfold S4 QW WX QX at hSw); go_split_ands; go_simp; try with_reducible rfl)
      try simp only [Act.put, List.setIfInBounds_toArray, List.set_cons_zero, List.set_cons_succ]
      refine Pre.call (i := 1) (d := 54) (v := .int .i64 za) (f := ?f20) (args := ?a20) rfl rfl (by rfl) ?yy20 ?cc20 ?zz20
      case yy20 => (intro w' hSw; (try unfold S4 QW WX QX at hSw); go_split_ands; go_simp; refine ⟨?_, ?_⟩ <;> with_reducible rfl)
      case cc20 => (intro w' hSw; exact (HCa.out _ hSw.bl).mono (fun e w2 hh => ⟨hh.1, hSw.step hh.2⟩))
      try simp only [Act.put, List.setIfInBounds_toArray, List.set_cons_zero, List.set_cons_succ]
      refine Pre.pure (i := 2) (d := 55) (v := ?v21) rfl rfl (by rfl) ?yy21 ?zz21
      case yy21 => (intro w' hSw; (try unfold S4 QW WX QX at hSw); go_split_ands; go_simp; try with_reducible rfl)
      try simp only [Act.put, List.setIfInBounds_toArray, List.set_cons_zero, List.set_cons_succ]
      refine Pre.call (i := 3) (d := 56) (v := .int .i64 za) (f := ?f22) (args := ?a22) rfl rfl (by rfl) ?yy22 ?cc22 ?zz22
      case yy22 => (intro w' hSw; (try unfold S4 QW WX QX at hSw); go_split_ands; go_simp; refine ⟨?_, ?_⟩ <;> with_reducible rfl)
      case cc22 => (intro w' hSw; exact (HWn.out _).mono (fun e w2 hh => ⟨hh.1, hSw.step hh.2⟩))
      try simp only [Act.put, List.setIfInBounds_toArray, List.set_cons_zero, List.set_cons_succ]
      refine Pre.pure (i := 4) (d := 57) (v := ?v23) rfl rfl (by rfl) ?yy23 ?zz23
      case yy23 => (intro w' hSw; (try unfold S4 QW WX QX at hSw); go_split_ands; go_simp; try with_reducible rfl)
      try simp only [Act.put, List.setIfInBounds_toArray, List.set_cons_zero, List.set_cons_succ]
      refine Pre.pure (i := 5) (d := 58) (v := ?v24) rfl rfl (by rfl) ?yy24 ?zz24
      case yy24 => (intro w' hSw; (try unfold S4 QW WX QX at hSw); go_split_ands; go_simp; try with_reducible rfl)
      try simp only [Act.put, List.setIfInBounds_toArray, List.set_cons_zero, List.set_cons_succ]
      refine Pre.pure (i := 6) (d := 59) (v := ?v25) rfl rfl (by rfl) ?yy25 ?zz25
      case yy25 => (intro w' hSw; (try unfold S4 QW WX QX at hSw); go_split_ands; go_simp; try with_reducible rfl)
      try simp only [Act.put, List.setIfInBounds_toArray, List.set_cons_zero, List.set_cons_succ]
      refine Pre.call (i := 7) (d := 60) (v := .int .i64 zb) (f := ?f26) (args := ?a26) rfl rfl (by rfl) ?yy26 ?cc26 ?zz26
      case yy26 => (intro w' hSw; (try unfold S4 QW WX QX at hSw); go_split_ands; go_simp; refine ⟨?_, ?_⟩ <;> with_reducible rfl)
      case cc26 => (intro w' hSw; exact (HCb.out _ hSw.bl).mono (fun e w2 hh => ⟨hh.1, hSw.step hh.2⟩))
      try simp only [Act.put, List.setIfInBounds_toArray, List.set_cons_zero, List.set_cons_succ]
      refine Pre.pure (i := 8) (d := 61) (v := ?v27) rfl rfl (by rfl) ?yy27 ?zz27
      case yy27 => (intro w' hSw; (try unfold S4 QW WX QX at hSw); go_split_ands; go_simp; try with_reducible rfl)
      try simp only [Act.put, List.setIfInBounds_toArray, List.set_cons_zero, List.set_cons_succ]
      refine Pre.call (i := 9) (d := 62) (v := .int .i64 zb) (f := ?f28) (args := ?a28) rfl rfl (by rfl) ?yy28 ?cc28 ?zz28
      case yy28 => (intro w' hSw; (try unfold S4 QW WX QX at hSw); go_split_ands; go_simp; refine ⟨?_, ?_⟩ <;> with_reducible rfl)
      case cc28 => (intro w' hSw; exact (HSr.out _ hSw.bl).mono (fun e w2 hh => ⟨hh.1, hSw.step hh.2⟩))
      try simp only [Act.put, List.setIfInBounds_toArray, List.set_cons_zero, List.set_cons_succ]
      refine Pre.pure (i := 10) (d := 63) (v := ?v29) rfl rfl (by rfl) ?yy29 ?zz29
      case yy29 => (intro w' hSw; (try unfold S4 QW WX QX at hSw); go_split_ands; go_simp; try with_reducible rfl)
      try simp only [Act.put, List.setIfInBounds_toArray, List.set_cons_zero, List.set_cons_succ]
      refine Pre.pure (i := 11) (d := 64) (v := ?v30) rfl rfl (by rfl) ?yy30 ?zz30
      case yy30 => (intro w' hSw; (try unfold S4 QW WX QX at hSw); go_split_ands; go_simp; try with_reducible rfl)
      try simp only [Act.put, List.setIfInBounds_toArray, List.set_cons_zero, List.set_cons_succ]
      refine Pre.pure (i := 12) (d := 65) (v := ?v31) rfl rfl (by rfl) ?yy31 ?zz31
      case yy31 => (intro w' hSw; (try unfold S4 QW WX QX at hSw); go_split_ands; go_simp; try with_reducible rfl)
      try simp only [Act.put, List.setIfInBounds_toArray, List.set_cons_zero, List.set_cons_succ]
      refine Pre.pure (i := 13) (d := 66) (v := ?v32) rfl rfl (by rfl) ?yy32 ?zz32
      case yy32 => (intro w' hSw; (try unfold S4 QW WX QX at hSw); go_split_ands; go_simp; try with_reducible rfl)
      try simp only [Act.put, List.setIfInBounds_toArray, List.set_cons_zero, List.set_cons_succ]
      refine Pre.call (i := 14) (d := 67) (v := .int .i64 z) (f := ?f33) (args := ?a33) rfl rfl (by rfl) ?yy33 ?cc33 ?zz33
      case yy33 => (intro w' hSw; (try unfold S4 QW WX QX at hSw); go_split_ands; go_simp; refine ⟨?_, ?_⟩ <;> with_reducible rfl)
      case cc33 => (intro w' hSw; exact (HCd.out _ hSw.bl).mono (fun e w2 hh => ⟨hh.1, hSw.step hh.2⟩))
      try simp only [Act.put, List.setIfInBounds_toArray, List.set_cons_zero, List.set_cons_succ]
      refine Pre.pure (i := 15) (d := 68) (v := ?v34) rfl rfl (by rfl) ?yy34 ?zz34
      case yy34 => (intro w' hSw; (try unfold S4 QW WX QX at hSw); go_split_ands; go_simp; try with_reducible rfl)
      try simp only [Act.put, List.setIfInBounds_toArray, List.set_cons_zero, List.set_cons_succ]
      refine Pre.pure (i := 16) (d := 69) (v := ?v35) rfl rfl (by rfl) ?yy35 ?zz35
      case yy35 => (intro w' hSw; (try unfold S4 QW WX QX at hSw); go_split_ands; go_simp; try with_reducible rfl)
      try simp only [Act.put, List.setIfInBounds_toArray, List.set_cons_zero, List.set_cons_succ]
      refine Pre.pure (i := 17) (d := 70) (v := ?v36) rfl rfl (by rfl) ?yy36 ?zz36
      case yy36 => (intro w' hSw; (try unfold S4 QW WX QX at hSw); go_split_ands; go_simp; try with_reducible rfl)
      try simp only [Act.put, List.setIfInBounds_toArray, List.set_cons_zero, List.set_cons_succ]
      refine Pre.done (by kernel_rfl) (by kernel_rfl) ?_
      intro W hS
      refine wpAnyH_done (by kernel_rfl) ?_ _
      obtain ⟨xr, xr0, xr1, xr2, xr3, xr4, xr5, xr6, xr7, xr8, xr9⟩ := hS.2.2.2.1.cells
      go_wp2_with (first
      | (go_at_call 11; ((with_reducible refine (HCc.out _ hS.bl).mono ?_); rintro e w7 ⟨rfl, hb⟩; have S7 := hS.step hb; clear hb))
      | (go_at_call 15; refine (alive_any _).mono ?_; rintro e w8 ⟨rfl, hb⟩))
      go_ret
      exact ⟨rfl, S7.bl.step hb⟩
theorem ClausesReplace_walk (g : Int) (A : Option Addr) (c : Nat) (L : List Nd) (S : Option Addr) (d : Nat) (l : List Int) (j : Bool) (B : Option Addr) (e : Nat) (M : List Nd) (k s v : Int) (y : Bool) (t : Int) (kk ss vv : Int) (SS : Option Addr) (dd : Nat) (ll : List Int) (XX : Option Addr) (cx : Nat) (LX : List Nd) (w : World) (h : QO w A c L S d l B e M s v t)
    (hss : In64 ss) (_ : ll.length ≤ maxLen) (hSl : Lies w SS (iC ll)) (_ : SlOk SS ll.length dd) (_ : ll.length ≤ dd) (_ : ∀ x ∈ ll, In64 x) (_ : LX.length ≤ maxLen) (hX : Lies w XX (ndCells LX)) (_ : LX.length ≤ cx) (_ : (XX = none ∧ cx = 0 ∧ LX = []) ∨ ∃ ad, XX = some ad) :
    Calls Try.prog 4 #[.agg #[.int .u8 g, .slice A L.length c, .slice S l.length d, .bool j, .slice B M.length e, .int .u8 k, .int .i64 s, .int .i64 v, .bool y, .int .u8 t], .agg #[.int .u8 kk, .int .i64 ss, .int .i64 vv], .slice SS ll.length dd, .slice XX LX.length cx] w fun e w' => e = .returned (.bool true) ∧ Below w.heap.size w w' := by
  have hs := h.2.2.2.2.1.2
  have hq := h.1
  cases hg : greatQ L.length M.length l.length
  rotate_left
  · exact lr_g _ _ _ _ _ _ _ _ _ _ _ _ _ _ _ _ L M l kk ss vv SS ll.length dd ll XX LX.length cx LX w hq hg
  cases j
  rotate_left
  · exact lr_j _ _ _ _ _ _ _ _ _ _ _ _ _ _ _ _ L M l kk ss vv SS ll.length dd ll XX LX.length cx LX w hq hg rfl
  by_cases hx : chkF ⟨g, L, l, false, M, k, s, v, y, t⟩ = 0
  rotate_left
  · exact lr_c _ _ _ _ _ _ _ _ _ _ _ _ _ _ _ _ L M l kk ss vv SS ll.length dd ll XX LX.length cx LX w hq hg rfl _ rfl hx
  by_cases h10 : 10 < ll.length
  · exact lr_l _ _ _ _ _ _ _ _ _ _ _ _ _ _ _ _ L M l kk ss vv SS ll.length dd ll XX LX.length cx LX w hq hg rfl hx h10
  by_cases h70 : 70 < LX.length
  · exact lr_x _ _ _ _ _ _ _ _ _ _ _ _ _ _ _ _ L M l kk ss vv SS ll.length dd ll XX LX.length cx LX w hq hg rfl hx (by omega) h70
  exact lr_main_any _ _ _ _ _ _ _ _ _ _ _ _ _ _ _ _ L M l kk ss vv SS ll.length dd ll XX LX.length cx LX w hq hX rfl hSl rfl hss.2 hg rfl hs hx (by omega) (by omega)
end Go.Proofs.Ytaijhkfbfkdepaa.Q8
