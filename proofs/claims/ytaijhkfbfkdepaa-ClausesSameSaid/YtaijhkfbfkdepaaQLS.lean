/- ClausesSame walks to true. -/
import Derived.Test.YtaijhkfbfkdepaaQLQW
import Derived.Test.YtaijhkfbfkdepaaNMath3
import Derived.Deep.Onto
namespace Go.Proofs.Ytaijhkfbfkdepaa.Q8
open Go.ChangeShapes Go.WideShapes Go.ChangeAt Go.RowKit N4
set_option linter.unusedVariables false
set_option linter.unusedSimpArgs false
set_option maxRecDepth 100000

/-! ### mathematics -/
theorem check_setp {L : List Nd} {q : Int} (h0 : 0 ≤ q) (h1 : q ≤ 400) (h : checkF L = 0) : checkF (L.map (setp q)) = 0 := by
  obtain ⟨E, hg⟩ := checkF_zero h
  exact checkF_ok (good_setp h0 h1 hg)
theorem chk_setp {g : Int} {L M : List Nd} {l : List Int} {j : Bool} {k s v : Int} {y : Bool} {t : Int} {q : Int} (h0 : 0 ≤ q) (h1 : q ≤ 400) (h : chkF ⟨g, L, l, j, M, k, s, v, y, t⟩ = 0) : chkF ⟨g, L.map (setp q), l, j, M.map (setp q), k, s, v, y, t⟩ = 0 := by
  obtain ⟨e1, e2, e3, e4, e5, e6⟩ := (chk_zero _).1 h
  simp only at e1 e2 e3 e4 e5 e6
  refine (chk_zero _).2 ⟨e1, ?_, ?_, e4, e5, e6⟩
  · unfold argE at e2 ⊢
    split at e2
    · rename_i hg; rw [if_pos hg, List.length_map]; exact e2
    · rename_i hg; rw [if_neg hg]; exact check_setp h0 h1 e2
  · unfold whrE at e3 ⊢
    rw [List.length_map]
    split at e3
    · rename_i hg; rw [if_pos hg]
    · rename_i hg; rw [if_neg hg]; exact check_setp h0 h1 e3
theorem same_moved {g : Int} {L M : List Nd} {l : List Int} {j : Bool} {k s v : Int} {y : Bool} {t : Int} (q : Int) : sameQ ⟨g, L, l, j, M, k, s, v, y, t⟩ ⟨g, L.map (setp q), l, j, M.map (setp q), k, s, v, y, t⟩ = true := by
  have e : ∀ X : List Nd, alikeF X (X.map (setp q)) = true := fun X => by unfold alikeF; rw [map_unp_setp]; simp
  unfold sameQ
  simp [e]
theorem alike_comm (L M : List Nd) : alikeF M L = alikeF L M := by
  unfold alikeF; rw [decide_eq_decide]; exact eq_comm
theorem sameQ_comm (p q : Qy) : sameQ q p = sameQ p q := by
  unfold sameQ
  rw [alike_comm p.L q.L, alike_comm p.M q.M]
  have e1 : ∀ a b : Int, decide (a = b) = decide (b = a) := fun a b => decide_eq_decide.2 eq_comm
  have e2 : ∀ a b : List Int, decide (a = b) = decide (b = a) := fun a b => decide_eq_decide.2 eq_comm
  have e3 : ∀ a b : Bool, (a == b) = (b == a) := fun a b => by cases a <;> cases b <;> rfl
  rw [e1 q.g, e2 q.l, e3 q.j, e1 q.k, e1 q.s, e1 q.v, e3 q.y, e1 q.t]
theorem same_key {g : Int} {L M : List Nd} {l : List Int} {j : Bool} {k s v : Int} {y : Bool} {t : Int} : sameQ ⟨g, L, l, j, M, k, s, v, y, t⟩ ⟨g, L, l, j, M, k, s, v, !y, t⟩ = false := by
  unfold sameQ; cases y <;> simp
theorem chk_key {g : Int} {L M : List Nd} {l : List Int} {j : Bool} {k s v : Int} {y : Bool} {t : Int} (z : Bool) (h : chkF ⟨g, L, l, j, M, k, s, v, y, t⟩ = 0) : chkF ⟨g, L, l, j, M, k, s, v, z, t⟩ = 0 := h
theorem late_in {q : Qy} (h : chkF q = 0) : q.t = 1 ∨ q.t = 2 := by
  have := inB_true.1 ((chk_zero _).1 h).1.2
  omega
theorem chk_late {g : Int} {L M : List Nd} {l : List Int} {j : Bool} {k s v : Int} {y : Bool} {t : Int} (h : chkF ⟨g, L, l, j, M, k, s, v, y, t⟩ = 0) : chkF ⟨g, L, l, j, M, k, s, v, y, 3 - t⟩ = 0 := by
  have hl := late_in h
  simp only at hl
  obtain ⟨e1, e2, e3, e4, e5, e6⟩ := (chk_zero _).1 h
  refine (chk_zero _).2 ⟨⟨e1.1, inB_true.2 (by simp only; omega)⟩, e2, e3, e4, e5, e6⟩
theorem same_late {g : Int} {L M : List Nd} {l : List Int} {j : Bool} {k s v : Int} {y : Bool} {t : Int} (h : t = 1 ∨ t = 2) : sameQ ⟨g, L, l, j, M, k, s, v, y, t⟩ ⟨g, L, l, j, M, k, s, v, y, 3 - t⟩ = false := by
  unfold sameQ
  have : decide (t = 3 - t) = false := decide_eq_false (by omega)
  simp [this]
/-! ### memory -/
theorem QX.set {w0 : World} {b : Nat} {g1 : Int} {A1 : Option Addr} {n1 c1 : Nat} {S1 : Option Addr} {m1 d1 : Nat} {j1 : Bool} {B1 : Option Addr} {o1 e1 : Nat} {k1 s1 v1 : Int} {y1 : Bool} {t1 : Int} {W : World} (h : QX w0 b g1 A1 n1 c1 S1 m1 d1 j1 B1 o1 e1 k1 s1 v1 y1 t1 W) {g j : Nat} (hne : g ≠ b) (hge : w0.heap.size ≤ g) (v : Value) : QX w0 b g1 A1 n1 c1 S1 m1 d1 j1 B1 o1 e1 k1 s1 v1 y1 t1 (W.setCell ⟨g, j, none⟩ v) := by
  obtain ⟨h1, h2, h3⟩ := h
  have e : ∀ o, (W.setCell ⟨g, j, none⟩ v).cell? ⟨b, o, none⟩ = W.cell? ⟨b, o, none⟩ := fun o => World.cell?_setCell_far _ _ _ _ hne
  refine ⟨h1.setCell hge v, by simpa using h2, ?_⟩
  simp only [e]
  exact h3
def MV (w : World) (bM : Nat) (g1 : Int) (A1 : Option Addr) (n1 c1 : Nat) (S1 : Option Addr) (m1 d1 : Nat) (j1 : Bool) (B1 : Option Addr) (o1 e1 : Nat) (k1 s1 v1 : Int) (y1 : Bool) (t1 : Int) (g2 : Int) (A2 : Option Addr) (n2 c2 : Nat) (S2 : Option Addr) (m2 d2 : Nat) (j2 : Bool) (B2 : Option Addr) (o2 e2 : Nat) (k2 s2 v2 : Int) (y2 : Bool) (t2 : Int) (a ca b cb d cd : Nat) (LA LB : List Nd) (l1 : List Int) (W : World) : Prop :=
  QX2 w w.heap.size (w.heap.size + 1) g1 A1 n1 c1 S1 m1 d1 j1 B1 o1 e1 k1 s1 v1 y1 t1 g2 A2 n2 c2 S2 m2 d2 j2 B2 o2 e2 k2 s2 v2 y2 t2 W ∧ QX w bM g1 (some ⟨a, 0, none⟩) n1 ca (some ⟨d, 0, none⟩) m1 cd j1 (some ⟨b, 0, none⟩) o1 cb k1 s1 v1 y1 t1 W ∧
  W.ownsRow (w.heap.size + 2) 45 5 (.slice (some ⟨a, 0, none⟩) n1 ca) n1 (ndCells LA) ∧ W.ownsRow (w.heap.size + 2) 45 5 (.slice (some ⟨b, 0, none⟩) o1 cb) o1 (ndCells LB) ∧
  W.ownsRow (w.heap.size + 2) 3 1 (.slice (some ⟨d, 0, none⟩) m1 cd) m1 (iC l1) ∧ a ≠ b ∧ a ≠ d ∧ b ≠ d ∧ a ≠ bM ∧ b ≠ bM
theorem MV.setB {w : World} {bM : Nat} {g1 : Int} {A1 : Option Addr} {n1 c1 : Nat} {S1 : Option Addr} {m1 d1 : Nat} {j1 : Bool} {B1 : Option Addr} {o1 e1 : Nat} {k1 s1 v1 : Int} {y1 : Bool} {t1 : Int} {g2 : Int} {A2 : Option Addr} {n2 c2 : Nat} {S2 : Option Addr} {m2 d2 : Nat} {j2 : Bool} {B2 : Option Addr} {o2 e2 : Nat} {k2 s2 v2 : Int} {y2 : Bool} {t2 : Int} {a ca b cb d cd : Nat} {LA M1 : List Nd} {l1 : List Int} {W : World} {k : Nat} {x : Nd} {q : Int} (h : MV w bM g1 A1 n1 c1 S1 m1 d1 j1 B1 o1 e1 k1 s1 v1 y1 t1 g2 A2 n2 c2 S2 m2 d2 j2 B2 o2 e2 k2 s2 v2 y2 t2 a ca b cb d cd LA (mk M1 q k) l1 W) (hx : M1[k]? = some x) : MV w bM g1 A1 n1 c1 S1 m1 d1 j1 B1 o1 e1 k1 s1 v1 y1 t1 g2 A2 n2 c2 S2 m2 d2 j2 B2 o2 e2 k2 s2 v2 y2 t2 a ca b cb d cd LA (mk M1 q (k + 1)) l1 (W.setCell ⟨b, k * 5 + 4, none⟩ (.int .i64 q)) := by
  obtain ⟨h1, h2, h3, h4, h5, h6, h7, h8, h9, h10⟩ := h
  have hb := (h4.lt b rfl).1
  obtain ⟨s1, s2⟩ := h4.stored (k * 5 + 4) (.int .i64 q)
  refine ⟨⟨h1.1.set (by omega) (by omega) _, h1.2.set (by omega) (by omega) _⟩, h2.set h10 (by omega) _, h3.kept s2 (.inr (by simp [Value.ownBlock]; omega)), ?_, h5.kept s2 (.inr (by simp [Value.ownBlock]; omega)), h6, h7, h8, h9, h10⟩
  obtain ⟨m1, m2⟩ := mk_at M1 q hx
  rw [← m2, ← nd_set _ k 4 x (setp q x) (.int .i64 q) m1 (by decide) rfl]
  exact s1
theorem MV.setA {w : World} {bM : Nat} {g1 : Int} {A1 : Option Addr} {n1 c1 : Nat} {S1 : Option Addr} {m1 d1 : Nat} {j1 : Bool} {B1 : Option Addr} {o1 e1 : Nat} {k1 s1 v1 : Int} {y1 : Bool} {t1 : Int} {g2 : Int} {A2 : Option Addr} {n2 c2 : Nat} {S2 : Option Addr} {m2 d2 : Nat} {j2 : Bool} {B2 : Option Addr} {o2 e2 : Nat} {k2 s2 v2 : Int} {y2 : Bool} {t2 : Int} {a ca b cb d cd : Nat} {L1 LB : List Nd} {l1 : List Int} {W : World} {k : Nat} {x : Nd} {q : Int} (h : MV w bM g1 A1 n1 c1 S1 m1 d1 j1 B1 o1 e1 k1 s1 v1 y1 t1 g2 A2 n2 c2 S2 m2 d2 j2 B2 o2 e2 k2 s2 v2 y2 t2 a ca b cb d cd (mk L1 q k) LB l1 W) (hx : L1[k]? = some x) : MV w bM g1 A1 n1 c1 S1 m1 d1 j1 B1 o1 e1 k1 s1 v1 y1 t1 g2 A2 n2 c2 S2 m2 d2 j2 B2 o2 e2 k2 s2 v2 y2 t2 a ca b cb d cd (mk L1 q (k + 1)) LB l1 (W.setCell ⟨a, k * 5 + 4, none⟩ (.int .i64 q)) := by
  obtain ⟨h1, h2, h3, h4, h5, h6, h7, h8, h9, h10⟩ := h
  have hb := (h3.lt a rfl).1
  obtain ⟨s1, s2⟩ := h3.stored (k * 5 + 4) (.int .i64 q)
  refine ⟨⟨h1.1.set (by omega) (by omega) _, h1.2.set (by omega) (by omega) _⟩, h2.set h9 (by omega) _, ?_, h4.kept s2 (.inr (by simp [Value.ownBlock]; omega)), h5.kept s2 (.inr (by simp [Value.ownBlock]; omega)), h6, h7, h8, h9, h10⟩
  obtain ⟨m1, m2⟩ := mk_at L1 q hx
  rw [← m2, ← nd_set _ k 4 x (setp q x) (.int .i64 q) m1 (by decide) rfl]
  exact s1
theorem MV.bl {w : World} {bM : Nat} {g1 : Int} {A1 : Option Addr} {n1 c1 : Nat} {S1 : Option Addr} {m1 d1 : Nat} {j1 : Bool} {B1 : Option Addr} {o1 e1 : Nat} {k1 s1 v1 : Int} {y1 : Bool} {t1 : Int} {g2 : Int} {A2 : Option Addr} {n2 c2 : Nat} {S2 : Option Addr} {m2 d2 : Nat} {j2 : Bool} {B2 : Option Addr} {o2 e2 : Nat} {k2 s2 v2 : Int} {y2 : Bool} {t2 : Int} {a ca b cb d cd : Nat} {LA LB : List Nd} {l1 : List Int} {W : World} (h : MV w bM g1 A1 n1 c1 S1 m1 d1 j1 B1 o1 e1 k1 s1 v1 y1 t1 g2 A2 n2 c2 S2 m2 d2 j2 B2 o2 e2 k2 s2 v2 y2 t2 a ca b cb d cd LA LB l1 W) : Bl w W := h.1.1.1
theorem MV.qx2 {w : World} {bM : Nat} {g1 : Int} {A1 : Option Addr} {n1 c1 : Nat} {S1 : Option Addr} {m1 d1 : Nat} {j1 : Bool} {B1 : Option Addr} {o1 e1 : Nat} {k1 s1 v1 : Int} {y1 : Bool} {t1 : Int} {g2 : Int} {A2 : Option Addr} {n2 c2 : Nat} {S2 : Option Addr} {m2 d2 : Nat} {j2 : Bool} {B2 : Option Addr} {o2 e2 : Nat} {k2 s2 v2 : Int} {y2 : Bool} {t2 : Int} {a ca b cb d cd : Nat} {LA LB : List Nd} {l1 : List Int} {W : World} (h : MV w bM g1 A1 n1 c1 S1 m1 d1 j1 B1 o1 e1 k1 s1 v1 y1 t1 g2 A2 n2 c2 S2 m2 d2 j2 B2 o2 e2 k2 s2 v2 y2 t2 a ca b cb d cd LA LB l1 W) : QX2 w w.heap.size (w.heap.size + 1) g1 A1 n1 c1 S1 m1 d1 j1 B1 o1 e1 k1 s1 v1 y1 t1 g2 A2 n2 c2 S2 m2 d2 j2 B2 o2 e2 k2 s2 v2 y2 t2 W := h.1
theorem MV.qa {w : World} {bM : Nat} {g1 : Int} {A1 : Option Addr} {n1 c1 : Nat} {S1 : Option Addr} {m1 d1 : Nat} {j1 : Bool} {B1 : Option Addr} {o1 e1 : Nat} {k1 s1 v1 : Int} {y1 : Bool} {t1 : Int} {g2 : Int} {A2 : Option Addr} {n2 c2 : Nat} {S2 : Option Addr} {m2 d2 : Nat} {j2 : Bool} {B2 : Option Addr} {o2 e2 : Nat} {k2 s2 v2 : Int} {y2 : Bool} {t2 : Int} {a ca b cb d cd : Nat} {LA LB : List Nd} {l1 : List Int} {W : World} (h : MV w bM g1 A1 n1 c1 S1 m1 d1 j1 B1 o1 e1 k1 s1 v1 y1 t1 g2 A2 n2 c2 S2 m2 d2 j2 B2 o2 e2 k2 s2 v2 y2 t2 a ca b cb d cd LA LB l1 W) (e1 : LA.length = n1) (e2 : LB.length = o1) (e3 : l1.length = m1) (z1 : n1 ≤ 70) (z2 : o1 ≤ 70) : QA W (some ⟨a, 0, none⟩) n1 (some ⟨d, 0, none⟩) m1 (some ⟨b, 0, none⟩) o1 LA LB l1 :=
  ⟨⟨lies_own h.2.2.1, e1, by unfold maxLen; omega⟩, ⟨lies_own h.2.2.2.2.1, e3⟩, ⟨lies_own h.2.2.2.1, e2, by unfold maxLen; omega⟩⟩
theorem MV.qa' {w : World} {bM : Nat} {g1 : Int} {A1 : Option Addr} {n1 c1 : Nat} {S1 : Option Addr} {m1 d1 : Nat} {j1 : Bool} {B1 : Option Addr} {o1 e1 : Nat} {k1 s1 v1 : Int} {y1 : Bool} {t1 : Int} {g2 : Int} {A2 : Option Addr} {n2 c2 : Nat} {S2 : Option Addr} {m2 d2 : Nat} {j2 : Bool} {B2 : Option Addr} {o2 e2 : Nat} {k2 s2 v2 : Int} {y2 : Bool} {t2 : Int} {aa ca b cb d cd : Nat} {L1 M1 : List Nd} {l1 : List Int} {W : World} {a : Int} (h : MV w bM g1 A1 n1 c1 S1 m1 d1 j1 B1 o1 e1 k1 s1 v1 y1 t1 g2 A2 n2 c2 S2 m2 d2 j2 B2 o2 e2 k2 s2 v2 y2 t2 aa ca b cb d cd (mk L1 a n1) (mk M1 a o1) l1 W) (e : L1.length = n1 ∧ M1.length = o1 ∧ l1.length = m1) (z : n1 ≤ 70 ∧ o1 ≤ 70) : QA W (some ⟨aa, 0, none⟩) n1 (some ⟨d, 0, none⟩) m1 (some ⟨b, 0, none⟩) o1 (L1.map (setp a)) (M1.map (setp a)) l1 := by
  have := h.qa (by rw [mk_length, e.1]) (by rw [mk_length, e.2.1]) e.2.2 z.1 z.2
  rwa [mk_all L1 a (by omega), mk_all M1 a (by omega)] at this
end Go.Proofs.Ytaijhkfbfkdepaa.Q8
