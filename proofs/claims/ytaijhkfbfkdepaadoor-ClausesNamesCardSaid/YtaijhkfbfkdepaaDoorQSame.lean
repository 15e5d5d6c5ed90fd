
/- alike, and the comparisons of queries. -/
import Derived.Test.YtaijhkfbfkdepaaDoorQBox
import Derived.Test.YtaijhkfbfkdepaaDoorQSrc2
import Derived.Test.YtaijhkfbfkdepaaDoorQAlk
import Derived.Test.YtaijhkfbfkdepaaDoorNSame
import Derived.Laws.StructEq
namespace Go.Proofs.YtaijhkfbfkdepaaDoor.Q8
open Go.ChangeShapes Go.WideShapes Go.ChangeAt Go.RowKit N4
set_option linter.unusedVariables false
set_option linter.unusedSimpArgs false
set_option maxRecDepth 100000

theorem eqq_win (k s v k' s' v' : Int) (w : World) : (Op.equalIn 10000 23 (.agg #[.int .u8 k, .int .i64 s, .int .i64 v]) (.agg #[.int .u8 k', .int .i64 s', .int .i64 v'])).run Tryd.prog w = .ok (k == k' && s == s' && v == v') w := by
  have u1 := Tryd.underlying5
  have u2 := Tryd.underlying2
  have hS : Tryd.prog.underlying 23 = some (.struct (Tryd.prog.fieldsOf 23)) := by kernel_rfl
  rw [show (10000 : Nat) = 9999 + 1 from rfl, run_equalIn_agg w 9999 23 _ _ hS (by kernel_rfl)]
  simp only [Program.fieldsOf, Tryd.underlying23]
  go_simp
  by_cases h1 : k = k' <;> by_cases h2 : s = s' <;> by_cases h3 : v = v' <;> simp [h1, h2, h3]
theorem eq_win (k s v k' s' v' : Int) (r : Bool) (hr : (decide (k = k') && decide (s = s') && decide (v = v')) = r) (w : World) : (binOp .eql 23 (.agg #[.int .u8 k, .int .i64 s, .int .i64 v]) (.agg #[.int .u8 k', .int .i64 s', .int .i64 v'])).run Tryd.prog w = .ok (.bool r) w := by
  subst hr
  rw [run_eql_struct, eqq_win]
  by_cases h1 : k = k' <;> by_cases h2 : s = s' <;> by_cases h3 : v = v' <;> simp [h1, h2, h3]
theorem alike_p (A A' : Option Addr) (n n' c c' : Nat) (L M : List Nd) (w : World) (hn : L.length = n) (hn' : M.length = n') (ht : Lies w A (ndCells L)) (ht' : Lies w A' (ndCells M)) (h : (n = 0 ∨ checkF L = 0) ∧ (n' = 0 ∨ checkF M = 0)) (v : Bool) (hv : alikeF L M = v) :
    Calls Tryd.prog 25 #[.slice A n c, .slice A' n' c'] w fun e w' => e = .returned (.bool v) ∧ Below w.heap.size w w' := by
  by_cases h0 : n = 0
  · have HF := Lib.hid (show decide (n = n') = v by rw [← hv, alike_nil (.inl (by rw [hn]; exact h0)), hn, hn'])
    clear h hv ht ht' hn hn'
    subst h0
    by_cases h1 : n' = 0
    · subst h1
      go_enter Tryd.func25, Tryd.ntmps25
      go_wp2
      go_ret
      exact ⟨ret_bool' (by rw [← HF.out]; rfl), Below.refl _ _⟩
    · have e1 : ((0 : Int) == n') = false := by simp; omega
      go_enter Tryd.func25, Tryd.ntmps25
      go_wp2
      go_ret
      exact ⟨ret_bool' (by rw [← HF.out]; simp; omega), Below.refl _ _⟩
  · have q1 : ((n : Int) == 0) = false := by simpa using h0
    by_cases h1 : n' = 0
    · have HF := Lib.hid (show decide (n = n') = v by rw [← hv, alike_nil (.inr (by rw [hn']; exact h1)), hn, hn'])
      clear h hv ht ht' hn hn'
      subst h1
      go_enter Tryd.func25, Tryd.ntmps25
      go_wp2
      go_ret
      exact ⟨ret_bool' (by rw [← HF.out]; simp; omega), Below.refl _ _⟩
    · have q2 : ((n' : Int) == 0) = false := by simpa using h1
      have HC := Lib.hid (same_ok A A' n n' c c' L M w hn hn' ht ht' (h.1.resolve_left h0) (h.2.resolve_left h1) v hv)
      clear h hv ht ht' hn hn' h0 h1
      go_enter Tryd.func25, Tryd.ntmps25
      go_wp2_with (go_at_call 33; refine HC.out.mono ?_; rintro e w1 ⟨rfl, hb⟩)
      go_ret
      exact ⟨rfl, hb⟩
/-- Two boxes. -/
def QX2 (w0 : World) (b b' : Nat) (g1 : Int) (A1 : Option Addr) (n1 c1 : Nat) (S1 : Option Addr) (m1 d1 : Nat) (j1 : Bool) (B1 : Option Addr) (o1 e1 : Nat) (k1 s1 v1 : Int) (y1 : Bool) (t1 : Int) (g2 : Int) (A2 : Option Addr) (n2 c2 : Nat) (S2 : Option Addr) (m2 d2 : Nat) (j2 : Bool) (B2 : Option Addr) (o2 e2 : Nat) (k2 s2 v2 : Int) (y2 : Bool) (t2 : Int) (W : World) : Prop := QX w0 b g1 A1 n1 c1 S1 m1 d1 j1 B1 o1 e1 k1 s1 v1 y1 t1 W ∧ QX w0 b' g2 A2 n2 c2 S2 m2 d2 j2 B2 o2 e2 k2 s2 v2 y2 t2 W
theorem QX2.step {w0 : World} {b b' : Nat} {g1 : Int} {A1 : Option Addr} {n1 c1 : Nat} {S1 : Option Addr} {m1 d1 : Nat} {j1 : Bool} {B1 : Option Addr} {o1 e1 : Nat} {k1 s1 v1 : Int} {y1 : Bool} {t1 : Int} {g2 : Int} {A2 : Option Addr} {n2 c2 : Nat} {S2 : Option Addr} {m2 d2 : Nat} {j2 : Bool} {B2 : Option Addr} {o2 e2 : Nat} {k2 s2 v2 : Int} {y2 : Bool} {t2 : Int} {W W' : World} (h : QX2 w0 b b' g1 A1 n1 c1 S1 m1 d1 j1 B1 o1 e1 k1 s1 v1 y1 t1 g2 A2 n2 c2 S2 m2 d2 j2 B2 o2 e2 k2 s2 v2 y2 t2 W) (hb : Below W.heap.size W W') : QX2 w0 b b' g1 A1 n1 c1 S1 m1 d1 j1 B1 o1 e1 k1 s1 v1 y1 t1 g2 A2 n2 c2 S2 m2 d2 j2 B2 o2 e2 k2 s2 v2 y2 t2 W' := ⟨h.1.step hb, h.2.step hb⟩
theorem QX2.bl {w0 : World} {b b' : Nat} {g1 : Int} {A1 : Option Addr} {n1 c1 : Nat} {S1 : Option Addr} {m1 d1 : Nat} {j1 : Bool} {B1 : Option Addr} {o1 e1 : Nat} {k1 s1 v1 : Int} {y1 : Bool} {t1 : Int} {g2 : Int} {A2 : Option Addr} {n2 c2 : Nat} {S2 : Option Addr} {m2 d2 : Nat} {j2 : Bool} {B2 : Option Addr} {o2 e2 : Nat} {k2 s2 v2 : Int} {y2 : Bool} {t2 : Int} {W : World} (h : QX2 w0 b b' g1 A1 n1 c1 S1 m1 d1 j1 B1 o1 e1 k1 s1 v1 y1 t1 g2 A2 n2 c2 S2 m2 d2 j2 B2 o2 e2 k2 s2 v2 y2 t2 W) : Bl w0 W := h.1.bl
theorem QX2.new (w : World) (g1 : Int) (A1 : Option Addr) (n1 c1 : Nat) (S1 : Option Addr) (m1 d1 : Nat) (j1 : Bool) (B1 : Option Addr) (o1 e1 : Nat) (k1 s1 v1 : Int) (y1 : Bool) (t1 : Int) (g2 : Int) (A2 : Option Addr) (n2 c2 : Nat) (S2 : Option Addr) (m2 d2 : Nat) (j2 : Bool) (B2 : Option Addr) (o2 e2 : Nat) (k2 s2 v2 : Int) (y2 : Bool) (t2 : Int) (t : TypeId) : QX2 w w.heap.size (w.heap.size + 1) g1 A1 n1 c1 S1 m1 d1 j1 B1 o1 e1 k1 s1 v1 y1 t1 g2 A2 n2 c2 S2 m2 d2 j2 B2 o2 e2 k2 s2 v2 y2 t2 ((w.alloc (.cells #[.int .u8 g1, .slice A1 n1 c1, .slice S1 m1 d1, .bool j1, .slice B1 o1 e1, .int .u8 k1, .int .i64 s1, .int .i64 v1, .bool y1, .int .u8 t1] t)).alloc (.cells #[.int .u8 g2, .slice A2 n2 c2, .slice S2 m2 d2, .bool j2, .slice B2 o2 e2, .int .u8 k2, .int .i64 s2, .int .i64 v2, .bool y2, .int .u8 t2] t)) :=
  ⟨(QX.new (Bl.start w) g1 A1 n1 c1 S1 m1 d1 j1 B1 o1 e1 k1 s1 v1 y1 t1 t).step ((Below.refl _ _).alloc (Nat.le_refl _) _), by have := QX.new ((Bl.start w).al (.cells #[.int .u8 g1, .slice A1 n1 c1, .slice S1 m1 d1, .bool j1, .slice B1 o1 e1, .int .u8 k1, .int .i64 s1, .int .i64 v1, .bool y1, .int .u8 t1] t)) g2 A2 n2 c2 S2 m2 d2 j2 B2 o2 e2 k2 s2 v2 y2 t2 t; rwa [show (w.alloc (.cells #[.int .u8 g1, .slice A1 n1 c1, .slice S1 m1 d1, .bool j1, .slice B1 o1 e1, .int .u8 k1, .int .i64 s1, .int .i64 v1, .bool y1, .int .u8 t1] t)).heap.size = w.heap.size + 1 by simp] at this⟩
theorem sameQ_false (g1 : Int) (A1 : Option Addr) (n1 c1 : Nat) (S1 : Option Addr) (m1 d1 : Nat) (j1 : Bool) (B1 : Option Addr) (o1 e1 : Nat) (k1 s1 v1 : Int) (y1 : Bool) (t1 : Int) (g2 : Int) (A2 : Option Addr) (n2 c2 : Nat) (S2 : Option Addr) (m2 d2 : Nat) (j2 : Bool) (B2 : Option Addr) (o2 e2 : Nat) (k2 s2 v2 : Int) (y2 : Bool) (t2 : Int) (L1 M1 : List Nd) (l1 : List Int) (L2 M2 : List Nd) (l2 : List Int) (h : ¬ (g1 = g2 ∧ alikeF L1 L2 = true ∧ l1 = l2 ∧ j1 = j2 ∧ alikeF M1 M2 = true ∧ (decide (k1 = k2) && decide (s1 = s2) && decide (v1 = v2)) = true ∧ y1 = y2 ∧ t1 = t2)) : sameQ ⟨g1, L1, l1, j1, M1, k1, s1, v1, y1, t1⟩ ⟨g2, L2, l2, j2, M2, k2, s2, v2, y2, t2⟩ = false := by
  rw [Bool.eq_false_iff]
  intro hh
  unfold sameQ at hh
  simp only [Bool.and_eq_true, decide_eq_true_eq, beq_iff_eq] at hh
  refine h ⟨hh.1, hh.2.1, hh.2.2.1, hh.2.2.2.1, hh.2.2.2.2.1, ?_, hh.2.2.2.2.2.2.1, hh.2.2.2.2.2.2.2⟩
  simp [hh.2.2.2.2.2.1]
theorem sameQ_true (g1 : Int) (A1 : Option Addr) (n1 c1 : Nat) (S1 : Option Addr) (m1 d1 : Nat) (j1 : Bool) (B1 : Option Addr) (o1 e1 : Nat) (k1 s1 v1 : Int) (y1 : Bool) (t1 : Int) (g2 : Int) (A2 : Option Addr) (n2 c2 : Nat) (S2 : Option Addr) (m2 d2 : Nat) (j2 : Bool) (B2 : Option Addr) (o2 e2 : Nat) (k2 s2 v2 : Int) (y2 : Bool) (t2 : Int) (L1 M1 : List Nd) (l1 : List Int) (L2 M2 : List Nd) (l2 : List Int) (h : g1 = g2 ∧ alikeF L1 L2 = true ∧ l1 = l2 ∧ j1 = j2 ∧ alikeF M1 M2 = true ∧ (decide (k1 = k2) && decide (s1 = s2) && decide (v1 = v2)) = true ∧ y1 = y2 ∧ t1 = t2) : sameQ ⟨g1, L1, l1, j1, M1, k1, s1, v1, y1, t1⟩ ⟨g2, L2, l2, j2, M2, k2, s2, v2, y2, t2⟩ = true := by
  obtain ⟨h1, h2, h3, h4, h5, h6, h7, h8⟩ := h
  unfold sameQ
  simp only [h6]
  subst h1 h3 h4 h7 h8
  simp [h2, h5]
end Go.Proofs.YtaijhkfbfkdepaaDoor.Q8
