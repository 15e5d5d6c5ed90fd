/- alike, and the comparisons of queries. -/
import Derived.Test.YtaijhkfbfkdepaaQBox
import Derived.Test.YtaijhkfbfkdepaaQSrc2
import Derived.Test.YtaijhkfbfkdepaaQAlk
import Derived.Test.YtaijhkfbfkdepaaNSame
import Derived.Laws.StructEq
namespace Go.Proofs.Ytaijhkfbfkdepaa.Q8
open Go.ChangeShapes Go.WideShapes Go.ChangeAt Go.RowKit N4
set_option linter.unusedVariables false
set_option linter.unusedSimpArgs false
set_option maxRecDepth 100000

theorem eqq_win (k s v k' s' v' : Int) (w : World) : (Op.equalIn 10000 25 (.agg #[.int .u8 k, .int .i64 s, .int .i64 v]) (.agg #[.int .u8 k', .int .i64 s', .int .i64 v'])).run Try.prog w = .ok (k == k' && s == s' && v == v') w := by
  have u1 := Try.underlying5
  have u2 := Try.underlying2
  have hS : Try.prog.underlying 25 = some (.struct (Try.prog.fieldsOf 25)) := by kernel_rfl
  rw [show (10000 : Nat) = 9999 + 1 from rfl, run_equalIn_agg w 9999 25 _ _ hS (by kernel_rfl)]
  simp only [Program.fieldsOf, Try.underlying25]
  go_simp
  by_cases h1 : k = k' <;> by_cases h2 : s = s' <;> by_cases h3 : v = v' <;> simp [h1, h2, h3]
theorem eq_win (k s v k' s' v' : Int) (r : Bool) (hr : (decide (k = k') && decide (s = s') && decide (v = v')) = r) (w : World) : (binOp .eql 25 (.agg #[.int .u8 k, .int .i64 s, .int .i64 v]) (.agg #[.int .u8 k', .int .i64 s', .int .i64 v'])).run Try.prog w = .ok (.bool r) w := by
  subst hr
  rw [run_eql_struct, eqq_win]
  by_cases h1 : k = k' <;> by_cases h2 : s = s' <;> by_cases h3 : v = v' <;> simp [h1, h2, h3]
theorem alike_p (A A' : Option Addr) (n n' c c' : Nat) (L M : List Nd) (w : World) (hn : L.length = n) (hn' : M.length = n') (ht : Lies w A (ndCells L)) (ht' : Lies w A' (ndCells M)) (h : (n = 0 ∨ checkF L = 0) ∧ (n' = 0 ∨ checkF M = 0)) (v : Bool) (hv : alikeF L M = v) :
    Calls Try.prog 20 #[.slice A n c, .slice A' n' c'] w fun e w' => e = .returned (.bool v) ∧ Below w.heap.size w w' := by
  by_cases h0 : n = 0
  · have HF := Lib.hid (show decide (n = n') = v by rw [← hv, alike_nil (.inl (by rw [hn]; exact h0)), hn, hn'])
    clear h hv ht ht' hn hn'
    subst h0
    by_cases h1 : n' = 0
    · subst h1
      go_enter Try.func20, Try.ntmps20
      go_wp2
      go_ret
      exact ⟨ret_bool' (by rw [← HF.out]; rfl), Below.refl _ _⟩
    · have e1 : ((0 : Int) == n') = false := by simp; omega
      go_enter Try.func20, Try.ntmps20
      go_wp2
      go_ret
      exact ⟨ret_bool' (by rw [← HF.out]; simp; omega), Below.refl _ _⟩
  · have q1 : ((n : Int) == 0) = false := by simpa using h0
    by_cases h1 : n' = 0
    · have HF := Lib.hid (show decide (n = n') = v by rw [← hv, alike_nil (.inr (by rw [hn']; exact h1)), hn, hn'])
      clear h hv ht ht' hn hn'
      subst h1
      go_enter Try.func20, Try.ntmps20
      go_wp2
      go_ret
      exact ⟨ret_bool' (by rw [← HF.out]; simp; omega), Below.refl _ _⟩
    · have q2 : ((n' : Int) == 0) = false := by simpa using h1
      have HC := Lib.hid (same_ok A A' n n' c c' L M w hn hn' ht ht' (h.1.resolve_left h0) (h.2.resolve_left h1) v hv)
      clear h hv ht ht' hn hn' h0 h1
      go_enter Try.func20, Try.ntmps20
      go_wp2_with (go_at_call 37; refine HC.out.mono ?_; rintro e w1 ⟨rfl, hb⟩)
      go_ret
      exact ⟨rfl, hb⟩
/-- Two boxes. -/
def QX2 (w0 : World) (b b' : Nat) (g1 : Int) (A1 : Option Addr) (n1 c1 : Nat) (S1 : Option Addr) (m1 d1 : Nat) (j1 : Bool) (B1 : Option Addr) (o1 e1 : Nat) (k1 s1 v1 : Int) (y1 : Bool) (t1 : Int) (g2 : Int) (A2 : Option Addr) (n2 c2 : Nat) (S2 : Option Addr) (m2 d2 : Nat) (j2 : Bool) (B2 : Option Addr) (o2 e2 : Nat) (k2 s2 v2 : Int) (y2 : Bool) (t2 : Int) (W : World) : Prop := QX w0 b g1 A1 n1 c1 S1 m1 d1 j1 B1 o1 e1 k1 s1 v1 y1 t1 W ∧ QX w0 b' g2 A2 n2 c2 S2 m2 d2 j2 B2 o2 e2 k2 s2 v2 y2 t2 W
theorem QX2.step {w0 : World} {b b' : Nat} {g1 : Int} {A1 : Option Addr} {n1 c1 : Nat} {S1 : Option Addr} {m1 d1 : Nat} {j1 : Bool} {B1 : Option Addr} {o1 e1 : Nat} {k1 s1 v1 : Int} {y1 : Bool} {t1 : Int} {g2 : Int} {A2 : Option Addr} {n2 c2 : Nat} {S2 : Option Addr} {m2 d2 : Nat} {j2 : Bool} {B2 : Option Addr} {o2 e2 : Nat} {k2 s2 v2 : Int} {y2 : Bool} {t2 : Int} {W W' : World} (h : QX2 w0 b b' g1 A1 n1 c1 S1 m1 d1 j1 B1 o1 e1 k1 s1 v1 y1 t1 g2 A2 n2 c2 S2 m2 d2 j2 B2 o2 e2 k2 s2 v2 y2 t2 W) (hb : Below W.heap.size W W') : QX2 w0 b b' g1 A1 n1 c1 S1 m1 d1 j1 B1 o1 e1 k1 s1 v1 y1 t1 g2 A2 n2 c2 S2 m2 d2 j2 B2 o2 e2 k2 s2 v2 y2 t2 W' := ⟨h.1.step hb, h.2.step hb⟩
theorem QX2.bl {w0 : World} {b b' : Nat} {g1 : Int} {A1 : Option Addr} {n1 c1 : Nat} {S1 : Option Addr} {m1 d1 : Nat} {j1 : Bool} {B1 : Option Addr} {o1 e1 : Nat} {k1 s1 v1 : Int} {y1 : Bool} {t1 : Int} {g2 : Int} {A2 : Option Addr} {n2 c2 : Nat} {S2 : Option Addr} {m2 d2 : Nat} {j2 : Bool} {B2 : Option Addr} {o2 e2 : Nat} {k2 s2 v2 : Int} {y2 : Bool} {t2 : Int} {W : World} (h : QX2 w0 b b' g1 A1 n1 c1 S1 m1 d1 j1 B1 o1 e1 k1 s1 v1 y1 t1 g2 A2 n2 c2 S2 m2 d2 j2 B2 o2 e2 k2 s2 v2 y2 t2 W) : Bl w0 W := h.1.bl
theorem QX2.new (w : World) (g1 : Int) (A1 : Option Addr) (n1 c1 : Nat) (S1 : Option Addr) (m1 d1 : Nat) (j1 : Bool) (B1 : Option Addr) (o1 e1 : Nat) (k1 s1 v1 : Int) (y1 : Bool) (t1 : Int) (g2 : Int) (A2 : Option Addr) (n2 c2 : Nat) (S2 : Option Addr) (m2 d2 : Nat) (j2 : Bool) (B2 : Option Addr) (o2 e2 : Nat) (k2 s2 v2 : Int) (y2 : Bool) (t2 : Int) (t : TypeId) : QX2 w w.heap.size (w.heap.size + 1) g1 A1 n1 c1 S1 m1 d1 j1 B1 o1 e1 k1 s1 v1 y1 t1 g2 A2 n2 c2 S2 m2 d2 j2 B2 o2 e2 k2 s2 v2 y2 t2 ((w.alloc (.cells #[.int .u8 g1, .slice A1 n1 c1, .slice S1 m1 d1, .bool j1, .slice B1 o1 e1, .int .u8 k1, .int .i64 s1, .int .i64 v1, .bool y1, .int .u8 t1] t)).alloc (.cells #[.int .u8 g2, .slice A2 n2 c2, .slice S2 m2 d2, .bool j2, .slice B2 o2 e2, .int .u8 k2, .int .i64 s2, .int .i64 v2, .bool y2, .int .u8 t2] t)) :=
  ⟨(QX.new (Bl.start w) g1 A1 n1 c1 S1 m1 d1 j1 B1 o1 e1 k1 s1 v1 y1 t1 t).step ((Below.refl _ _).alloc (Nat.le_refl _) _), by have := QX.new ((Bl.start w).al (.cells #[.int .u8 g1, .slice A1 n1 c1, .slice S1 m1 d1, .bool j1, .slice B1 o1 e1, .int .u8 k1, .int .i64 s1, .int .i64 v1, .bool y1, .int .u8 t1] t)) g2 A2 n2 c2 S2 m2 d2 j2 B2 o2 e2 k2 s2 v2 y2 t2 t; rwa [show (w.alloc (.cells #[.int .u8 g1, .slice A1 n1 c1, .slice S1 m1 d1, .bool j1, .slice B1 o1 e1, .int .u8 k1, .int .i64 s1, .int .i64 v1, .bool y1, .int .u8 t1] t)).heap.size = w.heap.size + 1 by simp] at this⟩
set_option maxHeartbeats 4000000 in
theorem ralk_0 (g1 : Int) (A1 : Option Addr) (n1 c1 : Nat) (S1 : Option Addr) (m1 d1 : Nat) (j1 : Bool) (B1 : Option Addr) (o1 e1 : Nat) (k1 s1 v1 : Int) (y1 : Bool) (t1 : Int) (g2 : Int) (A2 : Option Addr) (n2 c2 : Nat) (S2 : Option Addr) (m2 d2 : Nat) (j2 : Bool) (B2 : Option Addr) (o2 e2 : Nat) (k2 s2 v2 : Int) (y2 : Bool) (t2 : Int) (L1 M1 : List Nd) (l1 : List Int) (L2 M2 : List Nd) (l2 : List Int) (w : World) (h : QA w A1 n1 S1 m1 B1 o1 L1 M1 l1) (h2 : QA w A2 n2 S2 m2 B2 o2 L2 M2 l2) (z1 : n1 ≤ 70) (z2 : n2 ≤ 70) (z3 : o1 ≤ 70) (z4 : o2 ≤ 70) (z5 : m1 ≤ 10) (z6 : m2 ≤ 10)  (cc0 : g1 ≠ g2) :
    Calls Try.prog 22 #[.agg #[.int .u8 g1, .slice A1 n1 c1, .slice S1 m1 d1, .bool j1, .slice B1 o1 e1, .int .u8 k1, .int .i64 s1, .int .i64 v1, .bool y1, .int .u8 t1], .agg #[.int .u8 g2, .slice A2 n2 c2, .slice S2 m2 d2, .bool j2, .slice B2 o2 e2, .int .u8 k2, .int .i64 s2, .int .i64 v2, .bool y2, .int .u8 t2]] w fun e w' => e = .returned (.bool false) ∧ Below w.heap.size w w' := by
  have b0 := fun t => QX2.new w g1 A1 n1 c1 S1 m1 d1 j1 B1 o1 e1 k1 s1 v1 y1 t1 g2 A2 n2 c2 S2 m2 d2 j2 B2 o2 e2 k2 s2 v2 y2 t2 t
  clear h h2 z1 z2 z3 z4 z5 z6
  have i0 : (g1 == g2) = false := by simpa using cc0
  clear cc0
  go_enter Try.func22, Try.ntmps22
  go_wp2
  go_ret
  exact ⟨rfl, (b0 _).bl⟩
set_option maxHeartbeats 4000000 in
theorem ralk_1 (g1 : Int) (A1 : Option Addr) (n1 c1 : Nat) (S1 : Option Addr) (m1 d1 : Nat) (j1 : Bool) (B1 : Option Addr) (o1 e1 : Nat) (k1 s1 v1 : Int) (y1 : Bool) (t1 : Int) (g2 : Int) (A2 : Option Addr) (n2 c2 : Nat) (S2 : Option Addr) (m2 d2 : Nat) (j2 : Bool) (B2 : Option Addr) (o2 e2 : Nat) (k2 s2 v2 : Int) (y2 : Bool) (t2 : Int) (L1 M1 : List Nd) (l1 : List Int) (L2 M2 : List Nd) (l2 : List Int) (w : World) (h : QA w A1 n1 S1 m1 B1 o1 L1 M1 l1) (h2 : QA w A2 n2 S2 m2 B2 o2 L2 M2 l2) (z1 : n1 ≤ 70) (z2 : n2 ≤ 70) (z3 : o1 ≤ 70) (z4 : o2 ≤ 70) (z5 : m1 ≤ 10) (z6 : m2 ≤ 10) (cc0 : g1 = g2) (cc1 : alikeF L1 L2 = false) :
    Calls Try.prog 22 #[.agg #[.int .u8 g1, .slice A1 n1 c1, .slice S1 m1 d1, .bool j1, .slice B1 o1 e1, .int .u8 k1, .int .i64 s1, .int .i64 v1, .bool y1, .int .u8 t1], .agg #[.int .u8 g2, .slice A2 n2 c2, .slice S2 m2 d2, .bool j2, .slice B2 o2 e2, .int .u8 k2, .int .i64 s2, .int .i64 v2, .bool y2, .int .u8 t2]] w fun e w' => e = .returned (.bool false) ∧ Below w.heap.size w w' := by
  have HA := Lib.hid (fun W (hb : Bl w W) => ralike_any A1 A2 n1 n2 c1 c2 L1 L2 W h.1.2.1 h2.1.2.1 (by omega) (by omega) (hb.lies h.1.1) (hb.lies h2.1.1) _ cc1)
  have b0 := fun t => QX2.new w g1 A1 n1 c1 S1 m1 d1 j1 B1 o1 e1 k1 s1 v1 y1 t1 g2 A2 n2 c2 S2 m2 d2 j2 B2 o2 e2 k2 s2 v2 y2 t2 t
  clear h h2 z1 z2 z3 z4 z5 z6
  clear cc1
  subst cc0
  go_enter Try.func22, Try.ntmps22
  go_wp2_with (first
    | (go_at_call 38; ((with_reducible refine (HA.out _ (b0 _).bl).mono ?_); rintro e w1 ⟨rfl, hb⟩; have b1 := (b0 _).step hb; clear hb b0; obtain ⟨y1, y10, y11, y12, y13, y14, y15, y16, y17, y18, y19⟩ := b1.1.cells; obtain ⟨z1, z10, z11, z12, z13, z14, z15, z16, z17, z18, z19⟩ := b1.2.cells)))
  go_ret
  exact ⟨rfl, b1.bl⟩
set_option maxHeartbeats 4000000 in
theorem ralk_2 (g1 : Int) (A1 : Option Addr) (n1 c1 : Nat) (S1 : Option Addr) (m1 d1 : Nat) (j1 : Bool) (B1 : Option Addr) (o1 e1 : Nat) (k1 s1 v1 : Int) (y1 : Bool) (t1 : Int) (g2 : Int) (A2 : Option Addr) (n2 c2 : Nat) (S2 : Option Addr) (m2 d2 : Nat) (j2 : Bool) (B2 : Option Addr) (o2 e2 : Nat) (k2 s2 v2 : Int) (y2 : Bool) (t2 : Int) (L1 M1 : List Nd) (l1 : List Int) (L2 M2 : List Nd) (l2 : List Int) (w : World) (h : QA w A1 n1 S1 m1 B1 o1 L1 M1 l1) (h2 : QA w A2 n2 S2 m2 B2 o2 L2 M2 l2) (z1 : n1 ≤ 70) (z2 : n2 ≤ 70) (z3 : o1 ≤ 70) (z4 : o2 ≤ 70) (z5 : m1 ≤ 10) (z6 : m2 ≤ 10) (cc0 : g1 = g2) (cc1 : alikeF L1 L2 = true) (cc2 : l1 ≠ l2) :
    Calls Try.prog 22 #[.agg #[.int .u8 g1, .slice A1 n1 c1, .slice S1 m1 d1, .bool j1, .slice B1 o1 e1, .int .u8 k1, .int .i64 s1, .int .i64 v1, .bool y1, .int .u8 t1], .agg #[.int .u8 g2, .slice A2 n2 c2, .slice S2 m2 d2, .bool j2, .slice B2 o2 e2, .int .u8 k2, .int .i64 s2, .int .i64 v2, .bool y2, .int .u8 t2]] w fun e w' => e = .returned (.bool false) ∧ Below w.heap.size w w' := by
  have HA := Lib.hid (fun W (hb : Bl w W) => ralike_any A1 A2 n1 n2 c1 c2 L1 L2 W h.1.2.1 h2.1.2.1 (by omega) (by omega) (hb.lies h.1.1) (hb.lies h2.1.1) _ cc1)
  have HS := Lib.hid (fun W (hb : Bl w W) => samesrc_any S1 S2 m1 m2 d1 d2 l1 l2 W h.2.1.2 h2.2.1.2 (by omega) (by omega) (hb.lies h.2.1.1) (hb.lies h2.2.1.1) false (decide_eq_false cc2))
  have b0 := fun t => QX2.new w g1 A1 n1 c1 S1 m1 d1 j1 B1 o1 e1 k1 s1 v1 y1 t1 g2 A2 n2 c2 S2 m2 d2 j2 B2 o2 e2 k2 s2 v2 y2 t2 t
  clear h h2 z1 z2 z3 z4 z5 z6
  clear cc1 cc2
  subst cc0
  go_enter Try.func22, Try.ntmps22
  go_wp2_with (first
    | (go_at_call 38; ((with_reducible refine (HA.out _ (b0 _).bl).mono ?_); rintro e w1 ⟨rfl, hb⟩; have b1 := (b0 _).step hb; clear hb b0; obtain ⟨y1, y10, y11, y12, y13, y14, y15, y16, y17, y18, y19⟩ := b1.1.cells; obtain ⟨z1, z10, z11, z12, z13, z14, z15, z16, z17, z18, z19⟩ := b1.2.cells))
    | (go_at_call 39; ((with_reducible refine (HS.out _ b1.bl).mono ?_); rintro e w2 ⟨rfl, hb⟩; have b2 := b1.step hb; clear hb b1; obtain ⟨y2, y20, y21, y22, y23, y24, y25, y26, y27, y28, y29⟩ := b2.1.cells; obtain ⟨z2, z20, z21, z22, z23, z24, z25, z26, z27, z28, z29⟩ := b2.2.cells)))
  go_ret
  exact ⟨rfl, b2.bl⟩
set_option maxHeartbeats 4000000 in
theorem ralk_3 (g1 : Int) (A1 : Option Addr) (n1 c1 : Nat) (S1 : Option Addr) (m1 d1 : Nat) (j1 : Bool) (B1 : Option Addr) (o1 e1 : Nat) (k1 s1 v1 : Int) (y1 : Bool) (t1 : Int) (g2 : Int) (A2 : Option Addr) (n2 c2 : Nat) (S2 : Option Addr) (m2 d2 : Nat) (j2 : Bool) (B2 : Option Addr) (o2 e2 : Nat) (k2 s2 v2 : Int) (y2 : Bool) (t2 : Int) (L1 M1 : List Nd) (l1 : List Int) (L2 M2 : List Nd) (l2 : List Int) (w : World) (h : QA w A1 n1 S1 m1 B1 o1 L1 M1 l1) (h2 : QA w A2 n2 S2 m2 B2 o2 L2 M2 l2) (z1 : n1 ≤ 70) (z2 : n2 ≤ 70) (z3 : o1 ≤ 70) (z4 : o2 ≤ 70) (z5 : m1 ≤ 10) (z6 : m2 ≤ 10) (cc0 : g1 = g2) (cc1 : alikeF L1 L2 = true) (cc2 : l1 = l2) (cc3 : j1 ≠ j2) :
    Calls Try.prog 22 #[.agg #[.int .u8 g1, .slice A1 n1 c1, .slice S1 m1 d1, .bool j1, .slice B1 o1 e1, .int .u8 k1, .int .i64 s1, .int .i64 v1, .bool y1, .int .u8 t1], .agg #[.int .u8 g2, .slice A2 n2 c2, .slice S2 m2 d2, .bool j2, .slice B2 o2 e2, .int .u8 k2, .int .i64 s2, .int .i64 v2, .bool y2, .int .u8 t2]] w fun e w' => e = .returned (.bool false) ∧ Below w.heap.size w w' := by
  have HA := Lib.hid (fun W (hb : Bl w W) => ralike_any A1 A2 n1 n2 c1 c2 L1 L2 W h.1.2.1 h2.1.2.1 (by omega) (by omega) (hb.lies h.1.1) (hb.lies h2.1.1) _ cc1)
  have HS := Lib.hid (fun W (hb : Bl w W) => samesrc_any S1 S2 m1 m2 d1 d2 l1 l2 W h.2.1.2 h2.2.1.2 (by omega) (by omega) (hb.lies h.2.1.1) (hb.lies h2.2.1.1) true (decide_eq_true cc2))
  have b0 := fun t => QX2.new w g1 A1 n1 c1 S1 m1 d1 j1 B1 o1 e1 k1 s1 v1 y1 t1 g2 A2 n2 c2 S2 m2 d2 j2 B2 o2 e2 k2 s2 v2 y2 t2 t
  clear h h2 z1 z2 z3 z4 z5 z6
  clear cc1 cc2
  subst cc0
  have i3 : (j1 == j2) = false := by simpa using cc3
  clear cc3
  go_enter Try.func22, Try.ntmps22
  go_wp2_with (first
    | (go_at_call 38; ((with_reducible refine (HA.out _ (b0 _).bl).mono ?_); rintro e w1 ⟨rfl, hb⟩; have b1 := (b0 _).step hb; clear hb b0; obtain ⟨y1, y10, y11, y12, y13, y14, y15, y16, y17, y18, y19⟩ := b1.1.cells; obtain ⟨z1, z10, z11, z12, z13, z14, z15, z16, z17, z18, z19⟩ := b1.2.cells))
    | (go_at_call 39; ((with_reducible refine (HS.out _ b1.bl).mono ?_); rintro e w2 ⟨rfl, hb⟩; have b2 := b1.step hb; clear hb b1; obtain ⟨y2, y20, y21, y22, y23, y24, y25, y26, y27, y28, y29⟩ := b2.1.cells; obtain ⟨z2, z20, z21, z22, z23, z24, z25, z26, z27, z28, z29⟩ := b2.2.cells)))
  go_ret
  exact ⟨rfl, b2.bl⟩
set_option maxHeartbeats 4000000 in
theorem ralk_4 (g1 : Int) (A1 : Option Addr) (n1 c1 : Nat) (S1 : Option Addr) (m1 d1 : Nat) (j1 : Bool) (B1 : Option Addr) (o1 e1 : Nat) (k1 s1 v1 : Int) (y1 : Bool) (t1 : Int) (g2 : Int) (A2 : Option Addr) (n2 c2 : Nat) (S2 : Option Addr) (m2 d2 : Nat) (j2 : Bool) (B2 : Option Addr) (o2 e2 : Nat) (k2 s2 v2 : Int) (y2 : Bool) (t2 : Int) (L1 M1 : List Nd) (l1 : List Int) (L2 M2 : List Nd) (l2 : List Int) (w : World) (h : QA w A1 n1 S1 m1 B1 o1 L1 M1 l1) (h2 : QA w A2 n2 S2 m2 B2 o2 L2 M2 l2) (z1 : n1 ≤ 70) (z2 : n2 ≤ 70) (z3 : o1 ≤ 70) (z4 : o2 ≤ 70) (z5 : m1 ≤ 10) (z6 : m2 ≤ 10) (cc0 : g1 = g2) (cc1 : alikeF L1 L2 = true) (cc2 : l1 = l2) (cc3 : j1 = j2) (cc4 : alikeF M1 M2 = false) :
    Calls Try.prog 22 #[.agg #[.int .u8 g1, .slice A1 n1 c1, .slice S1 m1 d1, .bool j1, .slice B1 o1 e1, .int .u8 k1, .int .i64 s1, .int .i64 v1, .bool y1, .int .u8 t1], .agg #[.int .u8 g2, .slice A2 n2 c2, .slice S2 m2 d2, .bool j2, .slice B2 o2 e2, .int .u8 k2, .int .i64 s2, .int .i64 v2, .bool y2, .int .u8 t2]] w fun e w' => e = .returned (.bool false) ∧ Below w.heap.size w w' := by
  have HA := Lib.hid (fun W (hb : Bl w W) => ralike_any A1 A2 n1 n2 c1 c2 L1 L2 W h.1.2.1 h2.1.2.1 (by omega) (by omega) (hb.lies h.1.1) (hb.lies h2.1.1) _ cc1)
  have HS := Lib.hid (fun W (hb : Bl w W) => samesrc_any S1 S2 m1 m2 d1 d2 l1 l2 W h.2.1.2 h2.2.1.2 (by omega) (by omega) (hb.lies h.2.1.1) (hb.lies h2.2.1.1) true (decide_eq_true cc2))
  have HB := Lib.hid (fun W (hb : Bl w W) => ralike_any B1 B2 o1 o2 e1 e2 M1 M2 W h.2.2.2.1 h2.2.2.2.1 (by omega) (by omega) (hb.lies h.2.2.1) (hb.lies h2.2.2.1) _ cc4)
  have b0 := fun t => QX2.new w g1 A1 n1 c1 S1 m1 d1 j1 B1 o1 e1 k1 s1 v1 y1 t1 g2 A2 n2 c2 S2 m2 d2 j2 B2 o2 e2 k2 s2 v2 y2 t2 t
  clear h h2 z1 z2 z3 z4 z5 z6
  clear cc1 cc2 cc4
  subst cc0
  subst cc3
  go_enter Try.func22, Try.ntmps22
  go_wp2_with (first
    | (go_at_call 38; ((with_reducible refine (HA.out _ (b0 _).bl).mono ?_); rintro e w1 ⟨rfl, hb⟩; have b1 := (b0 _).step hb; clear hb b0; obtain ⟨y1, y10, y11, y12, y13, y14, y15, y16, y17, y18, y19⟩ := b1.1.cells; obtain ⟨z1, z10, z11, z12, z13, z14, z15, z16, z17, z18, z19⟩ := b1.2.cells))
    | (go_at_call 39; ((with_reducible refine (HS.out _ b1.bl).mono ?_); rintro e w2 ⟨rfl, hb⟩; have b2 := b1.step hb; clear hb b1; obtain ⟨y2, y20, y21, y22, y23, y24, y25, y26, y27, y28, y29⟩ := b2.1.cells; obtain ⟨z2, z20, z21, z22, z23, z24, z25, z26, z27, z28, z29⟩ := b2.2.cells))
    | (go_at_call 38; ((with_reducible refine (HB.out _ b2.bl).mono ?_); rintro e w3 ⟨rfl, hb⟩; have b3 := b2.step hb; clear hb b2; obtain ⟨y3, y30, y31, y32, y33, y34, y35, y36, y37, y38, y39⟩ := b3.1.cells; obtain ⟨z3, z30, z31, z32, z33, z34, z35, z36, z37, z38, z39⟩ := b3.2.cells)))
  go_ret
  exact ⟨rfl, b3.bl⟩
set_option maxHeartbeats 4000000 in
theorem ralk_5 (g1 : Int) (A1 : Option Addr) (n1 c1 : Nat) (S1 : Option Addr) (m1 d1 : Nat) (j1 : Bool) (B1 : Option Addr) (o1 e1 : Nat) (k1 s1 v1 : Int) (y1 : Bool) (t1 : Int) (g2 : Int) (A2 : Option Addr) (n2 c2 : Nat) (S2 : Option Addr) (m2 d2 : Nat) (j2 : Bool) (B2 : Option Addr) (o2 e2 : Nat) (k2 s2 v2 : Int) (y2 : Bool) (t2 : Int) (L1 M1 : List Nd) (l1 : List Int) (L2 M2 : List Nd) (l2 : List Int) (w : World) (h : QA w A1 n1 S1 m1 B1 o1 L1 M1 l1) (h2 : QA w A2 n2 S2 m2 B2 o2 L2 M2 l2) (z1 : n1 ≤ 70) (z2 : n2 ≤ 70) (z3 : o1 ≤ 70) (z4 : o2 ≤ 70) (z5 : m1 ≤ 10) (z6 : m2 ≤ 10) (cc0 : g1 = g2) (cc1 : alikeF L1 L2 = true) (cc2 : l1 = l2) (cc3 : j1 = j2) (cc4 : alikeF M1 M2 = true) (cc5 : (decide (k1 = k2) && decide (s1 = s2) && decide (v1 = v2)) = false) :
    Calls Try.prog 22 #[.agg #[.int .u8 g1, .slice A1 n1 c1, .slice S1 m1 d1, .bool j1, .slice B1 o1 e1, .int .u8 k1, .int .i64 s1, .int .i64 v1, .bool y1, .int .u8 t1], .agg #[.int .u8 g2, .slice A2 n2 c2, .slice S2 m2 d2, .bool j2, .slice B2 o2 e2, .int .u8 k2, .int .i64 s2, .int .i64 v2, .bool y2, .int .u8 t2]] w fun e w' => e = .returned (.bool false) ∧ Below w.heap.size w w' := by
  have HA := Lib.hid (fun W (hb : Bl w W) => ralike_any A1 A2 n1 n2 c1 c2 L1 L2 W h.1.2.1 h2.1.2.1 (by omega) (by omega) (hb.lies h.1.1) (hb.lies h2.1.1) _ cc1)
  have HS := Lib.hid (fun W (hb : Bl w W) => samesrc_any S1 S2 m1 m2 d1 d2 l1 l2 W h.2.1.2 h2.2.1.2 (by omega) (by omega) (hb.lies h.2.1.1) (hb.lies h2.2.1.1) true (decide_eq_true cc2))
  have HB := Lib.hid (fun W (hb : Bl w W) => ralike_any B1 B2 o1 o2 e1 e2 M1 M2 W h.2.2.2.1 h2.2.2.2.1 (by omega) (by omega) (hb.lies h.2.2.1) (hb.lies h2.2.2.1) _ cc4)
  have HW := eq_win k1 s1 v1 k2 s2 v2 _ cc5
  have b0 := fun t => QX2.new w g1 A1 n1 c1 S1 m1 d1 j1 B1 o1 e1 k1 s1 v1 y1 t1 g2 A2 n2 c2 S2 m2 d2 j2 B2 o2 e2 k2 s2 v2 y2 t2 t
  clear h h2 z1 z2 z3 z4 z5 z6
  clear cc1 cc2 cc4 cc5
  subst cc0
  subst cc3
  go_enter Try.func22, Try.ntmps22
  go_wp2_with (first
    | (go_at_call 38; ((with_reducible refine (HA.out _ (b0 _).bl).mono ?_); rintro e w1 ⟨rfl, hb⟩; have b1 := (b0 _).step hb; clear hb b0; obtain ⟨y1, y10, y11, y12, y13, y14, y15, y16, y17, y18, y19⟩ := b1.1.cells; obtain ⟨z1, z10, z11, z12, z13, z14, z15, z16, z17, z18, z19⟩ := b1.2.cells))
    | (go_at_call 39; ((with_reducible refine (HS.out _ b1.bl).mono ?_); rintro e w2 ⟨rfl, hb⟩; have b2 := b1.step hb; clear hb b1; obtain ⟨y2, y20, y21, y22, y23, y24, y25, y26, y27, y28, y29⟩ := b2.1.cells; obtain ⟨z2, z20, z21, z22, z23, z24, z25, z26, z27, z28, z29⟩ := b2.2.cells))
    | (go_at_call 38; ((with_reducible refine (HB.out _ b2.bl).mono ?_); rintro e w3 ⟨rfl, hb⟩; have b3 := b2.step hb; clear hb b2; obtain ⟨y3, y30, y31, y32, y33, y34, y35, y36, y37, y38, y39⟩ := b3.1.cells; obtain ⟨z3, z30, z31, z32, z33, z34, z35, z36, z37, z38, z39⟩ := b3.2.cells)))
  go_ret
  exact ⟨rfl, b3.bl⟩
set_option maxHeartbeats 4000000 in
theorem ralk_6 (g1 : Int) (A1 : Option Addr) (n1 c1 : Nat) (S1 : Option Addr) (m1 d1 : Nat) (j1 : Bool) (B1 : Option Addr) (o1 e1 : Nat) (k1 s1 v1 : Int) (y1 : Bool) (t1 : Int) (g2 : Int) (A2 : Option Addr) (n2 c2 : Nat) (S2 : Option Addr) (m2 d2 : Nat) (j2 : Bool) (B2 : Option Addr) (o2 e2 : Nat) (k2 s2 v2 : Int) (y2 : Bool) (t2 : Int) (L1 M1 : List Nd) (l1 : List Int) (L2 M2 : List Nd) (l2 : List Int) (w : World) (h : QA w A1 n1 S1 m1 B1 o1 L1 M1 l1) (h2 : QA w A2 n2 S2 m2 B2 o2 L2 M2 l2) (z1 : n1 ≤ 70) (z2 : n2 ≤ 70) (z3 : o1 ≤ 70) (z4 : o2 ≤ 70) (z5 : m1 ≤ 10) (z6 : m2 ≤ 10) (cc0 : g1 = g2) (cc1 : alikeF L1 L2 = true) (cc2 : l1 = l2) (cc3 : j1 = j2) (cc4 : alikeF M1 M2 = true) (cc5 : (decide (k1 = k2) && decide (s1 = s2) && decide (v1 = v2)) = true) (cc6 : y1 ≠ y2) :
    Calls Try.prog 22 #[.agg #[.int .u8 g1, .slice A1 n1 c1, .slice S1 m1 d1, .bool j1, .slice B1 o1 e1, .int .u8 k1, .int .i64 s1, .int .i64 v1, .bool y1, .int .u8 t1], .agg #[.int .u8 g2, .slice A2 n2 c2, .slice S2 m2 d2, .bool j2, .slice B2 o2 e2, .int .u8 k2, .int .i64 s2, .int .i64 v2, .bool y2, .int .u8 t2]] w fun e w' => e = .returned (.bool false) ∧ Below w.heap.size w w' := by
  have HA := Lib.hid (fun W (hb : Bl w W) => ralike_any A1 A2 n1 n2 c1 c2 L1 L2 W h.1.2.1 h2.1.2.1 (by omega) (by omega) (hb.lies h.1.1) (hb.lies h2.1.1) _ cc1)
  have HS := Lib.hid (fun W (hb : Bl w W) => samesrc_any S1 S2 m1 m2 d1 d2 l1 l2 W h.2.1.2 h2.2.1.2 (by omega) (by omega) (hb.lies h.2.1.1) (hb.lies h2.2.1.1) true (decide_eq_true cc2))
  have HB := Lib.hid (fun W (hb : Bl w W) => ralike_any B1 B2 o1 o2 e1 e2 M1 M2 W h.2.2.2.1 h2.2.2.2.1 (by omega) (by omega) (hb.lies h.2.2.1) (hb.lies h2.2.2.1) _ cc4)
  have HW := eq_win k1 s1 v1 k2 s2 v2 _ cc5
  have b0 := fun t => QX2.new w g1 A1 n1 c1 S1 m1 d1 j1 B1 o1 e1 k1 s1 v1 y1 t1 g2 A2 n2 c2 S2 m2 d2 j2 B2 o2 e2 k2 s2 v2 y2 t2 t
  clear h h2 z1 z2 z3 z4 z5 z6
  clear cc1 cc2 cc4 cc5
  subst cc0
  subst cc3
  have i6 : (y1 == y2) = false := by simpa using cc6
  clear cc6
  go_enter Try.func22, Try.ntmps22
  go_wp2_with (first
    | (go_at_call 38; ((with_reducible refine (HA.out _ (b0 _).bl).mono ?_); rintro e w1 ⟨rfl, hb⟩; have b1 := (b0 _).step hb; clear hb b0; obtain ⟨y1, y10, y11, y12, y13, y14, y15, y16, y17, y18, y19⟩ := b1.1.cells; obtain ⟨z1, z10, z11, z12, z13, z14, z15, z16, z17, z18, z19⟩ := b1.2.cells))
    | (go_at_call 39; ((with_reducible refine (HS.out _ b1.bl).mono ?_); rintro e w2 ⟨rfl, hb⟩; have b2 := b1.step hb; clear hb b1; obtain ⟨y2, y20, y21, y22, y23, y24, y25, y26, y27, y28, y29⟩ := b2.1.cells; obtain ⟨z2, z20, z21, z22, z23, z24, z25, z26, z27, z28, z29⟩ := b2.2.cells))
    | (go_at_call 38; ((with_reducible refine (HB.out _ b2.bl).mono ?_); rintro e w3 ⟨rfl, hb⟩; have b3 := b2.step hb; clear hb b2; obtain ⟨y3, y30, y31, y32, y33, y34, y35, y36, y37, y38, y39⟩ := b3.1.cells; obtain ⟨z3, z30, z31, z32, z33, z34, z35, z36, z37, z38, z39⟩ := b3.2.cells)))
  go_ret
  exact ⟨rfl, b3.bl⟩
set_option maxHeartbeats 4000000 in
theorem ralk_7 (g1 : Int) (A1 : Option Addr) (n1 c1 : Nat) (S1 : Option Addr) (m1 d1 : Nat) (j1 : Bool) (B1 : Option Addr) (o1 e1 : Nat) (k1 s1 v1 : Int) (y1 : Bool) (t1 : Int) (g2 : Int) (A2 : Option Addr) (n2 c2 : Nat) (S2 : Option Addr) (m2 d2 : Nat) (j2 : Bool) (B2 : Option Addr) (o2 e2 : Nat) (k2 s2 v2 : Int) (y2 : Bool) (t2 : Int) (L1 M1 : List Nd) (l1 : List Int) (L2 M2 : List Nd) (l2 : List Int) (w : World) (h : QA w A1 n1 S1 m1 B1 o1 L1 M1 l1) (h2 : QA w A2 n2 S2 m2 B2 o2 L2 M2 l2) (z1 : n1 ≤ 70) (z2 : n2 ≤ 70) (z3 : o1 ≤ 70) (z4 : o2 ≤ 70) (z5 : m1 ≤ 10) (z6 : m2 ≤ 10) (cc0 : g1 = g2) (cc1 : alikeF L1 L2 = true) (cc2 : l1 = l2) (cc3 : j1 = j2) (cc4 : alikeF M1 M2 = true) (cc5 : (decide (k1 = k2) && decide (s1 = s2) && decide (v1 = v2)) = true) (cc6 : y1 = y2) (cc7 : t1 ≠ t2) :
    Calls Try.prog 22 #[.agg #[.int .u8 g1, .slice A1 n1 c1, .slice S1 m1 d1, .bool j1, .slice B1 o1 e1, .int .u8 k1, .int .i64 s1, .int .i64 v1, .bool y1, .int .u8 t1], .agg #[.int .u8 g2, .slice A2 n2 c2, .slice S2 m2 d2, .bool j2, .slice B2 o2 e2, .int .u8 k2, .int .i64 s2, .int .i64 v2, .bool y2, .int .u8 t2]] w fun e w' => e = .returned (.bool false) ∧ Below w.heap.size w w' := by
  have HA := Lib.hid (fun W (hb : Bl w W) => ralike_any A1 A2 n1 n2 c1 c2 L1 L2 W h.1.2.1 h2.1.2.1 (by omega) (by omega) (hb.lies h.1.1) (hb.lies h2.1.1) _ cc1)
  have HS := Lib.hid (fun W (hb : Bl w W) => samesrc_any S1 S2 m1 m2 d1 d2 l1 l2 W h.2.1.2 h2.2.1.2 (by omega) (by omega) (hb.lies h.2.1.1) (hb.lies h2.2.1.1) true (decide_eq_true cc2))
  have HB := Lib.hid (fun W (hb : Bl w W) => ralike_any B1 B2 o1 o2 e1 e2 M1 M2 W h.2.2.2.1 h2.2.2.2.1 (by omega) (by omega) (hb.lies h.2.2.1) (hb.lies h2.2.2.1) _ cc4)
  have HW := eq_win k1 s1 v1 k2 s2 v2 _ cc5
  have b0 := fun t => QX2.new w g1 A1 n1 c1 S1 m1 d1 j1 B1 o1 e1 k1 s1 v1 y1 t1 g2 A2 n2 c2 S2 m2 d2 j2 B2 o2 e2 k2 s2 v2 y2 t2 t
  clear h h2 z1 z2 z3 z4 z5 z6
  clear cc1 cc2 cc4 cc5
  subst cc0
  subst cc3
  subst cc6
  have i7 : (t1 == t2) = false := by simpa using cc7
  clear cc7
  go_enter Try.func22, Try.ntmps22
  go_wp2_with (first
    | (go_at_call 38; ((with_reducible refine (HA.out _ (b0 _).bl).mono ?_); rintro e w1 ⟨rfl, hb⟩; have b1 := (b0 _).step hb; clear hb b0; obtain ⟨y1, y10, y11, y12, y13, y14, y15, y16, y17, y18, y19⟩ := b1.1.cells; obtain ⟨z1, z10, z11, z12, z13, z14, z15, z16, z17, z18, z19⟩ := b1.2.cells))
    | (go_at_call 39; ((with_reducible refine (HS.out _ b1.bl).mono ?_); rintro e w2 ⟨rfl, hb⟩; have b2 := b1.step hb; clear hb b1; obtain ⟨y2, y20, y21, y22, y23, y24, y25, y26, y27, y28, y29⟩ := b2.1.cells; obtain ⟨z2, z20, z21, z22, z23, z24, z25, z26, z27, z28, z29⟩ := b2.2.cells))
    | (go_at_call 38; ((with_reducible refine (HB.out _ b2.bl).mono ?_); rintro e w3 ⟨rfl, hb⟩; have b3 := b2.step hb; clear hb b2; obtain ⟨y3, y30, y31, y32, y33, y34, y35, y36, y37, y38, y39⟩ := b3.1.cells; obtain ⟨z3, z30, z31, z32, z33, z34, z35, z36, z37, z38, z39⟩ := b3.2.cells)))
  go_ret
  exact ⟨rfl, b3.bl⟩
set_option maxHeartbeats 4000000 in
theorem ralk_8 (g1 : Int) (A1 : Option Addr) (n1 c1 : Nat) (S1 : Option Addr) (m1 d1 : Nat) (j1 : Bool) (B1 : Option Addr) (o1 e1 : Nat) (k1 s1 v1 : Int) (y1 : Bool) (t1 : Int) (g2 : Int) (A2 : Option Addr) (n2 c2 : Nat) (S2 : Option Addr) (m2 d2 : Nat) (j2 : Bool) (B2 : Option Addr) (o2 e2 : Nat) (k2 s2 v2 : Int) (y2 : Bool) (t2 : Int) (L1 M1 : List Nd) (l1 : List Int) (L2 M2 : List Nd) (l2 : List Int) (w : World) (h : QA w A1 n1 S1 m1 B1 o1 L1 M1 l1) (h2 : QA w A2 n2 S2 m2 B2 o2 L2 M2 l2) (z1 : n1 ≤ 70) (z2 : n2 ≤ 70) (z3 : o1 ≤ 70) (z4 : o2 ≤ 70) (z5 : m1 ≤ 10) (z6 : m2 ≤ 10) (cc0 : g1 = g2) (cc1 : alikeF L1 L2 = true) (cc2 : l1 = l2) (cc3 : j1 = j2) (cc4 : alikeF M1 M2 = true) (cc5 : (decide (k1 = k2) && decide (s1 = s2) && decide (v1 = v2)) = true) (cc6 : y1 = y2) (cc7 : t1 = t2) :
    Calls Try.prog 22 #[.agg #[.int .u8 g1, .slice A1 n1 c1, .slice S1 m1 d1, .bool j1, .slice B1 o1 e1, .int .u8 k1, .int .i64 s1, .int .i64 v1, .bool y1, .int .u8 t1], .agg #[.int .u8 g2, .slice A2 n2 c2, .slice S2 m2 d2, .bool j2, .slice B2 o2 e2, .int .u8 k2, .int .i64 s2, .int .i64 v2, .bool y2, .int .u8 t2]] w fun e w' => e = .returned (.bool true) ∧ Below w.heap.size w w' := by
  have HA := Lib.hid (fun W (hb : Bl w W) => ralike_any A1 A2 n1 n2 c1 c2 L1 L2 W h.1.2.1 h2.1.2.1 (by omega) (by omega) (hb.lies h.1.1) (hb.lies h2.1.1) _ cc1)
  have HS := Lib.hid (fun W (hb : Bl w W) => samesrc_any S1 S2 m1 m2 d1 d2 l1 l2 W h.2.1.2 h2.2.1.2 (by omega) (by omega) (hb.lies h.2.1.1) (hb.lies h2.2.1.1) true (decide_eq_true cc2))
  have HB := Lib.hid (fun W (hb : Bl w W) => ralike_any B1 B2 o1 o2 e1 e2 M1 M2 W h.2.2.2.1 h2.2.2.2.1 (by omega) (by omega) (hb.lies h.2.2.1) (hb.lies h2.2.2.1) _ cc4)
  have HW := eq_win k1 s1 v1 k2 s2 v2 _ cc5
  have b0 := fun t => QX2.new w g1 A1 n1 c1 S1 m1 d1 j1 B1 o1 e1 k1 s1 v1 y1 t1 g2 A2 n2 c2 S2 m2 d2 j2 B2 o2 e2 k2 s2 v2 y2 t2 t
  clear h h2 z1 z2 z3 z4 z5 z6
  clear cc1 cc2 cc4 cc5
  subst cc0
  subst cc3
  subst cc6
  subst cc7
  go_enter Try.func22, Try.ntmps22
  go_wp2_with (first
    | (go_at_call 38; ((with_reducible refine (HA.out _ (b0 _).bl).mono ?_); rintro e w1 ⟨rfl, hb⟩; have b1 := (b0 _).step hb; clear hb b0; obtain ⟨y1, y10, y11, y12, y13, y14, y15, y16, y17, y18, y19⟩ := b1.1.cells; obtain ⟨z1, z10, z11, z12, z13, z14, z15, z16, z17, z18, z19⟩ := b1.2.cells))
    | (go_at_call 39; ((with_reducible refine (HS.out _ b1.bl).mono ?_); rintro e w2 ⟨rfl, hb⟩; have b2 := b1.step hb; clear hb b1; obtain ⟨y2, y20, y21, y22, y23, y24, y25, y26, y27, y28, y29⟩ := b2.1.cells; obtain ⟨z2, z20, z21, z22, z23, z24, z25, z26, z27, z28, z29⟩ := b2.2.cells))
    | (go_at_call 38; ((with_reducible refine (HB.out _ b2.bl).mono ?_); rintro e w3 ⟨rfl, hb⟩; have b3 := b2.step hb; clear hb b2; obtain ⟨y3, y30, y31, y32, y33, y34, y35, y36, y37, y38, y39⟩ := b3.1.cells; obtain ⟨z3, z30, z31, z32, z33, z34, z35, z36, z37, z38, z39⟩ := b3.2.cells)))
  go_ret
  exact ⟨rfl, b3.bl⟩
theorem sameQ_false (g1 : Int) (A1 : Option Addr) (n1 c1 : Nat) (S1 : Option Addr) (m1 d1 : Nat) (j1 : Bool) (B1 : Option Addr) (o1 e1 : Nat) (k1 s1 v1 : Int) (y1 : Bool) (t1 : Int) (g2 : Int) (A2 : Option Addr) (n2 c2 : Nat) (S2 : Option Addr) (m2 d2 : Nat) (j2 : Bool) (B2 : Option Addr) (o2 e2 : Nat) (k2 s2 v2 : Int) (y2 : Bool) (t2 : Int) (L1 M1 : List Nd) (l1 : List Int) (L2 M2 : List Nd) (l2 : List Int) (h : ¬ (g1 = g2 ∧ alikeF L1 L2 = true ∧ l1 = l2 ∧ j1 = j2 ∧ alikeF M1 M2 = true ∧ (decide (k1 = k2) && decide (s1 = s2) && decide (v1 = v2)) = true ∧ y1 = y2 ∧ t1 = t2)) : sameQ ⟨g1, L1, l1, j1, M1, k1, s1, v1, y1, t1⟩ ⟨g2, L2, l2, j2, M2, k2, s2, v2, y2, t2⟩ = false := by
  rw [Bool.eq_false_iff]
  intro hh
  unfold sameQ at hh
  simp only [Bool.and_eq_true, decide_eq_true_eq, beq_iff_eq] at hh
  refine h ⟨hh.1, hh.2.1, hh.2.2.1, hh.2.2.2.1, hh.2.2.2.2.1, ?_, hh.2.2.2.2.2.2.1, hh.2.2.2.2.2.2.2⟩
  simp [hh.2.2.2.2.2.1]
theorem sameQ_true (g1 : Int) (A1 : Option Addr) (n1 c1 : Nat) (S1 : Option Addr) (m1 d1 : Nat) (j1 : Bool) (B1 : Option Addr) (o1 e1 : Nat) (k1 s1 v1 : Int) (y1 : Bool) (t1 : Int) (g2 : Int) (A2 : Option Addr) (n2 c2 : Nat) (S2 : Option Addr) (m2 d2 : Nat) (j2 : Bool) (B2 : Option Addr) (o2 e2 : Nat) (k2 s2 v2 : Int) (y2 : Bool) (t2 : Int) (L1 M1 : List Nd) (l1 : List Int) (L2 M2 : List Nd) (l2 : List Int) (h : g1 = g2 ∧ alikeF L1 L2 = true ∧ l1 = l2 ∧ j1 = j2 ∧ alikeF M1 M2 = true ∧ (decide (k1 = k2) && decide (s1 = s2) && decide (v1 = v2)) = true ∧ y1 = y2 ∧ t1 = t2) : sameQ ⟨g1, L1, l1, j1, M1, k1, s1, v1, y1, t1⟩ ⟨g2, L2, l2, j2, M2, k2, s2, v2, y2, t2⟩ = true := by
  obtain ⟨h1, h2, h3, h4, h5, h6, h7, h8⟩ := h
  unfold sameQ
  simp only [h6]
  subst h1 h3 h4 h7 h8
  simp [h2, h5]
theorem ralk_any (g1 : Int) (A1 : Option Addr) (n1 c1 : Nat) (S1 : Option Addr) (m1 d1 : Nat) (j1 : Bool) (B1 : Option Addr) (o1 e1 : Nat) (k1 s1 v1 : Int) (y1 : Bool) (t1 : Int) (g2 : Int) (A2 : Option Addr) (n2 c2 : Nat) (S2 : Option Addr) (m2 d2 : Nat) (j2 : Bool) (B2 : Option Addr) (o2 e2 : Nat) (k2 s2 v2 : Int) (y2 : Bool) (t2 : Int) (L1 M1 : List Nd) (l1 : List Int) (L2 M2 : List Nd) (l2 : List Int) (w : World) (h : QA w A1 n1 S1 m1 B1 o1 L1 M1 l1) (h2 : QA w A2 n2 S2 m2 B2 o2 L2 M2 l2) (z1 : n1 ≤ 70) (z2 : n2 ≤ 70) (z3 : o1 ≤ 70) (z4 : o2 ≤ 70) (z5 : m1 ≤ 10) (z6 : m2 ≤ 10) (v : Bool) (hv : sameQ ⟨g1, L1, l1, j1, M1, k1, s1, v1, y1, t1⟩ ⟨g2, L2, l2, j2, M2, k2, s2, v2, y2, t2⟩ = v) :
    Calls Try.prog 22 #[.agg #[.int .u8 g1, .slice A1 n1 c1, .slice S1 m1 d1, .bool j1, .slice B1 o1 e1, .int .u8 k1, .int .i64 s1, .int .i64 v1, .bool y1, .int .u8 t1], .agg #[.int .u8 g2, .slice A2 n2 c2, .slice S2 m2 d2, .bool j2, .slice B2 o2 e2, .int .u8 k2, .int .i64 s2, .int .i64 v2, .bool y2, .int .u8 t2]] w fun e w' => e = .returned (.bool v) ∧ Below w.heap.size w w' := by
  by_cases cc0 : g1 = g2
  case neg =>
    obtain rfl : false = v := by rw [← hv]; exact (sameQ_false g1 A1 n1 c1 S1 m1 d1 j1 B1 o1 e1 k1 s1 v1 y1 t1 g2 A2 n2 c2 S2 m2 d2 j2 B2 o2 e2 k2 s2 v2 y2 t2 L1 M1 l1 L2 M2 l2 (fun hh => cc0 hh.1)).symm
    exact ralk_0 g1 A1 n1 c1 S1 m1 d1 j1 B1 o1 e1 k1 s1 v1 y1 t1 g2 A2 n2 c2 S2 m2 d2 j2 B2 o2 e2 k2 s2 v2 y2 t2 L1 M1 l1 L2 M2 l2 w h h2 z1 z2 z3 z4 z5 z6  cc0
  rcases Bool.eq_false_or_eq_true (alikeF L1 L2) with cc1 | cc1
  case inr =>
    obtain rfl : false = v := by rw [← hv]; exact (sameQ_false g1 A1 n1 c1 S1 m1 d1 j1 B1 o1 e1 k1 s1 v1 y1 t1 g2 A2 n2 c2 S2 m2 d2 j2 B2 o2 e2 k2 s2 v2 y2 t2 L1 M1 l1 L2 M2 l2 (fun hh => by have := hh.2.1; rw [cc1] at this; cases this)).symm
    exact ralk_1 g1 A1 n1 c1 S1 m1 d1 j1 B1 o1 e1 k1 s1 v1 y1 t1 g2 A2 n2 c2 S2 m2 d2 j2 B2 o2 e2 k2 s2 v2 y2 t2 L1 M1 l1 L2 M2 l2 w h h2 z1 z2 z3 z4 z5 z6 cc0 cc1
  by_cases cc2 : l1 = l2
  case neg =>
    obtain rfl : false = v := by rw [← hv]; exact (sameQ_false g1 A1 n1 c1 S1 m1 d1 j1 B1 o1 e1 k1 s1 v1 y1 t1 g2 A2 n2 c2 S2 m2 d2 j2 B2 o2 e2 k2 s2 v2 y2 t2 L1 M1 l1 L2 M2 l2 (fun hh => cc2 hh.2.2.1)).symm
    exact ralk_2 g1 A1 n1 c1 S1 m1 d1 j1 B1 o1 e1 k1 s1 v1 y1 t1 g2 A2 n2 c2 S2 m2 d2 j2 B2 o2 e2 k2 s2 v2 y2 t2 L1 M1 l1 L2 M2 l2 w h h2 z1 z2 z3 z4 z5 z6 cc0 cc1 cc2
  by_cases cc3 : j1 = j2
  case neg =>
    obtain rfl : false = v := by rw [← hv]; exact (sameQ_false g1 A1 n1 c1 S1 m1 d1 j1 B1 o1 e1 k1 s1 v1 y1 t1 g2 A2 n2 c2 S2 m2 d2 j2 B2 o2 e2 k2 s2 v2 y2 t2 L1 M1 l1 L2 M2 l2 (fun hh => cc3 hh.2.2.2.1)).symm
    exact ralk_3 g1 A1 n1 c1 S1 m1 d1 j1 B1 o1 e1 k1 s1 v1 y1 t1 g2 A2 n2 c2 S2 m2 d2 j2 B2 o2 e2 k2 s2 v2 y2 t2 L1 M1 l1 L2 M2 l2 w h h2 z1 z2 z3 z4 z5 z6 cc0 cc1 cc2 cc3
  rcases Bool.eq_false_or_eq_true (alikeF M1 M2) with cc4 | cc4
  case inr =>
    obtain rfl : false = v := by rw [← hv]; exact (sameQ_false g1 A1 n1 c1 S1 m1 d1 j1 B1 o1 e1 k1 s1 v1 y1 t1 g2 A2 n2 c2 S2 m2 d2 j2 B2 o2 e2 k2 s2 v2 y2 t2 L1 M1 l1 L2 M2 l2 (fun hh => by have := hh.2.2.2.2.1; rw [cc4] at this; cases this)).symm
    exact ralk_4 g1 A1 n1 c1 S1 m1 d1 j1 B1 o1 e1 k1 s1 v1 y1 t1 g2 A2 n2 c2 S2 m2 d2 j2 B2 o2 e2 k2 s2 v2 y2 t2 L1 M1 l1 L2 M2 l2 w h h2 z1 z2 z3 z4 z5 z6 cc0 cc1 cc2 cc3 cc4
  rcases Bool.eq_false_or_eq_true (decide (k1 = k2) && decide (s1 = s2) && decide (v1 = v2)) with cc5 | cc5
  case inr =>
    obtain rfl : false = v := by rw [← hv]; exact (sameQ_false g1 A1 n1 c1 S1 m1 d1 j1 B1 o1 e1 k1 s1 v1 y1 t1 g2 A2 n2 c2 S2 m2 d2 j2 B2 o2 e2 k2 s2 v2 y2 t2 L1 M1 l1 L2 M2 l2 (fun hh => by have := hh.2.2.2.2.2.1; rw [cc5] at this; cases this)).symm
    exact ralk_5 g1 A1 n1 c1 S1 m1 d1 j1 B1 o1 e1 k1 s1 v1 y1 t1 g2 A2 n2 c2 S2 m2 d2 j2 B2 o2 e2 k2 s2 v2 y2 t2 L1 M1 l1 L2 M2 l2 w h h2 z1 z2 z3 z4 z5 z6 cc0 cc1 cc2 cc3 cc4 cc5
  by_cases cc6 : y1 = y2
  case neg =>
    obtain rfl : false = v := by rw [← hv]; exact (sameQ_false g1 A1 n1 c1 S1 m1 d1 j1 B1 o1 e1 k1 s1 v1 y1 t1 g2 A2 n2 c2 S2 m2 d2 j2 B2 o2 e2 k2 s2 v2 y2 t2 L1 M1 l1 L2 M2 l2 (fun hh => cc6 hh.2.2.2.2.2.2.1)).symm
    exact ralk_6 g1 A1 n1 c1 S1 m1 d1 j1 B1 o1 e1 k1 s1 v1 y1 t1 g2 A2 n2 c2 S2 m2 d2 j2 B2 o2 e2 k2 s2 v2 y2 t2 L1 M1 l1 L2 M2 l2 w h h2 z1 z2 z3 z4 z5 z6 cc0 cc1 cc2 cc3 cc4 cc5 cc6
  by_cases cc7 : t1 = t2
  case neg =>
    obtain rfl : false = v := by rw [← hv]; exact (sameQ_false g1 A1 n1 c1 S1 m1 d1 j1 B1 o1 e1 k1 s1 v1 y1 t1 g2 A2 n2 c2 S2 m2 d2 j2 B2 o2 e2 k2 s2 v2 y2 t2 L1 M1 l1 L2 M2 l2 (fun hh => cc7 hh.2.2.2.2.2.2.2)).symm
    exact ralk_7 g1 A1 n1 c1 S1 m1 d1 j1 B1 o1 e1 k1 s1 v1 y1 t1 g2 A2 n2 c2 S2 m2 d2 j2 B2 o2 e2 k2 s2 v2 y2 t2 L1 M1 l1 L2 M2 l2 w h h2 z1 z2 z3 z4 z5 z6 cc0 cc1 cc2 cc3 cc4 cc5 cc6 cc7
  obtain rfl : true = v := by rw [← hv]; exact (sameQ_true g1 A1 n1 c1 S1 m1 d1 j1 B1 o1 e1 k1 s1 v1 y1 t1 g2 A2 n2 c2 S2 m2 d2 j2 B2 o2 e2 k2 s2 v2 y2 t2 L1 M1 l1 L2 M2 l2 ⟨cc0, cc1, cc2, cc3, cc4, cc5, cc6, cc7⟩).symm
  exact ralk_8 g1 A1 n1 c1 S1 m1 d1 j1 B1 o1 e1 k1 s1 v1 y1 t1 g2 A2 n2 c2 S2 m2 d2 j2 B2 o2 e2 k2 s2 v2 y2 t2 L1 M1 l1 L2 M2 l2 w h h2 z1 z2 z3 z4 z5 z6 cc0 cc1 cc2 cc3 cc4 cc5 cc6 cc7
end Go.Proofs.Ytaijhkfbfkdepaa.Q8
