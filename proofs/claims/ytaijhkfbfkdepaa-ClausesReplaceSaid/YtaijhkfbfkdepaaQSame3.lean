/- The reference's Same, Equal and Great of queries; slide, alive. -/
import Derived.Test.YtaijhkfbfkdepaaQSame2
import Derived.Test.YtaijhkfbfkdepaaNSizes
namespace Go.Proofs.Ytaijhkfbfkdepaa.Q8
open Go.ChangeShapes Go.WideShapes Go.ChangeAt Go.RowKit N4
set_option linter.unusedVariables false
set_option linter.unusedSimpArgs false
set_option maxRecDepth 100000

theorem rsame_b1 (g1 : Int) (A1 : Option Addr) (n1 c1 : Nat) (S1 : Option Addr) (m1 d1 : Nat) (j1 : Bool) (B1 : Option Addr) (o1 e1 : Nat) (k1 s1 v1 : Int) (y1 : Bool) (t1 : Int) (g2 : Int) (A2 : Option Addr) (n2 c2 : Nat) (S2 : Option Addr) (m2 d2 : Nat) (j2 : Bool) (B2 : Option Addr) (o2 e2 : Nat) (k2 s2 v2 : Int) (y2 : Bool) (t2 : Int) (L1 M1 : List Nd) (l1 : List Int) (L2 M2 : List Nd) (l2 : List Int) (w : World) (h : QA w A1 n1 S1 m1 B1 o1 L1 M1 l1) (x : Int) (hx : chkF ⟨g1, L1, l1, j1, M1, k1, s1, v1, y1, t1⟩ = x) (h0 : x ≠ 0) :
    Calls Try.prog 10 #[.agg #[.int .u8 g1, .slice A1 n1 c1, .slice S1 m1 d1, .bool j1, .slice B1 o1 e1, .int .u8 k1, .int .i64 s1, .int .i64 v1, .bool y1, .int .u8 t1], .agg #[.int .u8 g2, .slice A2 n2 c2, .slice S2 m2 d2, .bool j2, .slice B2 o2 e2, .int .u8 k2, .int .i64 s2, .int .i64 v2, .bool y2, .int .u8 t2]] w fun e w' => e = .returned (.tuple #[.bool false, .int .i64 x]) ∧ Below w.heap.size w w' := by
  have HA := Lib.hid (fun W (hb : Bl w W) => rchk_any g1 A1 n1 c1 S1 m1 d1 j1 B1 o1 e1 k1 s1 v1 y1 t1 L1 M1 l1 W (h.step hb) x hx)
  have i0 := errno_ne h0
  have b0 := fun t => QX2.new w g1 A1 n1 c1 S1 m1 d1 j1 B1 o1 e1 k1 s1 v1 y1 t1 g2 A2 n2 c2 S2 m2 d2 j2 B2 o2 e2 k2 s2 v2 y2 t2 t
  clear h hx h0
  go_enter Try.func10, Try.ntmps10
  go_wp2_with (first
    | (go_at_call 12; ((with_reducible refine (HA.out _ (b0 _).bl).mono ?_); rintro e w1 ⟨rfl, hb⟩; have b1 := (b0 _).step hb; clear hb b0; obtain ⟨y, y0, y1, y2, y3, y4, y5, y6, y7, y8, y9⟩ := b1.1.cells))
    | (go_at_call 12; ((with_reducible refine (HA.out _ b1.bl).mono ?_); rintro e w2 ⟨rfl, hb⟩; have b2 := b1.step hb; clear hb b1)))
  go_ret2
  exact ⟨rfl, b2.bl⟩
theorem rsame_b2 (g1 : Int) (A1 : Option Addr) (n1 c1 : Nat) (S1 : Option Addr) (m1 d1 : Nat) (j1 : Bool) (B1 : Option Addr) (o1 e1 : Nat) (k1 s1 v1 : Int) (y1 : Bool) (t1 : Int) (g2 : Int) (A2 : Option Addr) (n2 c2 : Nat) (S2 : Option Addr) (m2 d2 : Nat) (j2 : Bool) (B2 : Option Addr) (o2 e2 : Nat) (k2 s2 v2 : Int) (y2 : Bool) (t2 : Int) (L1 M1 : List Nd) (l1 : List Int) (L2 M2 : List Nd) (l2 : List Int) (w : World) (h : QA w A1 n1 S1 m1 B1 o1 L1 M1 l1) (h2 : QA w A2 n2 S2 m2 B2 o2 L2 M2 l2) (hx1 : chkF ⟨g1, L1, l1, j1, M1, k1, s1, v1, y1, t1⟩ = 0) (x : Int) (hx : chkF ⟨g2, L2, l2, j2, M2, k2, s2, v2, y2, t2⟩ = x) (h0 : x ≠ 0) :
    Calls Try.prog 10 #[.agg #[.int .u8 g1, .slice A1 n1 c1, .slice S1 m1 d1, .bool j1, .slice B1 o1 e1, .int .u8 k1, .int .i64 s1, .int .i64 v1, .bool y1, .int .u8 t1], .agg #[.int .u8 g2, .slice A2 n2 c2, .slice S2 m2 d2, .bool j2, .slice B2 o2 e2, .int .u8 k2, .int .i64 s2, .int .i64 v2, .bool y2, .int .u8 t2]] w fun e w' => e = .returned (.tuple #[.bool false, .int .i64 x]) ∧ Below w.heap.size w w' := by
  have HA := Lib.hid (fun W (hb : Bl w W) => rchk_any g1 A1 n1 c1 S1 m1 d1 j1 B1 o1 e1 k1 s1 v1 y1 t1 L1 M1 l1 W (h.step hb) 0 hx1)
  have HB := Lib.hid (fun W (hb : Bl w W) => rchk_any g2 A2 n2 c2 S2 m2 d2 j2 B2 o2 e2 k2 s2 v2 y2 t2 L2 M2 l2 W (h2.step hb) x hx)
  have i0 := errno_ne h0
  have b0 := fun t => QX2.new w g1 A1 n1 c1 S1 m1 d1 j1 B1 o1 e1 k1 s1 v1 y1 t1 g2 A2 n2 c2 S2 m2 d2 j2 B2 o2 e2 k2 s2 v2 y2 t2 t
  clear h h2 hx hx1 h0
  go_enter Try.func10, Try.ntmps10
  go_wp2_with (first
    | (go_at_call 12; ((with_reducible refine (HA.out _ (b0 _).bl).mono ?_); rintro e w1 ⟨rfl, hb⟩; have b1 := (b0 _).step hb; clear hb b0; obtain ⟨y, y0, y1, y2, y3, y4, y5, y6, y7, y8, y9⟩ := b1.2.cells))
    | (go_at_call 12; ((with_reducible refine (HB.out _ b1.bl).mono ?_); rintro e w2 ⟨rfl, hb⟩; have b2 := b1.step hb; clear hb b1; obtain ⟨z, z0, z1, z2, z3, z4, z5, z6, z7, z8, z9⟩ := b2.2.cells))
    | (go_at_call 12; ((with_reducible refine (HB.out _ b2.bl).mono ?_); rintro e w3 ⟨rfl, hb⟩; have b3 := b2.step hb; clear hb b2)))
  go_ret2
  exact ⟨rfl, b3.bl⟩
theorem rsame_ok (g1 : Int) (A1 : Option Addr) (n1 c1 : Nat) (S1 : Option Addr) (m1 d1 : Nat) (j1 : Bool) (B1 : Option Addr) (o1 e1 : Nat) (k1 s1 v1 : Int) (y1 : Bool) (t1 : Int) (g2 : Int) (A2 : Option Addr) (n2 c2 : Nat) (S2 : Option Addr) (m2 d2 : Nat) (j2 : Bool) (B2 : Option Addr) (o2 e2 : Nat) (k2 s2 v2 : Int) (y2 : Bool) (t2 : Int) (L1 M1 : List Nd) (l1 : List Int) (L2 M2 : List Nd) (l2 : List Int) (w : World) (h : QA w A1 n1 S1 m1 B1 o1 L1 M1 l1) (h2 : QA w A2 n2 S2 m2 B2 o2 L2 M2 l2) (z1 : n1 ≤ 70) (z2 : n2 ≤ 70) (z3 : o1 ≤ 70) (z4 : o2 ≤ 70) (z5 : m1 ≤ 10) (z6 : m2 ≤ 10) (hx1 : chkF ⟨g1, L1, l1, j1, M1, k1, s1, v1, y1, t1⟩ = 0) (hx2 : chkF ⟨g2, L2, l2, j2, M2, k2, s2, v2, y2, t2⟩ = 0) (v : Bool) (hv : sameQ ⟨g1, L1, l1, j1, M1, k1, s1, v1, y1, t1⟩ ⟨g2, L2, l2, j2, M2, k2, s2, v2, y2, t2⟩ = v) :
    Calls Try.prog 10 #[.agg #[.int .u8 g1, .slice A1 n1 c1, .slice S1 m1 d1, .bool j1, .slice B1 o1 e1, .int .u8 k1, .int .i64 s1, .int .i64 v1, .bool y1, .int .u8 t1], .agg #[.int .u8 g2, .slice A2 n2 c2, .slice S2 m2 d2, .bool j2, .slice B2 o2 e2, .int .u8 k2, .int .i64 s2, .int .i64 v2, .bool y2, .int .u8 t2]] w fun e w' => e = .returned (.tuple #[.bool v, .int .i64 0]) ∧ Below w.heap.size w w' := by
  have HA := Lib.hid (fun W (hb : Bl w W) => rchk_any g1 A1 n1 c1 S1 m1 d1 j1 B1 o1 e1 k1 s1 v1 y1 t1 L1 M1 l1 W (h.step hb) 0 hx1)
  have HB := Lib.hid (fun W (hb : Bl w W) => rchk_any g2 A2 n2 c2 S2 m2 d2 j2 B2 o2 e2 k2 s2 v2 y2 t2 L2 M2 l2 W (h2.step hb) 0 hx2)
  have HC := Lib.hid (fun W (hb : Bl w W) => ralk_any g1 A1 n1 c1 S1 m1 d1 j1 B1 o1 e1 k1 s1 v1 y1 t1 g2 A2 n2 c2 S2 m2 d2 j2 B2 o2 e2 k2 s2 v2 y2 t2 L1 M1 l1 L2 M2 l2 W (h.step hb) (h2.step hb) z1 z2 z3 z4 z5 z6 v hv)
  have b0 := fun t => QX2.new w g1 A1 n1 c1 S1 m1 d1 j1 B1 o1 e1 k1 s1 v1 y1 t1 g2 A2 n2 c2 S2 m2 d2 j2 B2 o2 e2 k2 s2 v2 y2 t2 t
  clear h h2 hx1 hx2 z1 z2 z3 z4 z5 z6 hv
  go_enter Try.func10, Try.ntmps10
  go_wp2_with (first
    | (go_at_call 12; ((with_reducible refine (HA.out _ (b0 _).bl).mono ?_); rintro e w1 ⟨rfl, hb⟩; have b1 := (b0 _).step hb; clear hb b0; obtain ⟨y, y0, y1, y2, y3, y4, y5, y6, y7, y8, y9⟩ := b1.2.cells))
    | (go_at_call 12; ((with_reducible refine (HB.out _ b1.bl).mono ?_); rintro e w2 ⟨rfl, hb⟩; have b2 := b1.step hb; clear hb b1; obtain ⟨z, z0, z1, z2, z3, z4, z5, z6, z7, z8, z9⟩ := b2.2.cells; obtain ⟨q, q0, q1, q2, q3, q4, q5, q6, q7, q8, q9⟩ := b2.1.cells))
    | (go_at_call 22; ((with_reducible refine (HC.out _ b2.bl).mono ?_); rintro e w3 ⟨rfl, hb⟩; have b3 := b2.step hb; clear hb b2)))
  go_ret2
  exact ⟨rfl, b3.bl⟩
/-- The reference's Equal: the same places, too. -/
theorem reqq_any (g1 : Int) (A1 : Option Addr) (n1 c1 : Nat) (S1 : Option Addr) (m1 d1 : Nat) (j1 : Bool) (B1 : Option Addr) (o1 e1 : Nat) (k1 s1 v1 : Int) (y1 : Bool) (t1 : Int) (g2 : Int) (A2 : Option Addr) (n2 c2 : Nat) (S2 : Option Addr) (m2 d2 : Nat) (j2 : Bool) (B2 : Option Addr) (o2 e2 : Nat) (k2 s2 v2 : Int) (y2 : Bool) (t2 : Int) (L1 M1 : List Nd) (l1 : List Int) (L2 M2 : List Nd) (l2 : List Int) (w : World) (h : QA w A1 n1 S1 m1 B1 o1 L1 M1 l1) (h2 : QA w A2 n2 S2 m2 B2 o2 L2 M2 l2) (z1 : n1 ≤ 70) (z2 : n2 ≤ 70) (z3 : o1 ≤ 70) (z4 : o2 ≤ 70) (z5 : m1 ≤ 10) (z6 : m2 ≤ 10) (v : Bool) (hv : (sameQ ⟨g1, L1, l1, j1, M1, k1, s1, v1, y1, t1⟩ ⟨g2, L2, l2, j2, M2, k2, s2, v2, y2, t2⟩ && (decide (L1 = L2) && decide (M1 = M2))) = v) :
    Calls Try.prog 13 #[.agg #[.int .u8 g1, .slice A1 n1 c1, .slice S1 m1 d1, .bool j1, .slice B1 o1 e1, .int .u8 k1, .int .i64 s1, .int .i64 v1, .bool y1, .int .u8 t1], .agg #[.int .u8 g2, .slice A2 n2 c2, .slice S2 m2 d2, .bool j2, .slice B2 o2 e2, .int .u8 k2, .int .i64 s2, .int .i64 v2, .bool y2, .int .u8 t2]] w fun e w' => e = .returned (.bool v) ∧ Below w.heap.size w w' := by
  have HC := Lib.hid (fun W (hb : Bl w W) => ralk_any g1 A1 n1 c1 S1 m1 d1 j1 B1 o1 e1 k1 s1 v1 y1 t1 g2 A2 n2 c2 S2 m2 d2 j2 B2 o2 e2 k2 s2 v2 y2 t2 L1 M1 l1 L2 M2 l2 W (h.step hb) (h2.step hb) z1 z2 z3 z4 z5 z6 _ rfl)
  have HL := Lib.hid (fun W (hb : Bl w W) => requal_any A1 A2 n1 n2 c1 c2 L1 L2 W h.1.2.1 h2.1.2.1 (by omega) (by omega) (hb.lies h.1.1) (hb.lies h2.1.1) _ rfl)
  have HM := Lib.hid (fun W (hb : Bl w W) => requal_any B1 B2 o1 o2 e1 e2 M1 M2 W h.2.2.2.1 h2.2.2.2.1 (by omega) (by omega) (hb.lies h.2.2.1) (hb.lies h2.2.2.1) _ rfl)
  have b0 := fun t => QX2.new w g1 A1 n1 c1 S1 m1 d1 j1 B1 o1 e1 k1 s1 v1 y1 t1 g2 A2 n2 c2 S2 m2 d2 j2 B2 o2 e2 k2 s2 v2 y2 t2 t
  generalize sameQ ⟨g1, L1, l1, j1, M1, k1, s1, v1, y1, t1⟩ ⟨g2, L2, l2, j2, M2, k2, s2, v2, y2, t2⟩ = u1 at HC hv
  generalize decide (L1 = L2) = u2 at HL hv
  generalize decide (M1 = M2) = u3 at HM hv
  clear h h2 z1 z2 z3 z4 z5 z6
  cases u1
  · obtain rfl : false = v := hv
    go_enter Try.func13, Try.ntmps13
    go_wp2_with (go_at_call 22; ((with_reducible refine (HC.out _ (b0 _).bl).mono ?_); rintro e w1 ⟨rfl, hb⟩; have b1 := (b0 _).step hb; clear hb b0))
    go_ret
    exact ⟨rfl, b1.bl⟩
  cases u2
  · obtain rfl : false = v := hv
    go_enter Try.func13, Try.ntmps13
    go_wp2_with (first
      | (go_at_call 22; ((with_reducible refine (HC.out _ (b0 _).bl).mono ?_); rintro e w1 ⟨rfl, hb⟩; have b1 := (b0 _).step hb; clear hb b0; obtain ⟨z, z0, z1, z2, z3, z4, z5, z6, z7, z8, z9⟩ := b1.2.cells; obtain ⟨q, q0, q1, q2, q3, q4, q5, q6, q7, q8, q9⟩ := b1.1.cells))
      | (go_at_call 30; ((with_reducible refine (HL.out _ b1.bl).mono ?_); rintro e w2 ⟨rfl, hb⟩; have b2 := b1.step hb; clear hb b1)))
    go_ret
    exact ⟨rfl, b2.bl⟩
  · obtain rfl : u3 = v := hv
    go_enter Try.func13, Try.ntmps13
    go_wp2_with (first
      | (go_at_call 22; ((with_reducible refine (HC.out _ (b0 _).bl).mono ?_); rintro e w1 ⟨rfl, hb⟩; have b1 := (b0 _).step hb; clear hb b0; obtain ⟨z, z0, z1, z2, z3, z4, z5, z6, z7, z8, z9⟩ := b1.2.cells; obtain ⟨q, q0, q1, q2, q3, q4, q5, q6, q7, q8, q9⟩ := b1.1.cells))
      | (go_at_call 30; ((with_reducible refine (HL.out _ b1.bl).mono ?_); rintro e w2 ⟨rfl, hb⟩; have b2 := b1.step hb; clear hb b1 HL; obtain ⟨r, r0, r1, r2, r3, r4, r5, r6, r7, r8, r9⟩ := b2.2.cells; obtain ⟨p, p0, p1, p2, p3, p4, p5, p6, p7, p8, p9⟩ := b2.1.cells))
      | (go_at_call 30; ((with_reducible refine (HM.out _ b2.bl).mono ?_); rintro e w3 ⟨rfl, hb⟩; have b3 := b2.step hb; clear hb b2)))
    go_ret
    exact ⟨rfl, b3.bl⟩
/-- Great. -/
def greatQ (n o m : Nat) : Bool := decide (70 < n) || (decide (70 < o) || decide (10 < m))
theorem rgreat_any (g1 : Int) (A1 : Option Addr) (n1 c1 : Nat) (S1 : Option Addr) (m1 d1 : Nat) (j1 : Bool) (B1 : Option Addr) (o1 e1 : Nat) (k1 s1 v1 : Int) (y1 : Bool) (t1 : Int) (w : World) (v : Bool) (hv : greatQ n1 o1 m1 = v) :
    Calls Try.prog 7 #[.agg #[.int .u8 g1, .slice A1 n1 c1, .slice S1 m1 d1, .bool j1, .slice B1 o1 e1, .int .u8 k1, .int .i64 s1, .int .i64 v1, .bool y1, .int .u8 t1]] w fun e w' => e = .returned (.bool v) ∧ Below w.heap.size w w' := by
  have HX := Lib.hid hv
  clear hv
  by_cases h1 : 70 < n1
  · have HA := Lib.hid (fun W => great_any A1 n1 c1 W true (decide_eq_true h1))
    obtain rfl : true = v := by rw [← HX.out]; simp [greatQ, h1]
    clear h1
    go_enter Try.func7, Try.ntmps7
    go_wp2_with (go_at_call 14; ((with_reducible refine (HA.out _).mono ?_); rintro e w1 ⟨rfl, rfl⟩))
    go_ret
    exact ⟨rfl, (Below.refl _ _).alloc (Nat.le_refl _) _⟩
  · have HA := Lib.hid (fun W => great_any A1 n1 c1 W false (decide_eq_false h1))
    by_cases h2 : 70 < o1
    · have HB := Lib.hid (fun W => great_any B1 o1 e1 W true (decide_eq_true h2))
      obtain rfl : true = v := by rw [← HX.out]; simp [greatQ, h2]
      clear h1 h2
      go_enter Try.func7, Try.ntmps7
      go_wp2_with (first
        | (go_at_call 14; ((with_reducible refine (HA.out _).mono ?_); rintro e w1 ⟨rfl, rfl⟩; clear HA))
        | (go_at_call 14; ((with_reducible refine (HB.out _).mono ?_); rintro e w1 ⟨rfl, rfl⟩)))
      go_ret
      exact ⟨rfl, (Below.refl _ _).alloc (Nat.le_refl _) _⟩
    · have HB := Lib.hid (fun W => great_any B1 o1 e1 W false (decide_eq_false h2))
      have HF := Lib.hid (show decide (10 < m1) = v by rw [← HX.out]; simp [greatQ, h1, h2])
      clear h1 h2
      by_cases h3 : 10 < m1
      all_goals
        have i1 : decide ((10 : Int) < m1) = decide (10 < m1) := by simp; omega
        simp only [h3, decide_true, decide_false] at i1 HF
        clear h3
        go_enter Try.func7, Try.ntmps7
        go_wp2_with (first
          | (go_at_call 14; ((with_reducible refine (HA.out _).mono ?_); rintro e w1 ⟨rfl, rfl⟩; clear HA))
          | (go_at_call 14; ((with_reducible refine (HB.out _).mono ?_); rintro e w1 ⟨rfl, rfl⟩)))
        go_ret
        exact ⟨ret_bool' HF.out, (Below.refl _ _).alloc (Nat.le_refl _) _⟩

/-! ### the law's own -/
theorem slide_any (s v : Int) (w : World) (hs : s ≤ 9223372036854775807) (x : Int) (hx : winE 2 s v = x) : Calls Try.prog 31 #[.int .i64 s, .int .i64 v] w fun e w' => e = .returned (.int .i64 x) ∧ Below w.heap.size w w' := by
  have HW := Lib.hid (fun W => win_any 2 s v W hs x hx)
  clear hs hx
  go_enter Try.func31, Try.ntmps31
  go_wp2_with (go_at_call 17; ((with_reducible refine (HW.out _).mono ?_); rintro e w1 ⟨rfl, hb⟩))
  go_ret
  exact ⟨rfl, hb⟩
theorem alive_any (w : World) : Calls Try.prog 15 #[] w fun e w' => e = .returned (.bool true) ∧ Below w.heap.size w w' := by
  have HA := Lib.hid (fun W => slide_any 10 3 W (by decide) 0 (by decide))
  have HB := Lib.hid (fun W => slide_any 10 11 W (by decide) 8 (by decide))
  have HC := Lib.hid (fun W => slide_any 17 1 W (by decide) 8 (by decide))
  have HD := Lib.hid (fun A W ht => src_any A 2 2 [2, 0] false W rfl ht 0 (by decide))
  have HE := Lib.hid (fun A W ht => src_any A 2 2 [2, 2] false W rfl ht 43 (by decide))
  have HF := Lib.hid (fun A W ht => src_any A 1 1 [2] true W rfl ht 8 (by decide))
  have b0 := Bl.start w
  go_enter Try.func15, Try.ntmps15
  go_wp2_with (first
    | (go_at_call 31; ((with_reducible refine (HA.out _).mono ?_); rintro e w1 ⟨rfl, hb⟩; have b1 := b0.step hb; clear hb b0 HA))
    | (go_at_call 31; ((with_reducible refine (HB.out _).mono ?_); rintro e w2 ⟨rfl, hb⟩; have b2 := b1.step hb; clear hb b1 HB))
    | (go_at_call 31; ((with_reducible refine (HC.out _).mono ?_); rintro e w3 ⟨rfl, hb⟩; have b3 := b2.step hb; clear hb b2 HC))
    | (go_at_call 18; ((with_reducible refine (HD.out _ _ (lies_vals w3 _ rfl #[.int .i64 2, .int .i64 0] _ (iC [2, 0]) rfl)).mono ?_); rintro e w4 ⟨rfl, hb⟩; have b4 := (b3.al _).step hb; clear hb b3 HD))
    | (go_at_call 18; ((with_reducible refine (HE.out _ _ (lies_vals w4 _ rfl #[.int .i64 2, .int .i64 2] _ (iC [2, 2]) rfl)).mono ?_); rintro e w5 ⟨rfl, hb⟩; have b5 := (b4.al _).step hb; clear hb b4 HE))
    | (go_at_call 18; ((with_reducible refine (HF.out _ _ (lies_vals w5 _ rfl #[.int .i64 2] _ (iC [2]) rfl)).mono ?_); rintro e w6 ⟨rfl, hb⟩; have b6 := (b5.al _).step hb; clear hb b5 HF)))
  go_ret
  exact ⟨rfl, b6⟩
end Go.Proofs.Ytaijhkfbfkdepaa.Q8
