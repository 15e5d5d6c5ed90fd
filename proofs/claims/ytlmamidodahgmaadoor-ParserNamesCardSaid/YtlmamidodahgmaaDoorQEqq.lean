
/- The reference's Same, Equal and Great of queries; slide, alive. -/
import Derived.Test.YtlmamidodahgmaaDoorQC
import Derived.Test.YtlmamidodahgmaaDoorNB
namespace Go.Proofs.YtlmamidodahgmaaDoor.Q8
open Go.ChangeShapes Go.WideShapes Go.ChangeAt Go.RowKit N4
set_option linter.unusedVariables false
set_option linter.unusedSimpArgs false
set_option maxRecDepth 100000

/-- The reference's Equal: the same places, too. -/
theorem reqq_any (g1 : Int) (A1 : Option Addr) (n1 c1 : Nat) (S1 : Option Addr) (m1 d1 : Nat) (j1 : Bool) (B1 : Option Addr) (o1 e1 : Nat) (k1 s1 v1 : Int) (y1 : Bool) (t1 : Int) (g2 : Int) (A2 : Option Addr) (n2 c2 : Nat) (S2 : Option Addr) (m2 d2 : Nat) (j2 : Bool) (B2 : Option Addr) (o2 e2 : Nat) (k2 s2 v2 : Int) (y2 : Bool) (t2 : Int) (L1 M1 : List Nd) (l1 : List Int) (L2 M2 : List Nd) (l2 : List Int) (w : World) (h : QA w A1 n1 S1 m1 B1 o1 L1 M1 l1) (h2 : QA w A2 n2 S2 m2 B2 o2 L2 M2 l2) (z1 : n1 ≤ 70) (z2 : n2 ≤ 70) (z3 : o1 ≤ 70) (z4 : o2 ≤ 70) (z5 : m1 ≤ 10) (z6 : m2 ≤ 10) (v : Bool) (hv : (sameQ ⟨g1, L1, l1, j1, M1, k1, s1, v1, y1, t1⟩ ⟨g2, L2, l2, j2, M2, k2, s2, v2, y2, t2⟩ && (decide (L1 = L2) && decide (M1 = M2))) = v) :
    Calls Tryd.prog 19 #[.agg #[.int .u8 g1, .slice A1 n1 c1, .slice S1 m1 d1, .bool j1, .slice B1 o1 e1, .int .u8 k1, .int .i64 s1, .int .i64 v1, .bool y1, .int .u8 t1], .agg #[.int .u8 g2, .slice A2 n2 c2, .slice S2 m2 d2, .bool j2, .slice B2 o2 e2, .int .u8 k2, .int .i64 s2, .int .i64 v2, .bool y2, .int .u8 t2]] w fun e w' => e = .returned (.bool v) ∧ Below w.heap.size w w' := by
  have HC := Lib.hid (fun W (hb : Bl w W) => ralk_any g1 A1 n1 c1 S1 m1 d1 j1 B1 o1 e1 k1 s1 v1 y1 t1 g2 A2 n2 c2 S2 m2 d2 j2 B2 o2 e2 k2 s2 v2 y2 t2 L1 M1 l1 L2 M2 l2 W (h.step hb) (h2.step hb) z1 z2 z3 z4 z5 z6 _ rfl)
  have HL := Lib.hid (fun W (hb : Bl w W) => requal_any A1 A2 n1 n2 c1 c2 L1 L2 W h.1.2.1 h2.1.2.1 (by omega) (by omega) (hb.lies h.1.1) (hb.lies h2.1.1) _ rfl)
  have HM := Lib.hid (fun W (hb : Bl w W) => requal_any B1 B2 o1 o2 e1 e2 M1 M2 W h.2.2.2.1 h2.2.2.2.1 (by omega) (by omega) (hb.lies h.2.2.1) (hb.lies h2.2.2.1) _ rfl)
  have b0 := fun t => QX2.new w g1 A1 n1 c1 S1 m1 d1 j1 B1 o1 e1 k1 s1 v1 y1 t1 g2 A2 n2 c2 S2 m2 d2 j2 B2 o2 e2 k2 s2 v2 y2 t2 t
  generalize sameQ ⟨g1, L1, l1, j1, M1, k1, s1, v1, y1, t1⟩ ⟨g2, L2, l2, j2, M2, k2, s2, v2, y2, t2⟩ = u1 at HC hv
  generalize decide (L1 = L2) = u2 at HL hv
  generalize decide (M1 = M2) = u3 at HM hv
  clear h h2 z1 z2 z3 z4 z5 z6
  cases u1
  · obtain rfl : false = v := hv
    go_enter Tryd.func19, Tryd.ntmps19
    go_wp2_with (go_at_call 13; ((with_reducible refine (HC.out _ (b0 _).bl).mono ?_); rintro e w1 ⟨rfl, hb⟩; have b1 := (b0 _).step hb; clear hb b0))
    go_ret
    exact ⟨rfl, b1.bl⟩
  cases u2
  · obtain rfl : false = v := hv
    go_enter Tryd.func19, Tryd.ntmps19
    go_wp2_with (first
      | (go_at_call 13; ((with_reducible refine (HC.out _ (b0 _).bl).mono ?_); rintro e w1 ⟨rfl, hb⟩; have b1 := (b0 _).step hb; clear hb b0; obtain ⟨z, z0, z1, z2, z3, z4, z5, z6, z7, z8, z9⟩ := b1.2.cells; obtain ⟨q, q0, q1, q2, q3, q4, q5, q6, q7, q8, q9⟩ := b1.1.cells))
      | (go_at_call 44; ((with_reducible refine (HL.out _ b1.bl).mono ?_); rintro e w2 ⟨rfl, hb⟩; have b2 := b1.step hb; clear hb b1)))
    go_ret
    exact ⟨rfl, b2.bl⟩
  · obtain rfl : u3 = v := hv
    go_enter Tryd.func19, Tryd.ntmps19
    go_wp2_with (first
      | (go_at_call 13; ((with_reducible refine (HC.out _ (b0 _).bl).mono ?_); rintro e w1 ⟨rfl, hb⟩; have b1 := (b0 _).step hb; clear hb b0; obtain ⟨z, z0, z1, z2, z3, z4, z5, z6, z7, z8, z9⟩ := b1.2.cells; obtain ⟨q, q0, q1, q2, q3, q4, q5, q6, q7, q8, q9⟩ := b1.1.cells))
      | (go_at_call 44; ((with_reducible refine (HL.out _ b1.bl).mono ?_); rintro e w2 ⟨rfl, hb⟩; have b2 := b1.step hb; clear hb b1 HL; obtain ⟨r, r0, r1, r2, r3, r4, r5, r6, r7, r8, r9⟩ := b2.2.cells; obtain ⟨p, p0, p1, p2, p3, p4, p5, p6, p7, p8, p9⟩ := b2.1.cells))
      | (go_at_call 44; ((with_reducible refine (HM.out _ b2.bl).mono ?_); rintro e w3 ⟨rfl, hb⟩; have b3 := b2.step hb; clear hb b2)))
    go_ret
    exact ⟨rfl, b3.bl⟩
/-- Great. -/
def greatQ (n o m : Nat) : Bool := decide (70 < n) || (decide (70 < o) || decide (10 < m))
/-! ### the law's own -/
end Go.Proofs.YtlmamidodahgmaaDoor.Q8
