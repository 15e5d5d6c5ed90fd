/- ClausesSame walks to true: what is not tried, and the main way. -/
import Derived.Test.YtaijhkfbfkdepaaQLS
namespace Go.Proofs.Ytaijhkfbfkdepaa.Q8
open Go.ChangeShapes Go.WideShapes Go.ChangeAt Go.RowKit N4
set_option linter.unusedVariables false
set_option linter.unusedSimpArgs false
set_option maxRecDepth 100000

set_option maxHeartbeats 2000000 in
theorem ls_g1 (g1 : Int) (A1 : Option Addr) (n1 c1 : Nat) (S1 : Option Addr) (m1 d1 : Nat) (j1 : Bool) (B1 : Option Addr) (o1 e1 : Nat) (k1 s1 v1 : Int) (y1 : Bool) (t1 : Int) (g2 : Int) (A2 : Option Addr) (n2 c2 : Nat) (S2 : Option Addr) (m2 d2 : Nat) (j2 : Bool) (B2 : Option Addr) (o2 e2 : Nat) (k2 s2 v2 : Int) (y2 : Bool) (t2 : Int) (L1 M1 : List Nd) (l1 : List Int) (L2 M2 : List Nd) (l2 : List Int) (a : Int) (w : World) (h : QA w A1 n1 S1 m1 B1 o1 L1 M1 l1) (h2 : QA w A2 n2 S2 m2 B2 o2 L2 M2 l2) (hg1 : greatQ n1 o1 m1 = true) :
    Calls Try.prog 6 #[.agg #[.int .u8 g1, .slice A1 n1 c1, .slice S1 m1 d1, .bool j1, .slice B1 o1 e1, .int .u8 k1, .int .i64 s1, .int .i64 v1, .bool y1, .int .u8 t1], .agg #[.int .u8 g2, .slice A2 n2 c2, .slice S2 m2 d2, .bool j2, .slice B2 o2 e2, .int .u8 k2, .int .i64 s2, .int .i64 v2, .bool y2, .int .u8 t2], .int .i64 a] w fun e w' => e = .returned (.bool true) ∧ Below w.heap.size w w' := by
  have HG1 := Lib.hid (fun W => rgreat_any g1 A1 n1 c1 S1 m1 d1 j1 B1 o1 e1 k1 s1 v1 y1 t1 W true hg1)
  clear hg1
  have b0 := fun t => QX2.new w g1 A1 n1 c1 S1 m1 d1 j1 B1 o1 e1 k1 s1 v1 y1 t1 g2 A2 n2 c2 S2 m2 d2 j2 B2 o2 e2 k2 s2 v2 y2 t2 t
  clear h h2
  go_enter Try.func6, Try.ntmps6
  go_wp2_with (first
    | (go_at_call 7; ((with_reducible refine (HG1.out _).mono ?_); rintro e w1 ⟨rfl, hb⟩; have b1 := (b0 _).step hb; clear hb b0; obtain ⟨xx1, xx1_0, xx1_1, xx1_2, xx1_3, xx1_4, xx1_5, xx1_6, xx1_7, xx1_8, xx1_9⟩ := b1.1.cells; obtain ⟨yy1, yy1_0, yy1_1, yy1_2, yy1_3, yy1_4, yy1_5, yy1_6, yy1_7, yy1_8, yy1_9⟩ := b1.2.cells))
    | (go_at_call 15; refine (alive_any _).mono ?_; rintro e wz ⟨rfl, hb⟩))
  go_ret
  exact ⟨rfl, (b1.step hb).bl⟩
set_option maxHeartbeats 2000000 in
theorem ls_g2 (g1 : Int) (A1 : Option Addr) (n1 c1 : Nat) (S1 : Option Addr) (m1 d1 : Nat) (j1 : Bool) (B1 : Option Addr) (o1 e1 : Nat) (k1 s1 v1 : Int) (y1 : Bool) (t1 : Int) (g2 : Int) (A2 : Option Addr) (n2 c2 : Nat) (S2 : Option Addr) (m2 d2 : Nat) (j2 : Bool) (B2 : Option Addr) (o2 e2 : Nat) (k2 s2 v2 : Int) (y2 : Bool) (t2 : Int) (L1 M1 : List Nd) (l1 : List Int) (L2 M2 : List Nd) (l2 : List Int) (a : Int) (w : World) (h : QA w A1 n1 S1 m1 B1 o1 L1 M1 l1) (h2 : QA w A2 n2 S2 m2 B2 o2 L2 M2 l2) (hg1 : greatQ n1 o1 m1 = false) (hg2 : greatQ n2 o2 m2 = true) :
    Calls Try.prog 6 #[.agg #[.int .u8 g1, .slice A1 n1 c1, .slice S1 m1 d1, .bool j1, .slice B1 o1 e1, .int .u8 k1, .int .i64 s1, .int .i64 v1, .bool y1, .int .u8 t1], .agg #[.int .u8 g2, .slice A2 n2 c2, .slice S2 m2 d2, .bool j2, .slice B2 o2 e2, .int .u8 k2, .int .i64 s2, .int .i64 v2, .bool y2, .int .u8 t2], .int .i64 a] w fun e w' => e = .returned (.bool true) ∧ Below w.heap.size w w' := by
  have HG1 := Lib.hid (fun W => rgreat_any g1 A1 n1 c1 S1 m1 d1 j1 B1 o1 e1 k1 s1 v1 y1 t1 W false hg1)
  have HG2 := Lib.hid (fun W => rgreat_any g2 A2 n2 c2 S2 m2 d2 j2 B2 o2 e2 k2 s2 v2 y2 t2 W true hg2)
  clear hg1 hg2
  have b0 := fun t => QX2.new w g1 A1 n1 c1 S1 m1 d1 j1 B1 o1 e1 k1 s1 v1 y1 t1 g2 A2 n2 c2 S2 m2 d2 j2 B2 o2 e2 k2 s2 v2 y2 t2 t
  clear h h2
  go_enter Try.func6, Try.ntmps6
  go_wp2_with (first
    | (go_at_call 7; ((with_reducible refine (HG1.out _).mono ?_); rintro e w1 ⟨rfl, hb⟩; have b1 := (b0 _).step hb; clear hb b0; obtain ⟨xx1, xx1_0, xx1_1, xx1_2, xx1_3, xx1_4, xx1_5, xx1_6, xx1_7, xx1_8, xx1_9⟩ := b1.1.cells; obtain ⟨yy1, yy1_0, yy1_1, yy1_2, yy1_3, yy1_4, yy1_5, yy1_6, yy1_7, yy1_8, yy1_9⟩ := b1.2.cells))
    | (go_at_call 7; ((with_reducible refine (HG2.out _).mono ?_); rintro e w2 ⟨rfl, hb⟩; have b2 := b1.step hb; clear hb b1; obtain ⟨xx2, xx2_0, xx2_1, xx2_2, xx2_3, xx2_4, xx2_5, xx2_6, xx2_7, xx2_8, xx2_9⟩ := b2.1.cells; obtain ⟨yy2, yy2_0, yy2_1, yy2_2, yy2_3, yy2_4, yy2_5, yy2_6, yy2_7, yy2_8, yy2_9⟩ := b2.2.cells))
    | (go_at_call 15; refine (alive_any _).mono ?_; rintro e wz ⟨rfl, hb⟩))
  go_ret
  exact ⟨rfl, (b2.step hb).bl⟩
set_option maxHeartbeats 2000000 in
theorem ls_c1 (g1 : Int) (A1 : Option Addr) (n1 c1 : Nat) (S1 : Option Addr) (m1 d1 : Nat) (j1 : Bool) (B1 : Option Addr) (o1 e1 : Nat) (k1 s1 v1 : Int) (y1 : Bool) (t1 : Int) (g2 : Int) (A2 : Option Addr) (n2 c2 : Nat) (S2 : Option Addr) (m2 d2 : Nat) (j2 : Bool) (B2 : Option Addr) (o2 e2 : Nat) (k2 s2 v2 : Int) (y2 : Bool) (t2 : Int) (L1 M1 : List Nd) (l1 : List Int) (L2 M2 : List Nd) (l2 : List Int) (a : Int) (w : World) (h : QA w A1 n1 S1 m1 B1 o1 L1 M1 l1) (h2 : QA w A2 n2 S2 m2 B2 o2 L2 M2 l2) (hg1 : greatQ n1 o1 m1 = false) (hg2 : greatQ n2 o2 m2 = false) (x : Int) (hc1 : chkF ⟨g1, L1, l1, j1, M1, k1, s1, v1, y1, t1⟩ = x) (h0 : x ≠ 0) :
    Calls Try.prog 6 #[.agg #[.int .u8 g1, .slice A1 n1 c1, .slice S1 m1 d1, .bool j1, .slice B1 o1 e1, .int .u8 k1, .int .i64 s1, .int .i64 v1, .bool y1, .int .u8 t1], .agg #[.int .u8 g2, .slice A2 n2 c2, .slice S2 m2 d2, .bool j2, .slice B2 o2 e2, .int .u8 k2, .int .i64 s2, .int .i64 v2, .bool y2, .int .u8 t2], .int .i64 a] w fun e w' => e = .returned (.bool true) ∧ Below w.heap.size w w' := by
  have HG1 := Lib.hid (fun W => rgreat_any g1 A1 n1 c1 S1 m1 d1 j1 B1 o1 e1 k1 s1 v1 y1 t1 W false hg1)
  have HG2 := Lib.hid (fun W => rgreat_any g2 A2 n2 c2 S2 m2 d2 j2 B2 o2 e2 k2 s2 v2 y2 t2 W false hg2)
  have HC1 := Lib.hid (fun W (hb : Bl w W) => rchk_any g1 A1 n1 c1 S1 m1 d1 j1 B1 o1 e1 k1 s1 v1 y1 t1 L1 M1 l1 W (h.step hb) x hc1)
  have i0 := errno_ne h0
  clear hg1 hg2 hc1 h0
  have b0 := fun t => QX2.new w g1 A1 n1 c1 S1 m1 d1 j1 B1 o1 e1 k1 s1 v1 y1 t1 g2 A2 n2 c2 S2 m2 d2 j2 B2 o2 e2 k2 s2 v2 y2 t2 t
  clear h h2
  go_enter Try.func6, Try.ntmps6
  go_wp2_with (first
    | (go_at_call 7; ((with_reducible refine (HG1.out _).mono ?_); rintro e w1 ⟨rfl, hb⟩; have b1 := (b0 _).step hb; clear hb b0; obtain ⟨xx1, xx1_0, xx1_1, xx1_2, xx1_3, xx1_4, xx1_5, xx1_6, xx1_7, xx1_8, xx1_9⟩ := b1.1.cells; obtain ⟨yy1, yy1_0, yy1_1, yy1_2, yy1_3, yy1_4, yy1_5, yy1_6, yy1_7, yy1_8, yy1_9⟩ := b1.2.cells))
    | (go_at_call 7; ((with_reducible refine (HG2.out _).mono ?_); rintro e w2 ⟨rfl, hb⟩; have b2 := b1.step hb; clear hb b1; obtain ⟨xx2, xx2_0, xx2_1, xx2_2, xx2_3, xx2_4, xx2_5, xx2_6, xx2_7, xx2_8, xx2_9⟩ := b2.1.cells; obtain ⟨yy2, yy2_0, yy2_1, yy2_2, yy2_3, yy2_4, yy2_5, yy2_6, yy2_7, yy2_8, yy2_9⟩ := b2.2.cells))
    | (go_at_call 12; ((with_reducible refine (HC1.out _ b2.bl).mono ?_); rintro e w3 ⟨rfl, hb⟩; have b3 := b2.step hb; clear hb b2; obtain ⟨xx3, xx3_0, xx3_1, xx3_2, xx3_3, xx3_4, xx3_5, xx3_6, xx3_7, xx3_8, xx3_9⟩ := b3.1.cells; obtain ⟨yy3, yy3_0, yy3_1, yy3_2, yy3_3, yy3_4, yy3_5, yy3_6, yy3_7, yy3_8, yy3_9⟩ := b3.2.cells))
    | (go_at_call 15; refine (alive_any _).mono ?_; rintro e wz ⟨rfl, hb⟩))
  go_ret
  exact ⟨rfl, (b3.step hb).bl⟩
set_option maxHeartbeats 2000000 in
theorem ls_c2 (g1 : Int) (A1 : Option Addr) (n1 c1 : Nat) (S1 : Option Addr) (m1 d1 : Nat) (j1 : Bool) (B1 : Option Addr) (o1 e1 : Nat) (k1 s1 v1 : Int) (y1 : Bool) (t1 : Int) (g2 : Int) (A2 : Option Addr) (n2 c2 : Nat) (S2 : Option Addr) (m2 d2 : Nat) (j2 : Bool) (B2 : Option Addr) (o2 e2 : Nat) (k2 s2 v2 : Int) (y2 : Bool) (t2 : Int) (L1 M1 : List Nd) (l1 : List Int) (L2 M2 : List Nd) (l2 : List Int) (a : Int) (w : World) (h : QA w A1 n1 S1 m1 B1 o1 L1 M1 l1) (h2 : QA w A2 n2 S2 m2 B2 o2 L2 M2 l2) (hg1 : greatQ n1 o1 m1 = false) (hg2 : greatQ n2 o2 m2 = false) (hc1 : chkF ⟨g1, L1, l1, j1, M1, k1, s1, v1, y1, t1⟩ = 0) (x : Int) (hc2 : chkF ⟨g2, L2, l2, j2, M2, k2, s2, v2, y2, t2⟩ = x) (h0 : x ≠ 0) :
    Calls Try.prog 6 #[.agg #[.int .u8 g1, .slice A1 n1 c1, .slice S1 m1 d1, .bool j1, .slice B1 o1 e1, .int .u8 k1, .int .i64 s1, .int .i64 v1, .bool y1, .int .u8 t1], .agg #[.int .u8 g2, .slice A2 n2 c2, .slice S2 m2 d2, .bool j2, .slice B2 o2 e2, .int .u8 k2, .int .i64 s2, .int .i64 v2, .bool y2, .int .u8 t2], .int .i64 a] w fun e w' => e = .returned (.bool true) ∧ Below w.heap.size w w' := by
  have HG1 := Lib.hid (fun W => rgreat_any g1 A1 n1 c1 S1 m1 d1 j1 B1 o1 e1 k1 s1 v1 y1 t1 W false hg1)
  have HG2 := Lib.hid (fun W => rgreat_any g2 A2 n2 c2 S2 m2 d2 j2 B2 o2 e2 k2 s2 v2 y2 t2 W false hg2)
  have HC1 := Lib.hid (fun W (hb : Bl w W) => rchk_any g1 A1 n1 c1 S1 m1 d1 j1 B1 o1 e1 k1 s1 v1 y1 t1 L1 M1 l1 W (h.step hb) 0 hc1)
  have HC2 := Lib.hid (fun W (hb : Bl w W) => rchk_any g2 A2 n2 c2 S2 m2 d2 j2 B2 o2 e2 k2 s2 v2 y2 t2 L2 M2 l2 W (h2.step hb) x hc2)
  have i0 := errno_ne h0
  clear hg1 hg2 hc1 hc2 h0
  have b0 := fun t => QX2.new w g1 A1 n1 c1 S1 m1 d1 j1 B1 o1 e1 k1 s1 v1 y1 t1 g2 A2 n2 c2 S2 m2 d2 j2 B2 o2 e2 k2 s2 v2 y2 t2 t
  clear h h2
  go_enter Try.func6, Try.ntmps6
  go_wp2_with (first
    | (go_at_call 7; ((with_reducible refine (HG1.out _).mono ?_); rintro e w1 ⟨rfl, hb⟩; have b1 := (b0 _).step hb; clear hb b0; obtain ⟨xx1, xx1_0, xx1_1, xx1_2, xx1_3, xx1_4, xx1_5, xx1_6, xx1_7, xx1_8, xx1_9⟩ := b1.1.cells; obtain ⟨yy1, yy1_0, yy1_1, yy1_2, yy1_3, yy1_4, yy1_5, yy1_6, yy1_7, yy1_8, yy1_9⟩ := b1.2.cells))
    | (go_at_call 7; ((with_reducible refine (HG2.out _).mono ?_); rintro e w2 ⟨rfl, hb⟩; have b2 := b1.step hb; clear hb b1; obtain ⟨xx2, xx2_0, xx2_1, xx2_2, xx2_3, xx2_4, xx2_5, xx2_6, xx2_7, xx2_8, xx2_9⟩ := b2.1.cells; obtain ⟨yy2, yy2_0, yy2_1, yy2_2, yy2_3, yy2_4, yy2_5, yy2_6, yy2_7, yy2_8, yy2_9⟩ := b2.2.cells))
    | (go_at_call 12; ((with_reducible refine (HC1.out _ b2.bl).mono ?_); rintro e w3 ⟨rfl, hb⟩; have b3 := b2.step hb; clear hb b2; obtain ⟨xx3, xx3_0, xx3_1, xx3_2, xx3_3, xx3_4, xx3_5, xx3_6, xx3_7, xx3_8, xx3_9⟩ := b3.1.cells; obtain ⟨yy3, yy3_0, yy3_1, yy3_2, yy3_3, yy3_4, yy3_5, yy3_6, yy3_7, yy3_8, yy3_9⟩ := b3.2.cells))
    | (go_at_call 12; ((with_reducible refine (HC2.out _ b3.bl).mono ?_); rintro e w4 ⟨rfl, hb⟩; have b4 := b3.step hb; clear hb b3; obtain ⟨xx4, xx4_0, xx4_1, xx4_2, xx4_3, xx4_4, xx4_5, xx4_6, xx4_7, xx4_8, xx4_9⟩ := b4.1.cells; obtain ⟨yy4, yy4_0, yy4_1, yy4_2, yy4_3, yy4_4, yy4_5, yy4_6, yy4_7, yy4_8, yy4_9⟩ := b4.2.cells))
    | (go_at_call 15; refine (alive_any _).mono ?_; rintro e wz ⟨rfl, hb⟩))
  go_ret
  exact ⟨rfl, (b4.step hb).bl⟩
set_option maxHeartbeats 2000000 in
theorem ls_a1 (g1 : Int) (A1 : Option Addr) (n1 c1 : Nat) (S1 : Option Addr) (m1 d1 : Nat) (j1 : Bool) (B1 : Option Addr) (o1 e1 : Nat) (k1 s1 v1 : Int) (y1 : Bool) (t1 : Int) (g2 : Int) (A2 : Option Addr) (n2 c2 : Nat) (S2 : Option Addr) (m2 d2 : Nat) (j2 : Bool) (B2 : Option Addr) (o2 e2 : Nat) (k2 s2 v2 : Int) (y2 : Bool) (t2 : Int) (L1 M1 : List Nd) (l1 : List Int) (L2 M2 : List Nd) (l2 : List Int) (a : Int) (w : World) (h : QA w A1 n1 S1 m1 B1 o1 L1 M1 l1) (h2 : QA w A2 n2 S2 m2 B2 o2 L2 M2 l2) (hg1 : greatQ n1 o1 m1 = false) (hg2 : greatQ n2 o2 m2 = false) (hc1 : chkF ⟨g1, L1, l1, j1, M1, k1, s1, v1, y1, t1⟩ = 0) (hc2 : chkF ⟨g2, L2, l2, j2, M2, k2, s2, v2, y2, t2⟩ = 0) (ha : a < 0) :
    Calls Try.prog 6 #[.agg #[.int .u8 g1, .slice A1 n1 c1, .slice S1 m1 d1, .bool j1, .slice B1 o1 e1, .int .u8 k1, .int .i64 s1, .int .i64 v1, .bool y1, .int .u8 t1], .agg #[.int .u8 g2, .slice A2 n2 c2, .slice S2 m2 d2, .bool j2, .slice B2 o2 e2, .int .u8 k2, .int .i64 s2, .int .i64 v2, .bool y2, .int .u8 t2], .int .i64 a] w fun e w' => e = .returned (.bool true) ∧ Below w.heap.size w w' := by
  have HG1 := Lib.hid (fun W => rgreat_any g1 A1 n1 c1 S1 m1 d1 j1 B1 o1 e1 k1 s1 v1 y1 t1 W false hg1)
  have HG2 := Lib.hid (fun W => rgreat_any g2 A2 n2 c2 S2 m2 d2 j2 B2 o2 e2 k2 s2 v2 y2 t2 W false hg2)
  have HC1 := Lib.hid (fun W (hb : Bl w W) => rchk_any g1 A1 n1 c1 S1 m1 d1 j1 B1 o1 e1 k1 s1 v1 y1 t1 L1 M1 l1 W (h.step hb) 0 hc1)
  have HC2 := Lib.hid (fun W (hb : Bl w W) => rchk_any g2 A2 n2 c2 S2 m2 d2 j2 B2 o2 e2 k2 s2 v2 y2 t2 L2 M2 l2 W (h2.step hb) 0 hc2)
  clear hg1 hg2 hc1 hc2
  have b0 := fun t => QX2.new w g1 A1 n1 c1 S1 m1 d1 j1 B1 o1 e1 k1 s1 v1 y1 t1 g2 A2 n2 c2 S2 m2 d2 j2 B2 o2 e2 k2 s2 v2 y2 t2 t
  clear h h2
  go_enter Try.func6, Try.ntmps6
  go_wp2_with (first
    | (go_at_call 7; ((with_reducible refine (HG1.out _).mono ?_); rintro e w1 ⟨rfl, hb⟩; have b1 := (b0 _).step hb; clear hb b0; obtain ⟨xx1, xx1_0, xx1_1, xx1_2, xx1_3, xx1_4, xx1_5, xx1_6, xx1_7, xx1_8, xx1_9⟩ := b1.1.cells; obtain ⟨yy1, yy1_0, yy1_1, yy1_2, yy1_3, yy1_4, yy1_5, yy1_6, yy1_7, yy1_8, yy1_9⟩ := b1.2.cells))
    | (go_at_call 7; ((with_reducible refine (HG2.out _).mono ?_); rintro e w2 ⟨rfl, hb⟩; have b2 := b1.step hb; clear hb b1; obtain ⟨xx2, xx2_0, xx2_1, xx2_2, xx2_3, xx2_4, xx2_5, xx2_6, xx2_7, xx2_8, xx2_9⟩ := b2.1.cells; obtain ⟨yy2, yy2_0, yy2_1, yy2_2, yy2_3, yy2_4, yy2_5, yy2_6, yy2_7, yy2_8, yy2_9⟩ := b2.2.cells))
    | (go_at_call 12; ((with_reducible refine (HC1.out _ b2.bl).mono ?_); rintro e w3 ⟨rfl, hb⟩; have b3 := b2.step hb; clear hb b2; obtain ⟨xx3, xx3_0, xx3_1, xx3_2, xx3_3, xx3_4, xx3_5, xx3_6, xx3_7, xx3_8, xx3_9⟩ := b3.1.cells; obtain ⟨yy3, yy3_0, yy3_1, yy3_2, yy3_3, yy3_4, yy3_5, yy3_6, yy3_7, yy3_8, yy3_9⟩ := b3.2.cells))
    | (go_at_call 12; ((with_reducible refine (HC2.out _ b3.bl).mono ?_); rintro e w4 ⟨rfl, hb⟩; have b4 := b3.step hb; clear hb b3; obtain ⟨xx4, xx4_0, xx4_1, xx4_2, xx4_3, xx4_4, xx4_5, xx4_6, xx4_7, xx4_8, xx4_9⟩ := b4.1.cells; obtain ⟨yy4, yy4_0, yy4_1, yy4_2, yy4_3, yy4_4, yy4_5, yy4_6, yy4_7, yy4_8, yy4_9⟩ := b4.2.cells))
    | (go_at_call 15; refine (alive_any _).mono ?_; rintro e wz ⟨rfl, hb⟩))
  go_ret
  exact ⟨rfl, (b4.step hb).bl⟩
set_option maxHeartbeats 2000000 in
theorem ls_a2 (g1 : Int) (A1 : Option Addr) (n1 c1 : Nat) (S1 : Option Addr) (m1 d1 : Nat) (j1 : Bool) (B1 : Option Addr) (o1 e1 : Nat) (k1 s1 v1 : Int) (y1 : Bool) (t1 : Int) (g2 : Int) (A2 : Option Addr) (n2 c2 : Nat) (S2 : Option Addr) (m2 d2 : Nat) (j2 : Bool) (B2 : Option Addr) (o2 e2 : Nat) (k2 s2 v2 : Int) (y2 : Bool) (t2 : Int) (L1 M1 : List Nd) (l1 : List Int) (L2 M2 : List Nd) (l2 : List Int) (a : Int) (w : World) (h : QA w A1 n1 S1 m1 B1 o1 L1 M1 l1) (h2 : QA w A2 n2 S2 m2 B2 o2 L2 M2 l2) (hg1 : greatQ n1 o1 m1 = false) (hg2 : greatQ n2 o2 m2 = false) (hc1 : chkF ⟨g1, L1, l1, j1, M1, k1, s1, v1, y1, t1⟩ = 0) (hc2 : chkF ⟨g2, L2, l2, j2, M2, k2, s2, v2, y2, t2⟩ = 0) (ha : 0 ≤ a) (ha2 : 400 < a) :
    Calls Try.prog 6 #[.agg #[.int .u8 g1, .slice A1 n1 c1, .slice S1 m1 d1, .bool j1, .slice B1 o1 e1, .int .u8 k1, .int .i64 s1, .int .i64 v1, .bool y1, .int .u8 t1], .agg #[.int .u8 g2, .slice A2 n2 c2, .slice S2 m2 d2, .bool j2, .slice B2 o2 e2, .int .u8 k2, .int .i64 s2, .int .i64 v2, .bool y2, .int .u8 t2], .int .i64 a] w fun e w' => e = .returned (.bool true) ∧ Below w.heap.size w w' := by
  have HG1 := Lib.hid (fun W => rgreat_any g1 A1 n1 c1 S1 m1 d1 j1 B1 o1 e1 k1 s1 v1 y1 t1 W false hg1)
  have HG2 := Lib.hid (fun W => rgreat_any g2 A2 n2 c2 S2 m2 d2 j2 B2 o2 e2 k2 s2 v2 y2 t2 W false hg2)
  have HC1 := Lib.hid (fun W (hb : Bl w W) => rchk_any g1 A1 n1 c1 S1 m1 d1 j1 B1 o1 e1 k1 s1 v1 y1 t1 L1 M1 l1 W (h.step hb) 0 hc1)
  have HC2 := Lib.hid (fun W (hb : Bl w W) => rchk_any g2 A2 n2 c2 S2 m2 d2 j2 B2 o2 e2 k2 s2 v2 y2 t2 L2 M2 l2 W (h2.step hb) 0 hc2)
  clear hg1 hg2 hc1 hc2
  have b0 := fun t => QX2.new w g1 A1 n1 c1 S1 m1 d1 j1 B1 o1 e1 k1 s1 v1 y1 t1 g2 A2 n2 c2 S2 m2 d2 j2 B2 o2 e2 k2 s2 v2 y2 t2 t
  clear h h2
  go_enter Try.func6, Try.ntmps6
  go_wp2_with (first
    | (go_at_call 7; ((with_reducible refine (HG1.out _).mono ?_); rintro e w1 ⟨rfl, hb⟩; have b1 := (b0 _).step hb; clear hb b0; obtain ⟨xx1, xx1_0, xx1_1, xx1_2, xx1_3, xx1_4, xx1_5, xx1_6, xx1_7, xx1_8, xx1_9⟩ := b1.1.cells; obtain ⟨yy1, yy1_0, yy1_1, yy1_2, yy1_3, yy1_4, yy1_5, yy1_6, yy1_7, yy1_8, yy1_9⟩ := b1.2.cells))
    | (go_at_call 7; ((with_reducible refine (HG2.out _).mono ?_); rintro e w2 ⟨rfl, hb⟩; have b2 := b1.step hb; clear hb b1; obtain ⟨xx2, xx2_0, xx2_1, xx2_2, xx2_3, xx2_4, xx2_5, xx2_6, xx2_7, xx2_8, xx2_9⟩ := b2.1.cells; obtain ⟨yy2, yy2_0, yy2_1, yy2_2, yy2_3, yy2_4, yy2_5, yy2_6, yy2_7, yy2_8, yy2_9⟩ := b2.2.cells))
    | (go_at_call 12; ((with_reducible refine (HC1.out _ b2.bl).mono ?_); rintro e w3 ⟨rfl, hb⟩; have b3 := b2.step hb; clear hb b2; obtain ⟨xx3, xx3_0, xx3_1, xx3_2, xx3_3, xx3_4, xx3_5, xx3_6, xx3_7, xx3_8, xx3_9⟩ := b3.1.cells; obtain ⟨yy3, yy3_0, yy3_1, yy3_2, yy3_3, yy3_4, yy3_5, yy3_6, yy3_7, yy3_8, yy3_9⟩ := b3.2.cells))
    | (go_at_call 12; ((with_reducible refine (HC2.out _ b3.bl).mono ?_); rintro e w4 ⟨rfl, hb⟩; have b4 := b3.step hb; clear hb b3; obtain ⟨xx4, xx4_0, xx4_1, xx4_2, xx4_3, xx4_4, xx4_5, xx4_6, xx4_7, xx4_8, xx4_9⟩ := b4.1.cells; obtain ⟨yy4, yy4_0, yy4_1, yy4_2, yy4_3, yy4_4, yy4_5, yy4_6, yy4_7, yy4_8, yy4_9⟩ := b4.2.cells))
    | (go_at_call 15; refine (alive_any _).mono ?_; rintro e wz ⟨rfl, hb⟩))
  go_ret
  exact ⟨rfl, (b4.step hb).bl⟩
set_option maxHeartbeats 16000000 in
theorem ls_main_t (g1 : Int) (A1 : Option Addr) (n1 c1 : Nat) (S1 : Option Addr) (m1 d1 : Nat) (j1 : Bool) (B1 : Option Addr) (o1 e1 : Nat) (k1 s1 v1 : Int) (y1 : Bool) (t1 : Int) (g2 : Int) (A2 : Option Addr) (n2 c2 : Nat) (S2 : Option Addr) (m2 d2 : Nat) (j2 : Bool) (B2 : Option Addr) (o2 e2 : Nat) (k2 s2 v2 : Int) (y2 : Bool) (t2 : Int) (L1 M1 : List Nd) (l1 : List Int) (L2 M2 : List Nd) (l2 : List Int) (a : Int) (w : World) (h : QA w A1 n1 S1 m1 B1 o1 L1 M1 l1) (h2 : QA w A2 n2 S2 m2 B2 o2 L2 M2 l2) (hs1 : s1 ≤ 9223372036854775807) (hs2 : s2 ≤ 9223372036854775807) (hA : SlOk A1 n1 c1) (hB : SlOk B1 o1 e1) (hS : SlOk S1 m1 d1) (hg1 : greatQ n1 o1 m1 = false) (hg2 : greatQ n2 o2 m2 = false) (hc1 : chkF ⟨g1, L1, l1, j1, M1, k1, s1, v1, y1, t1⟩ = 0) (hc2 : chkF ⟨g2, L2, l2, j2, M2, k2, s2, v2, y2, t2⟩ = 0) (ha : 0 ≤ a) (ha2 : a ≤ 400) (hv : sameQ ⟨g1, L1, l1, j1, M1, k1, s1, v1, y1, t1⟩ ⟨g2, L2, l2, j2, M2, k2, s2, v2, y2, t2⟩ = true) :
    Calls Try.prog 6 #[.agg #[.int .u8 g1, .slice A1 n1 c1, .slice S1 m1 d1, .bool j1, .slice B1 o1 e1, .int .u8 k1, .int .i64 s1, .int .i64 v1, .bool y1, .int .u8 t1], .agg #[.int .u8 g2, .slice A2 n2 c2, .slice S2 m2 d2, .bool j2, .slice B2 o2 e2, .int .u8 k2, .int .i64 s2, .int .i64 v2, .bool y2, .int .u8 t2], .int .i64 a] w fun e w' => e = .returned (.bool true) ∧ Below w.heap.size w w' := by
  obtain ⟨p1, p2, p3⟩ := great_false hg1
  obtain ⟨p4, p5, p6⟩ := great_false hg2
  have f1 : ¬ a < 0 := by omega
  have f2 : ¬ 400 < a := by omega
  have HG1 := Lib.hid (fun W => rgreat_any g1 A1 n1 c1 S1 m1 d1 j1 B1 o1 e1 k1 s1 v1 y1 t1 W false hg1)
  have HG2 := Lib.hid (fun W => rgreat_any g2 A2 n2 c2 S2 m2 d2 j2 B2 o2 e2 k2 s2 v2 y2 t2 W false hg2)
  have HC1 := Lib.hid (fun W (hb : Bl w W) => rchk_any g1 A1 n1 c1 S1 m1 d1 j1 B1 o1 e1 k1 s1 v1 y1 t1 L1 M1 l1 W (h.step hb) 0 hc1)
  have HC2 := Lib.hid (fun W (hb : Bl w W) => rchk_any g2 A2 n2 c2 S2 m2 d2 j2 B2 o2 e2 k2 s2 v2 y2 t2 L2 M2 l2 W (h2.step hb) 0 hc2)
  have HS1 := Lib.hid (fun W (hb : Bl w W) => csame_ok g1 A1 n1 c1 S1 m1 d1 j1 B1 o1 e1 k1 s1 v1 y1 t1 g2 A2 n2 c2 S2 m2 d2 j2 B2 o2 e2 k2 s2 v2 y2 t2 L1 M1 l1 L2 M2 l2 W (h.step hb) (h2.step hb) hs1 hs2 p1 p4 p2 p5 p3 p6 hc1 hc2 _ hv)
  have HS2 := Lib.hid (fun W (hb : Bl w W) => csame_ok g2 A2 n2 c2 S2 m2 d2 j2 B2 o2 e2 k2 s2 v2 y2 t2 g1 A1 n1 c1 S1 m1 d1 j1 B1 o1 e1 k1 s1 v1 y1 t1 L2 M2 l2 L1 M1 l1 W (h2.step hb) (h.step hb) hs2 hs1 p4 p1 p5 p2 p6 p3 hc2 hc1 true ((sameQ_comm _ _).trans hv))
  have HTW := Lib.hid (fun W (hb : Bl w W) => twin_any g1 A1 n1 c1 S1 m1 d1 j1 B1 o1 e1 k1 s1 v1 y1 t1 L1 M1 l1 W (h.step hb) p1 p2 p3 hA hB hS)
  have HS3 := Lib.hid (fun aa ca b cb d cd W (hb : Bl w W) (hq : QA W (some ⟨aa, 0, none⟩) n1 (some ⟨d, 0, none⟩) m1 (some ⟨b, 0, none⟩) o1 (L1.map (setp a)) (M1.map (setp a)) l1) => csame_ok g1 A1 n1 c1 S1 m1 d1 j1 B1 o1 e1 k1 s1 v1 y1 t1 g1 (some ⟨aa, 0, none⟩) n1 ca (some ⟨d, 0, none⟩) m1 cd j1 (some ⟨b, 0, none⟩) o1 cb k1 s1 v1 y1 t1 L1 M1 l1 (L1.map (setp a)) (M1.map (setp a)) l1 W (h.step hb) hq hs1 hs1 p1 p1 p2 p2 p3 p3 hc1 (chk_setp ha ha2 hc1) true (same_moved a))
  have HS4 := Lib.hid (fun W (hb : Bl w W) => csame_ok g1 A1 n1 c1 S1 m1 d1 j1 B1 o1 e1 k1 s1 v1 y1 t1 g1 A1 n1 c1 S1 m1 d1 j1 B1 o1 e1 k1 s1 v1 (!y1) t1 L1 M1 l1 L1 M1 l1 W (h.step hb) (h.step hb) hs1 hs1 p1 p1 p2 p2 p3 p3 hc1 (chk_key (!y1) hc1) false same_key)
  have HS5 := Lib.hid (fun W (hb : Bl w W) => csame_ok g1 A1 n1 c1 S1 m1 d1 j1 B1 o1 e1 k1 s1 v1 y1 t1 g1 A1 n1 c1 S1 m1 d1 j1 B1 o1 e1 k1 s1 v1 y1 (3 - t1) L1 M1 l1 L1 M1 l1 W (h.step hb) (h.step hb) hs1 hs1 p1 p1 p2 p2 p3 p3 hc1 (chk_late hc1) false (same_late (late_in hc1)))
  have HEQ := Lib.hid (fun W (hb : Bl w W) => reqq_any g1 A1 n1 c1 S1 m1 d1 j1 B1 o1 e1 k1 s1 v1 y1 t1 g2 A2 n2 c2 S2 m2 d2 j2 B2 o2 e2 k2 s2 v2 y2 t2 L1 M1 l1 L2 M2 l2 W (h.step hb) (h2.step hb) p1 p4 p2 p5 p3 p6 (decide (L1 = L2) && decide (M1 = M2)) (by rw [hv]; rfl))
  have hwr : IntKind.u8.wrap (3 - t1) = 3 - t1 := by rcases late_in hc1 with hh | hh <;> simp only at hh <;> subst hh <;> rfl
  have HLn := Lib.hid (show L1.length = n1 ∧ M1.length = o1 ∧ l1.length = m1 from ⟨h.1.2.1, h.2.2.2.1, h.2.1.2⟩)
  have HP := Lib.hid (show n1 ≤ 70 ∧ o1 ≤ 70 from ⟨p1, p2⟩)
  have b0 := fun t => QX2.new w g1 A1 n1 c1 S1 m1 d1 j1 B1 o1 e1 k1 s1 v1 y1 t1 g2 A2 n2 c2 S2 m2 d2 j2 B2 o2 e2 k2 s2 v2 y2 t2 t
  clear h h2 hs1 hs2 hA hB hS hg1 hg2 hc1 hc2 hv p3 p4 p5 p6
  go_enter Try.func6, Try.ntmps6
  go_wp2_with (first
    | (go_at_call 7; ((with_reducible refine (HG1.out _).mono ?_); rintro e w1 ⟨rfl, hb⟩; have b1 := (b0 _).step hb; clear hb b0; obtain ⟨xx1, xx1_0, xx1_1, xx1_2, xx1_3, xx1_4, xx1_5, xx1_6, xx1_7, xx1_8, xx1_9⟩ := b1.1.cells; obtain ⟨yy1, yy1_0, yy1_1, yy1_2, yy1_3, yy1_4, yy1_5, yy1_6, yy1_7, yy1_8, yy1_9⟩ := b1.2.cells))
    | (go_at_call 7; ((with_reducible refine (HG2.out _).mono ?_); rintro e w2 ⟨rfl, hb⟩; have b2 := b1.step hb; clear hb b1; obtain ⟨xx2, xx2_0, xx2_1, xx2_2, xx2_3, xx2_4, xx2_5, xx2_6, xx2_7, xx2_8, xx2_9⟩ := b2.1.cells; obtain ⟨yy2, yy2_0, yy2_1, yy2_2, yy2_3, yy2_4, yy2_5, yy2_6, yy2_7, yy2_8, yy2_9⟩ := b2.2.cells))
    | (go_at_call 12; ((with_reducible refine (HC1.out _ b2.bl).mono ?_); rintro e w3 ⟨rfl, hb⟩; have b3 := b2.step hb; clear hb b2; obtain ⟨xx3, xx3_0, xx3_1, xx3_2, xx3_3, xx3_4, xx3_5, xx3_6, xx3_7, xx3_8, xx3_9⟩ := b3.1.cells; obtain ⟨yy3, yy3_0, yy3_1, yy3_2, yy3_3, yy3_4, yy3_5, yy3_6, yy3_7, yy3_8, yy3_9⟩ := b3.2.cells))
    | (go_at_call 12; ((with_reducible refine (HC2.out _ b3.bl).mono ?_); rintro e w4 ⟨rfl, hb⟩; have b4 := b3.step hb; clear hb b3; obtain ⟨xx4, xx4_0, xx4_1, xx4_2, xx4_3, xx4_4, xx4_5, xx4_6, xx4_7, xx4_8, xx4_9⟩ := b4.1.cells; obtain ⟨yy4, yy4_0, yy4_1, yy4_2, yy4_3, yy4_4, yy4_5, yy4_6, yy4_7, yy4_8, yy4_9⟩ := b4.2.cells))
    | (go_at_call 9; ((with_reducible refine (HS1.out _ b4.bl).mono ?_); rintro e w5 ⟨rfl, hb⟩; have b5 := b4.step hb; clear hb b4; obtain ⟨xx5, xx5_0, xx5_1, xx5_2, xx5_3, xx5_4, xx5_5, xx5_6, xx5_7, xx5_8, xx5_9⟩ := b5.1.cells; obtain ⟨yy5, yy5_0, yy5_1, yy5_2, yy5_3, yy5_4, yy5_5, yy5_6, yy5_7, yy5_8, yy5_9⟩ := b5.2.cells))
    | (go_at_call 9; ((with_reducible refine (HS2.out _ b5.bl).mono ?_); rintro e w6 ⟨rfl, hb⟩; have b6 := b5.step hb; clear hb b5; obtain ⟨xx6, xx6_0, xx6_1, xx6_2, xx6_3, xx6_4, xx6_5, xx6_6, xx6_7, xx6_8, xx6_9⟩ := b6.1.cells; obtain ⟨yy6, yy6_0, yy6_1, yy6_2, yy6_3, yy6_4, yy6_5, yy6_6, yy6_7, yy6_8, yy6_9⟩ := b6.2.cells))
    | (go_at_call 8; ((with_reducible refine (HTW.out _ b6.bl).mono ?_); rintro e w7 ⟨aa, ca, b, cb, d, cd, rfl, r1, r2, r3, q1, q2, q3, hb⟩; have hz6 := b6.2.cells.1; have hr1 := (r1.lt aa rfl).2; have hr2 := (r2.lt b rfl).2; have b7' := b6.step hb; have hmv := Lib.hid (show MV w w7.heap.size g1 A1 n1 c1 S1 m1 d1 j1 B1 o1 e1 k1 s1 v1 y1 t1 g2 A2 n2 c2 S2 m2 d2 j2 B2 o2 e2 k2 s2 v2 y2 t2 aa ca b cb d cd L1 M1 l1 (w7.alloc (.cells #[.int .u8 g1, .slice (some ⟨aa, 0, none⟩) n1 ca, .slice (some ⟨d, 0, none⟩) m1 cd, .bool j1, .slice (some ⟨b, 0, none⟩) o1 cb, .int .u8 k1, .int .i64 s1, .int .i64 v1, .bool y1, .int .u8 t1] 27)) from ⟨b7'.step ((Below.refl _ _).alloc (Nat.le_refl _) _), QX.new b7'.bl _ _ _ _ _ _ _ _ _ _ _ _ _ _ _ _ _, (r1.mono (by omega)).alloc _, (r2.mono (by omega)).alloc _, (r3.mono (by omega)).alloc _, q1, q2, q3, by omega, by omega⟩); clear hb b6 b7' r1 r2 r3 q1 q2 q3)))
  go_loopw [12] (fun iv wr => ∃ k : Nat, iv = .int .i64 k ∧ k ≤ o1 ∧ Hid (MV w w7.heap.size g1 A1 n1 c1 S1 m1 d1 j1 B1 o1 e1 k1 s1 v1 y1 t1 g2 A2 n2 c2 S2 m2 d2 j2 B2 o2 e2 k2 s2 v2 y2 t2 aa ca b cb d cd L1 (mk M1 a k) l1 wr)) (fun iv _ => o1 - (intOf iv).toNat)
  case atStart => exact ⟨0, rfl, Nat.zero_le _, by rw [mk_zero]; exact hmv.out⟩
  case round =>
    obtain ⟨k, rfl, hk, HK1⟩ := hrel
    clear hmv
    obtain ⟨mm1, mm1_0, mm1_1, mm1_2, mm1_3, mm1_4, mm1_5, mm1_6, mm1_7, mm1_8, mm1_9⟩ := HK1.out.2.1.cells
    by_cases hlt : k < o1
    · obtain ⟨x, hx⟩ : ∃ x, M1[k]? = some x := ⟨_, List.getElem?_eq_getElem (by rw [HLn.out.2.1]; exact hlt)⟩
      have HX := Lib.hid hx
      clear hx
      obtain ⟨⟨u0, u1, u2, u3, u4, r0, r1, r2, r3, r4⟩, z0, z1, z2, z3, z4⟩ := own_five HK1.out.2.2.2.1 k hlt
      have j1 : (0 : Int) ≤ k := by omega
      have j2 : (k : Int) < o1 := by omega
      go_wp2
      go_roundw
      case rel => exact ⟨k + 1, by go_num, by omega, HK1.out.setB HX.out⟩
      case measure => simp [intOf]; omega
    · obtain rfl : o1 = k := by omega
      clear hlt
      go_wp2
      go_loopw [13] (fun iv wr' => ∃ q : Nat, iv = .int .i64 q ∧ q ≤ n1 ∧ Hid (MV w w7.heap.size g1 A1 n1 c1 S1 m1 d1 j1 B1 o1 e1 k1 s1 v1 y1 t1 g2 A2 n2 c2 S2 m2 d2 j2 B2 o2 e2 k2 s2 v2 y2 t2 aa ca b cb d cd (mk L1 a q) (mk M1 a o1) l1 wr')) (fun iv _ => n1 - (intOf iv).toNat)
      case atStart => exact ⟨0, rfl, Nat.zero_le _, by rw [mk_zero]; exact HK1.out⟩
      case round =>
        obtain ⟨q, rfl, hq, HK2⟩ := hrel
        clear HK1
        obtain ⟨mm2, mm2_0, mm2_1, mm2_2, mm2_3, mm2_4, mm2_5, mm2_6, mm2_7, mm2_8, mm2_9⟩ := HK2.out.2.1.cells
        by_cases hlt : q < n1
        · obtain ⟨x, hx⟩ : ∃ x, L1[q]? = some x := ⟨_, List.getElem?_eq_getElem (by rw [HLn.out.1]; exact hlt)⟩
          have HX := Lib.hid hx
          clear hx
          obtain ⟨⟨u0, u1, u2, u3, u4, r0, r1, r2, r3, r4⟩, z0, z1, z2, z3, z4⟩ := own_five HK2.out.2.2.1 q hlt
          have j1 : (0 : Int) ≤ q := by omega
          have j2 : (q : Int) < n1 := by omega
          go_wp2
          go_roundw
          case rel => exact ⟨q + 1, by go_num, by omega, HK2.out.setA HX.out⟩
          case measure => simp [intOf]; omega
        · obtain rfl : n1 = q := by omega
          clear hlt
          have hq2 := HK2.out.qx2
          have hqa : QA _ _ _ _ _ _ _ (L1.map (setp a)) (M1.map (setp a)) l1 := HK2.out.qa' HLn.out HP.out
          have hQA := Lib.hid hqa
          clear hqa
          obtain ⟨xp, xp0, xp1, xp2, xp3, xp4, xp5, xp6, xp7, xp8, xp9⟩ := hq2.1.cells
          obtain ⟨yp, yp0, yp1, yp2, yp3, yp4, yp5, yp6, yp7, yp8, yp9⟩ := hq2.2.cells
          have hBQ := Lib.hid hq2
          clear hq2
          go_wp2_with (go_at_call 9; ((with_reducible refine (HS3.out _ _ _ _ _ _ _ hBQ.out.bl hQA.out).mono ?_); rintro e w8 ⟨rfl, hb⟩; have b8 := hBQ.out.step hb; clear hb hBQ; obtain ⟨xx8, xx8_0, xx8_1, xx8_2, xx8_3, xx8_4, xx8_5, xx8_6, xx8_7, xx8_8, xx8_9⟩ := b8.1.cells; obtain ⟨yy8, yy8_0, yy8_1, yy8_2, yy8_3, yy8_4, yy8_5, yy8_6, yy8_7, yy8_8, yy8_9⟩ := b8.2.cells))
          have ne1 : w8.heap.size ≠ w.heap.size := by omega
          have ne2 : w8.heap.size + 1 ≠ w.heap.size := by omega
          have HB8 := Lib.hid b8
          have hz8 : w.heap.size + 1 < w8.heap.size := b8.2.cells.1
          clear b8
          go_region_held3 (fun w' => w'.cell? ⟨w.heap.size, 0, none⟩ = some (.int .u8 g1) ∧ w'.cell? ⟨w.heap.size, 1, none⟩ = some (.slice A1 n1 c1) ∧ w'.cell? ⟨w.heap.size, 2, none⟩ = some (.slice S1 m1 d1) ∧ w'.cell? ⟨w.heap.size, 3, none⟩ = some (.bool j1) ∧ w'.cell? ⟨w.heap.size, 4, none⟩ = some (.slice B1 o1 e1) ∧ w'.cell? ⟨w.heap.size, 5, none⟩ = some (.int .u8 k1) ∧ w'.cell? ⟨w.heap.size, 6, none⟩ = some (.int .i64 s1) ∧ w'.cell? ⟨w.heap.size, 7, none⟩ = some (.int .i64 v1) ∧ w'.cell? ⟨w.heap.size, 8, none⟩ = some (.bool y1) ∧ w'.cell? ⟨w.heap.size, 9, none⟩ = some (.int .u8 t1)) (go_keep) (fail)
          all_goals
            go_wp2_with (first
              | (go_at_call 9; ((refine (HS4.out _ (HB8.out.bl.step (by repeat (first | exact Below.refl _ _ | refine Below.alloc ?_ (by simp; try omega) _ | refine Below.setCell ?_ (by simp; try omega) _ | refine Below.drew ?_)))).mono ?_); rintro e w9 ⟨rfl, hb⟩; have b9 := QX2.step (QX2.step HB8.out (show Below w8.heap.size w8 _ from by repeat (first | exact Below.refl _ _ | refine Below.alloc ?_ (by simp; try omega) _ | refine Below.setCell ?_ (by simp; try omega) _ | refine Below.drew ?_))) hb; obtain ⟨hc, hf⟩ := bcell hb; have hz9 := hb.size; clear hb HS4; obtain ⟨xx9, xx9_0, xx9_1, xx9_2, xx9_3, xx9_4, xx9_5, xx9_6, xx9_7, xx9_8, xx9_9⟩ := b9.1.cells; obtain ⟨yy9, yy9_0, yy9_1, yy9_2, yy9_3, yy9_4, yy9_5, yy9_6, yy9_7, yy9_8, yy9_9⟩ := b9.2.cells))
              | (go_at_call 9; ((with_reducible refine (HS5.out _ b9.bl).mono ?_); rintro e w10 ⟨rfl, hb⟩; have b10 := b9.step hb; clear hb hc b9; obtain ⟨xx10, xx10_0, xx10_1, xx10_2, xx10_3, xx10_4, xx10_5, xx10_6, xx10_7, xx10_8, xx10_9⟩ := b10.1.cells; obtain ⟨yy10, yy10_0, yy10_1, yy10_2, yy10_3, yy10_4, yy10_5, yy10_6, yy10_7, yy10_8, yy10_9⟩ := b10.2.cells))
              | (go_at_call 13; ((with_reducible refine (HEQ.out _ b10.bl).mono ?_); rintro e w11 ⟨rfl, hb⟩; have b11 := b10.step hb; clear hb b10))
              | (go_at_call 15; refine (alive_any _).mono ?_; rintro e w12 ⟨rfl, hb⟩))
            go_ret
            first | exact ⟨rfl, (b11.step hb).bl⟩ | exact ⟨rfl, (b10.step hb).bl⟩
set_option maxHeartbeats 16000000 in
theorem ls_main_f (g1 : Int) (A1 : Option Addr) (n1 c1 : Nat) (S1 : Option Addr) (m1 d1 : Nat) (j1 : Bool) (B1 : Option Addr) (o1 e1 : Nat) (k1 s1 v1 : Int) (y1 : Bool) (t1 : Int) (g2 : Int) (A2 : Option Addr) (n2 c2 : Nat) (S2 : Option Addr) (m2 d2 : Nat) (j2 : Bool) (B2 : Option Addr) (o2 e2 : Nat) (k2 s2 v2 : Int) (y2 : Bool) (t2 : Int) (L1 M1 : List Nd) (l1 : List Int) (L2 M2 : List Nd) (l2 : List Int) (a : Int) (w : World) (h : QA w A1 n1 S1 m1 B1 o1 L1 M1 l1) (h2 : QA w A2 n2 S2 m2 B2 o2 L2 M2 l2) (hs1 : s1 ≤ 9223372036854775807) (hs2 : s2 ≤ 9223372036854775807) (hA : SlOk A1 n1 c1) (hB : SlOk B1 o1 e1) (hS : SlOk S1 m1 d1) (hg1 : greatQ n1 o1 m1 = false) (hg2 : greatQ n2 o2 m2 = false) (hc1 : chkF ⟨g1, L1, l1, j1, M1, k1, s1, v1, y1, t1⟩ = 0) (hc2 : chkF ⟨g2, L2, l2, j2, M2, k2, s2, v2, y2, t2⟩ = 0) (ha : 0 ≤ a) (ha2 : a ≤ 400) (hv : sameQ ⟨g1, L1, l1, j1, M1, k1, s1, v1, y1, t1⟩ ⟨g2, L2, l2, j2, M2, k2, s2, v2, y2, t2⟩ = false) :
    Calls Try.prog 6 #[.agg #[.int .u8 g1, .slice A1 n1 c1, .slice S1 m1 d1, .bool j1, .slice B1 o1 e1, .int .u8 k1, .int .i64 s1, .int .i64 v1, .bool y1, .int .u8 t1], .agg #[.int .u8 g2, .slice A2 n2 c2, .slice S2 m2 d2, .bool j2, .slice B2 o2 e2, .int .u8 k2, .int .i64 s2, .int .i64 v2, .bool y2, .int .u8 t2], .int .i64 a] w fun e w' => e = .returned (.bool true) ∧ Below w.heap.size w w' := by
  obtain ⟨p1, p2, p3⟩ := great_false hg1
  obtain ⟨p4, p5, p6⟩ := great_false hg2
  have f1 : ¬ a < 0 := by omega
  have f2 : ¬ 400 < a := by omega
  have HG1 := Lib.hid (fun W => rgreat_any g1 A1 n1 c1 S1 m1 d1 j1 B1 o1 e1 k1 s1 v1 y1 t1 W false hg1)
  have HG2 := Lib.hid (fun W => rgreat_any g2 A2 n2 c2 S2 m2 d2 j2 B2 o2 e2 k2 s2 v2 y2 t2 W false hg2)
  have HC1 := Lib.hid (fun W (hb : Bl w W) => rchk_any g1 A1 n1 c1 S1 m1 d1 j1 B1 o1 e1 k1 s1 v1 y1 t1 L1 M1 l1 W (h.step hb) 0 hc1)
  have HC2 := Lib.hid (fun W (hb : Bl w W) => rchk_any g2 A2 n2 c2 S2 m2 d2 j2 B2 o2 e2 k2 s2 v2 y2 t2 L2 M2 l2 W (h2.step hb) 0 hc2)
  have HS1 := Lib.hid (fun W (hb : Bl w W) => csame_ok g1 A1 n1 c1 S1 m1 d1 j1 B1 o1 e1 k1 s1 v1 y1 t1 g2 A2 n2 c2 S2 m2 d2 j2 B2 o2 e2 k2 s2 v2 y2 t2 L1 M1 l1 L2 M2 l2 W (h.step hb) (h2.step hb) hs1 hs2 p1 p4 p2 p5 p3 p6 hc1 hc2 _ hv)
  have HS2 := Lib.hid (fun W (hb : Bl w W) => csame_ok g2 A2 n2 c2 S2 m2 d2 j2 B2 o2 e2 k2 s2 v2 y2 t2 g1 A1 n1 c1 S1 m1 d1 j1 B1 o1 e1 k1 s1 v1 y1 t1 L2 M2 l2 L1 M1 l1 W (h2.step hb) (h.step hb) hs2 hs1 p4 p1 p5 p2 p6 p3 hc2 hc1 false ((sameQ_comm _ _).trans hv))
  have HTW := Lib.hid (fun W (hb : Bl w W) => twin_any g1 A1 n1 c1 S1 m1 d1 j1 B1 o1 e1 k1 s1 v1 y1 t1 L1 M1 l1 W (h.step hb) p1 p2 p3 hA hB hS)
  have HS3 := Lib.hid (fun aa ca b cb d cd W (hb : Bl w W) (hq : QA W (some ⟨aa, 0, none⟩) n1 (some ⟨d, 0, none⟩) m1 (some ⟨b, 0, none⟩) o1 (L1.map (setp a)) (M1.map (setp a)) l1) => csame_ok g1 A1 n1 c1 S1 m1 d1 j1 B1 o1 e1 k1 s1 v1 y1 t1 g1 (some ⟨aa, 0, none⟩) n1 ca (some ⟨d, 0, none⟩) m1 cd j1 (some ⟨b, 0, none⟩) o1 cb k1 s1 v1 y1 t1 L1 M1 l1 (L1.map (setp a)) (M1.map (setp a)) l1 W (h.step hb) hq hs1 hs1 p1 p1 p2 p2 p3 p3 hc1 (chk_setp ha ha2 hc1) true (same_moved a))
  have HS4 := Lib.hid (fun W (hb : Bl w W) => csame_ok g1 A1 n1 c1 S1 m1 d1 j1 B1 o1 e1 k1 s1 v1 y1 t1 g1 A1 n1 c1 S1 m1 d1 j1 B1 o1 e1 k1 s1 v1 (!y1) t1 L1 M1 l1 L1 M1 l1 W (h.step hb) (h.step hb) hs1 hs1 p1 p1 p2 p2 p3 p3 hc1 (chk_key (!y1) hc1) false same_key)
  have HS5 := Lib.hid (fun W (hb : Bl w W) => csame_ok g1 A1 n1 c1 S1 m1 d1 j1 B1 o1 e1 k1 s1 v1 y1 t1 g1 A1 n1 c1 S1 m1 d1 j1 B1 o1 e1 k1 s1 v1 y1 (3 - t1) L1 M1 l1 L1 M1 l1 W (h.step hb) (h.step hb) hs1 hs1 p1 p1 p2 p2 p3 p3 hc1 (chk_late hc1) false (same_late (late_in hc1)))
  have HEQ := Lib.hid (fun W (hb : Bl w W) => reqq_any g1 A1 n1 c1 S1 m1 d1 j1 B1 o1 e1 k1 s1 v1 y1 t1 g2 A2 n2 c2 S2 m2 d2 j2 B2 o2 e2 k2 s2 v2 y2 t2 L1 M1 l1 L2 M2 l2 W (h.step hb) (h2.step hb) p1 p4 p2 p5 p3 p6 false (by rw [hv]; rfl))
  have hwr : IntKind.u8.wrap (3 - t1) = 3 - t1 := by rcases late_in hc1 with hh | hh <;> simp only at hh <;> subst hh <;> rfl
  have HLn := Lib.hid (show L1.length = n1 ∧ M1.length = o1 ∧ l1.length = m1 from ⟨h.1.2.1, h.2.2.2.1, h.2.1.2⟩)
  have HP := Lib.hid (show n1 ≤ 70 ∧ o1 ≤ 70 from ⟨p1, p2⟩)
  have b0 := fun t => QX2.new w g1 A1 n1 c1 S1 m1 d1 j1 B1 o1 e1 k1 s1 v1 y1 t1 g2 A2 n2 c2 S2 m2 d2 j2 B2 o2 e2 k2 s2 v2 y2 t2 t
  clear h h2 hs1 hs2 hA hB hS hg1 hg2 hc1 hc2 hv p3 p4 p5 p6
  go_enter Try.func6, Try.ntmps6
  go_wp2_with (first
    | (go_at_call 7; ((with_reducible refine (HG1.out _).mono ?_); rintro e w1 ⟨rfl, hb⟩; have b1 := (b0 _).step hb; clear hb b0; obtain ⟨xx1, xx1_0, xx1_1, xx1_2, xx1_3, xx1_4, xx1_5, xx1_6, xx1_7, xx1_8, xx1_9⟩ := b1.1.cells; obtain ⟨yy1, yy1_0, yy1_1, yy1_2, yy1_3, yy1_4, yy1_5, yy1_6, yy1_7, yy1_8, yy1_9⟩ := b1.2.cells))
    | (go_at_call 7; ((with_reducible refine (HG2.out _).mono ?_); rintro e w2 ⟨rfl, hb⟩; have b2 := b1.step hb; clear hb b1; obtain ⟨xx2, xx2_0, xx2_1, xx2_2, xx2_3, xx2_4, xx2_5, xx2_6, xx2_7, xx2_8, xx2_9⟩ := b2.1.cells; obtain ⟨yy2, yy2_0, yy2_1, yy2_2, yy2_3, yy2_4, yy2_5, yy2_6, yy2_7, yy2_8, yy2_9⟩ := b2.2.cells))
    | (go_at_call 12; ((with_reducible refine (HC1.out _ b2.bl).mono ?_); rintro e w3 ⟨rfl, hb⟩; have b3 := b2.step hb; clear hb b2; obtain ⟨xx3, xx3_0, xx3_1, xx3_2, xx3_3, xx3_4, xx3_5, xx3_6, xx3_7, xx3_8, xx3_9⟩ := b3.1.cells; obtain ⟨yy3, yy3_0, yy3_1, yy3_2, yy3_3, yy3_4, yy3_5, yy3_6, yy3_7, yy3_8, yy3_9⟩ := b3.2.cells))
    | (go_at_call 12; ((with_reducible refine (HC2.out _ b3.bl).mono ?_); rintro e w4 ⟨rfl, hb⟩; have b4 := b3.step hb; clear hb b3; obtain ⟨xx4, xx4_0, xx4_1, xx4_2, xx4_3, xx4_4, xx4_5, xx4_6, xx4_7, xx4_8, xx4_9⟩ := b4.1.cells; obtain ⟨yy4, yy4_0, yy4_1, yy4_2, yy4_3, yy4_4, yy4_5, yy4_6, yy4_7, yy4_8, yy4_9⟩ := b4.2.cells))
    | (go_at_call 9; ((with_reducible refine (HS1.out _ b4.bl).mono ?_); rintro e w5 ⟨rfl, hb⟩; have b5 := b4.step hb; clear hb b4; obtain ⟨xx5, xx5_0, xx5_1, xx5_2, xx5_3, xx5_4, xx5_5, xx5_6, xx5_7, xx5_8, xx5_9⟩ := b5.1.cells; obtain ⟨yy5, yy5_0, yy5_1, yy5_2, yy5_3, yy5_4, yy5_5, yy5_6, yy5_7, yy5_8, yy5_9⟩ := b5.2.cells))
    | (go_at_call 9; ((with_reducible refine (HS2.out _ b5.bl).mono ?_); rintro e w6 ⟨rfl, hb⟩; have b6 := b5.step hb; clear hb b5; obtain ⟨xx6, xx6_0, xx6_1, xx6_2, xx6_3, xx6_4, xx6_5, xx6_6, xx6_7, xx6_8, xx6_9⟩ := b6.1.cells; obtain ⟨yy6, yy6_0, yy6_1, yy6_2, yy6_3, yy6_4, yy6_5, yy6_6, yy6_7, yy6_8, yy6_9⟩ := b6.2.cells))
    | (go_at_call 8; ((with_reducible refine (HTW.out _ b6.bl).mono ?_); rintro e w7 ⟨aa, ca, b, cb, d, cd, rfl, r1, r2, r3, q1, q2, q3, hb⟩; have hz6 := b6.2.cells.1; have hr1 := (r1.lt aa rfl).2; have hr2 := (r2.lt b rfl).2; have b7' := b6.step hb; have hmv := Lib.hid (show MV w w7.heap.size g1 A1 n1 c1 S1 m1 d1 j1 B1 o1 e1 k1 s1 v1 y1 t1 g2 A2 n2 c2 S2 m2 d2 j2 B2 o2 e2 k2 s2 v2 y2 t2 aa ca b cb d cd L1 M1 l1 (w7.alloc (.cells #[.int .u8 g1, .slice (some ⟨aa, 0, none⟩) n1 ca, .slice (some ⟨d, 0, none⟩) m1 cd, .bool j1, .slice (some ⟨b, 0, none⟩) o1 cb, .int .u8 k1, .int .i64 s1, .int .i64 v1, .bool y1, .int .u8 t1] 27)) from ⟨b7'.step ((Below.refl _ _).alloc (Nat.le_refl _) _), QX.new b7'.bl _ _ _ _ _ _ _ _ _ _ _ _ _ _ _ _ _, (r1.mono (by omega)).alloc _, (r2.mono (by omega)).alloc _, (r3.mono (by omega)).alloc _, q1, q2, q3, by omega, by omega⟩); clear hb b6 b7' r1 r2 r3 q1 q2 q3)))
  go_loopw [12] (fun iv wr => ∃ k : Nat, iv = .int .i64 k ∧ k ≤ o1 ∧ Hid (MV w w7.heap.size g1 A1 n1 c1 S1 m1 d1 j1 B1 o1 e1 k1 s1 v1 y1 t1 g2 A2 n2 c2 S2 m2 d2 j2 B2 o2 e2 k2 s2 v2 y2 t2 aa ca b cb d cd L1 (mk M1 a k) l1 wr)) (fun iv _ => o1 - (intOf iv).toNat)
  case atStart => exact ⟨0, rfl, Nat.zero_le _, by rw [mk_zero]; exact hmv.out⟩
  case round =>
    obtain ⟨k, rfl, hk, HK1⟩ := hrel
    clear hmv
    obtain ⟨mm1, mm1_0, mm1_1, mm1_2, mm1_3, mm1_4, mm1_5, mm1_6, mm1_7, mm1_8, mm1_9⟩ := HK1.out.2.1.cells
    by_cases hlt : k < o1
    · obtain ⟨x, hx⟩ : ∃ x, M1[k]? = some x := ⟨_, List.getElem?_eq_getElem (by rw [HLn.out.2.1]; exact hlt)⟩
      have HX := Lib.hid hx
      clear hx
      obtain ⟨⟨u0, u1, u2, u3, u4, r0, r1, r2, r3, r4⟩, z0, z1, z2, z3, z4⟩ := own_five HK1.out.2.2.2.1 k hlt
      have j1 : (0 : Int) ≤ k := by omega
      have j2 : (k : Int) < o1 := by omega
      go_wp2
      go_roundw
      case rel => exact ⟨k + 1, by go_num, by omega, HK1.out.setB HX.out⟩
      case measure => simp [intOf]; omega
    · obtain rfl : o1 = k := by omega
      clear hlt
      go_wp2
      go_loopw [13] (fun iv wr' => ∃ q : Nat, iv = .int .i64 q ∧ q ≤ n1 ∧ Hid (MV w w7.heap.size g1 A1 n1 c1 S1 m1 d1 j1 B1 o1 e1 k1 s1 v1 y1 t1 g2 A2 n2 c2 S2 m2 d2 j2 B2 o2 e2 k2 s2 v2 y2 t2 aa ca b cb d cd (mk L1 a q) (mk M1 a o1) l1 wr')) (fun iv _ => n1 - (intOf iv).toNat)
      case atStart => exact ⟨0, rfl, Nat.zero_le _, by rw [mk_zero]; exact HK1.out⟩
      case round =>
        obtain ⟨q, rfl, hq, HK2⟩ := hrel
        clear HK1
        obtain ⟨mm2, mm2_0, mm2_1, mm2_2, mm2_3, mm2_4, mm2_5, mm2_6, mm2_7, mm2_8, mm2_9⟩ := HK2.out.2.1.cells
        by_cases hlt : q < n1
        · obtain ⟨x, hx⟩ : ∃ x, L1[q]? = some x := ⟨_, List.getElem?_eq_getElem (by rw [HLn.out.1]; exact hlt)⟩
          have HX := Lib.hid hx
          clear hx
          obtain ⟨⟨u0, u1, u2, u3, u4, r0, r1, r2, r3, r4⟩, z0, z1, z2, z3, z4⟩ := own_five HK2.out.2.2.1 q hlt
          have j1 : (0 : Int) ≤ q := by omega
          have j2 : (q : Int) < n1 := by omega
          go_wp2
          go_roundw
          case rel => exact ⟨q + 1, by go_num, by omega, HK2.out.setA HX.out⟩
          case measure => simp [intOf]; omega
        · obtain rfl : n1 = q := by omega
          clear hlt
          have hq2 := HK2.out.qx2
          have hqa : QA _ _ _ _ _ _ _ (L1.map (setp a)) (M1.map (setp a)) l1 := HK2.out.qa' HLn.out HP.out
          have hQA := Lib.hid hqa
          clear hqa
          obtain ⟨xp, xp0, xp1, xp2, xp3, xp4, xp5, xp6, xp7, xp8, xp9⟩ := hq2.1.cells
          obtain ⟨yp, yp0, yp1, yp2, yp3, yp4, yp5, yp6, yp7, yp8, yp9⟩ := hq2.2.cells
          have hBQ := Lib.hid hq2
          clear hq2
          go_wp2_with (go_at_call 9; ((with_reducible refine (HS3.out _ _ _ _ _ _ _ hBQ.out.bl hQA.out).mono ?_); rintro e w8 ⟨rfl, hb⟩; have b8 := hBQ.out.step hb; clear hb hBQ; obtain ⟨xx8, xx8_0, xx8_1, xx8_2, xx8_3, xx8_4, xx8_5, xx8_6, xx8_7, xx8_8, xx8_9⟩ := b8.1.cells; obtain ⟨yy8, yy8_0, yy8_1, yy8_2, yy8_3, yy8_4, yy8_5, yy8_6, yy8_7, yy8_8, yy8_9⟩ := b8.2.cells))
          have ne1 : w8.heap.size ≠ w.heap.size := by omega
          have ne2 : w8.heap.size + 1 ≠ w.heap.size := by omega
          have HB8 := Lib.hid b8
          have hz8 : w.heap.size + 1 < w8.heap.size := b8.2.cells.1
          clear b8
          go_region_held3 (fun w' => w'.cell? ⟨w.heap.size, 0, none⟩ = some (.int .u8 g1) ∧ w'.cell? ⟨w.heap.size, 1, none⟩ = some (.slice A1 n1 c1) ∧ w'.cell? ⟨w.heap.size, 2, none⟩ = some (.slice S1 m1 d1) ∧ w'.cell? ⟨w.heap.size, 3, none⟩ = some (.bool j1) ∧ w'.cell? ⟨w.heap.size, 4, none⟩ = some (.slice B1 o1 e1) ∧ w'.cell? ⟨w.heap.size, 5, none⟩ = some (.int .u8 k1) ∧ w'.cell? ⟨w.heap.size, 6, none⟩ = some (.int .i64 s1) ∧ w'.cell? ⟨w.heap.size, 7, none⟩ = some (.int .i64 v1) ∧ w'.cell? ⟨w.heap.size, 8, none⟩ = some (.bool y1) ∧ w'.cell? ⟨w.heap.size, 9, none⟩ = some (.int .u8 t1)) (go_keep) (fail)
          all_goals
            go_wp2_with (first
              | (go_at_call 9; ((refine (HS4.out _ (HB8.out.bl.step (by repeat (first | exact Below.refl _ _ | refine Below.alloc ?_ (by simp; try omega) _ | refine Below.setCell ?_ (by simp; try omega) _ | refine Below.drew ?_)))).mono ?_); rintro e w9 ⟨rfl, hb⟩; have b9 := QX2.step (QX2.step HB8.out (show Below w8.heap.size w8 _ from by repeat (first | exact Below.refl _ _ | refine Below.alloc ?_ (by simp; try omega) _ | refine Below.setCell ?_ (by simp; try omega) _ | refine Below.drew ?_))) hb; obtain ⟨hc, hf⟩ := bcell hb; have hz9 := hb.size; clear hb HS4; obtain ⟨xx9, xx9_0, xx9_1, xx9_2, xx9_3, xx9_4, xx9_5, xx9_6, xx9_7, xx9_8, xx9_9⟩ := b9.1.cells; obtain ⟨yy9, yy9_0, yy9_1, yy9_2, yy9_3, yy9_4, yy9_5, yy9_6, yy9_7, yy9_8, yy9_9⟩ := b9.2.cells))
              | (go_at_call 9; ((with_reducible refine (HS5.out _ b9.bl).mono ?_); rintro e w10 ⟨rfl, hb⟩; have b10 := b9.step hb; clear hb hc b9; obtain ⟨xx10, xx10_0, xx10_1, xx10_2, xx10_3, xx10_4, xx10_5, xx10_6, xx10_7, xx10_8, xx10_9⟩ := b10.1.cells; obtain ⟨yy10, yy10_0, yy10_1, yy10_2, yy10_3, yy10_4, yy10_5, yy10_6, yy10_7, yy10_8, yy10_9⟩ := b10.2.cells))
              | (go_at_call 13; ((with_reducible refine (HEQ.out _ b10.bl).mono ?_); rintro e w11 ⟨rfl, hb⟩; have b11 := b10.step hb; clear hb b10))
              | (go_at_call 15; refine (alive_any _).mono ?_; rintro e w12 ⟨rfl, hb⟩))
            go_ret
            first | exact ⟨rfl, (b11.step hb).bl⟩ | exact ⟨rfl, (b10.step hb).bl⟩
theorem ClausesSame_walk (g : Int) (A : Option Addr) (c : Nat) (L : List Nd) (S : Option Addr) (d : Nat) (l : List Int) (j : Bool) (B : Option Addr) (e : Nat) (M : List Nd) (k s v : Int) (y : Bool) (t : Int)
    (g' : Int) (A' : Option Addr) (c' : Nat) (L' : List Nd) (S' : Option Addr) (d' : Nat) (l' : List Int) (j' : Bool) (B' : Option Addr) (e' : Nat) (M' : List Nd) (k' s' v' : Int) (y' : Bool) (t' : Int) (a : Int) (w : World)
    (h : QO w A c L S d l B e M s v t) (h' : QO w A' c' L' S' d' l' B' e' M' s' v' t') (_ : (Lit.int .i64 a).wf = true) :
    Calls Try.prog 6 #[.agg #[.int .u8 g, .slice A L.length c, .slice S l.length d, .bool j, .slice B M.length e, .int .u8 k, .int .i64 s, .int .i64 v, .bool y, .int .u8 t], .agg #[.int .u8 g', .slice A' L'.length c', .slice S' l'.length d', .bool j', .slice B' M'.length e', .int .u8 k', .int .i64 s', .int .i64 v', .bool y', .int .u8 t'], .int .i64 a] w
      fun e w' => e = .returned (.bool true) ∧ Below w.heap.size w w' := by
  cases hg1 : greatQ L.length M.length l.length
  rotate_left
  · exact ls_g1 _ _ _ _ _ _ _ _ _ _ _ _ _ _ _ _ _ _ _ _ _ _ _ _ _ _ _ _ _ _ _ _ L M l L' M' l' a w h.1 h'.1 hg1
  cases hg2 : greatQ L'.length M'.length l'.length
  rotate_left
  · exact ls_g2 _ _ _ _ _ _ _ _ _ _ _ _ _ _ _ _ _ _ _ _ _ _ _ _ _ _ _ _ _ _ _ _ L M l L' M' l' a w h.1 h'.1 hg1 hg2
  by_cases hc1 : chkF ⟨g, L, l, j, M, k, s, v, y, t⟩ = 0
  rotate_left
  · exact ls_c1 _ _ _ _ _ _ _ _ _ _ _ _ _ _ _ _ _ _ _ _ _ _ _ _ _ _ _ _ _ _ _ _ L M l L' M' l' a w h.1 h'.1 hg1 hg2 _ rfl hc1
  by_cases hc2 : chkF ⟨g', L', l', j', M', k', s', v', y', t'⟩ = 0
  rotate_left
  · exact ls_c2 _ _ _ _ _ _ _ _ _ _ _ _ _ _ _ _ _ _ _ _ _ _ _ _ _ _ _ _ _ _ _ _ L M l L' M' l' a w h.1 h'.1 hg1 hg2 hc1 _ rfl hc2
  by_cases ha : a < 0
  · exact ls_a1 _ _ _ _ _ _ _ _ _ _ _ _ _ _ _ _ _ _ _ _ _ _ _ _ _ _ _ _ _ _ _ _ L M l L' M' l' a w h.1 h'.1 hg1 hg2 hc1 hc2 ha
  by_cases ha2 : 400 < a
  · exact ls_a2 _ _ _ _ _ _ _ _ _ _ _ _ _ _ _ _ _ _ _ _ _ _ _ _ _ _ _ _ _ _ _ _ L M l L' M' l' a w h.1 h'.1 hg1 hg2 hc1 hc2 (by omega) ha2
  cases hv : sameQ ⟨g, L, l, j, M, k, s, v, y, t⟩ ⟨g', L', l', j', M', k', s', v', y', t'⟩
  · exact ls_main_f _ _ _ _ _ _ _ _ _ _ _ _ _ _ _ _ _ _ _ _ _ _ _ _ _ _ _ _ _ _ _ _ L M l L' M' l' a w h.1 h'.1 h.2.2.2.2.1.2 h'.2.2.2.2.1.2 h.2.1 h.2.2.2.1 h.2.2.1 hg1 hg2 hc1 hc2 (by omega) (by omega) hv
  · exact ls_main_t _ _ _ _ _ _ _ _ _ _ _ _ _ _ _ _ _ _ _ _ _ _ _ _ _ _ _ _ _ _ _ _ L M l L' M' l' a w h.1 h'.1 h.2.2.2.2.1.2 h'.2.2.2.2.1.2 h.2.1 h.2.2.2.1 h.2.2.1 hg1 hg2 hc1 hc2 (by omega) (by omega) hv
end Go.Proofs.Ytaijhkfbfkdepaa.Q8
