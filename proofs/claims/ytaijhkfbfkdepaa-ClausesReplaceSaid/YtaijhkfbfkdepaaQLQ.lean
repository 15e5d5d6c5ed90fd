/- ClausesQueries walks to true. -/
import Derived.Test.YtaijhkfbfkdepaaQSame3
import Derived.Test.YtaijhkfbfkdepaaQTwin
namespace Go.Proofs.Ytaijhkfbfkdepaa.Q8
open Go.ChangeShapes Go.WideShapes Go.ChangeAt Go.RowKit N4
set_option linter.unusedVariables false
set_option linter.unusedSimpArgs false
set_option maxRecDepth 100000

theorem great_false {n o m : Nat} (h : greatQ n o m = false) : n ≤ 70 ∧ o ≤ 70 ∧ m ≤ 10 := by
  simp [greatQ] at h; omega
theorem sameQ_self (p : Qy) : sameQ p p = true := by simp [sameQ, alikeF]
theorem lies_own {W : World} {base : Nat} {e : TypeId} {size n a ca : Nat} {cs : List Value} (h : W.ownsRow base e size (.slice (some ⟨a, 0, none⟩) n ca) n cs) : Lies W (some ⟨a, 0, none⟩) cs := by
  refine Lies.of_own h (fun h0 => ?_)
  have := h.1
  rw [h0, Nat.zero_mul] at this
  exact List.eq_nil_of_length_eq_zero this
/-- The twin's own box, and its slices. -/
def QT (w : World) (b : Nat) (g1 : Int) (A1 : Option Addr) (n1 c1 : Nat) (S1 : Option Addr) (m1 d1 : Nat) (j1 : Bool) (B1 : Option Addr) (o1 e1 : Nat) (k1 s1 v1 : Int) (y1 : Bool) (t1 : Int) (L1 M1 : List Nd) (l1 : List Int) (W : World) : Prop := QX w b g1 A1 n1 c1 S1 m1 d1 j1 B1 o1 e1 k1 s1 v1 y1 t1 W ∧ QA W A1 n1 S1 m1 B1 o1 L1 M1 l1
theorem QT.step {w : World} {b : Nat} {g1 : Int} {A1 : Option Addr} {n1 c1 : Nat} {S1 : Option Addr} {m1 d1 : Nat} {j1 : Bool} {B1 : Option Addr} {o1 e1 : Nat} {k1 s1 v1 : Int} {y1 : Bool} {t1 : Int} {L1 M1 : List Nd} {l1 : List Int} {W W' : World} (h : QT w b g1 A1 n1 c1 S1 m1 d1 j1 B1 o1 e1 k1 s1 v1 y1 t1 L1 M1 l1 W) (hb : Below W.heap.size W W') : QT w b g1 A1 n1 c1 S1 m1 d1 j1 B1 o1 e1 k1 s1 v1 y1 t1 L1 M1 l1 W' := ⟨h.1.step hb, h.2.step hb⟩
theorem lq_great (g1 : Int) (A1 : Option Addr) (n1 c1 : Nat) (S1 : Option Addr) (m1 d1 : Nat) (j1 : Bool) (B1 : Option Addr) (o1 e1 : Nat) (k1 s1 v1 : Int) (y1 : Bool) (t1 : Int) (g2 : Int) (A2 : Option Addr) (n2 c2 : Nat) (S2 : Option Addr) (m2 d2 : Nat) (j2 : Bool) (B2 : Option Addr) (o2 e2 : Nat) (k2 s2 v2 : Int) (y2 : Bool) (t2 : Int) (w : World) (h : greatQ n1 o1 m1 = true ∨ greatQ n1 o1 m1 = false ∧ greatQ n2 o2 m2 = true) :
    Calls Try.prog 3 #[.agg #[.int .u8 g1, .slice A1 n1 c1, .slice S1 m1 d1, .bool j1, .slice B1 o1 e1, .int .u8 k1, .int .i64 s1, .int .i64 v1, .bool y1, .int .u8 t1], .agg #[.int .u8 g2, .slice A2 n2 c2, .slice S2 m2 d2, .bool j2, .slice B2 o2 e2, .int .u8 k2, .int .i64 s2, .int .i64 v2, .bool y2, .int .u8 t2]] w fun e w' => e = .returned (.bool true) ∧ Below w.heap.size w w' := by
  have b0 := fun t => QX2.new w g1 A1 n1 c1 S1 m1 d1 j1 B1 o1 e1 k1 s1 v1 y1 t1 g2 A2 n2 c2 S2 m2 d2 j2 B2 o2 e2 k2 s2 v2 y2 t2 t
  rcases h with h | ⟨h, h'⟩
  · have HA := Lib.hid (fun W => rgreat_any g1 A1 n1 c1 S1 m1 d1 j1 B1 o1 e1 k1 s1 v1 y1 t1 W true h)
    clear h
    go_enter Try.func3, Try.ntmps3
    go_wp2_with (go_at_call 7; ((with_reducible refine (HA.out _).mono ?_); rintro e w1 ⟨rfl, hb⟩; have b1 := (b0 _).step hb; clear hb b0))
    go_ret
    exact ⟨rfl, b1.bl⟩
  · have HA := Lib.hid (fun W => rgreat_any g1 A1 n1 c1 S1 m1 d1 j1 B1 o1 e1 k1 s1 v1 y1 t1 W false h)
    have HB := Lib.hid (fun W => rgreat_any g2 A2 n2 c2 S2 m2 d2 j2 B2 o2 e2 k2 s2 v2 y2 t2 W true h')
    clear h h'
    go_enter Try.func3, Try.ntmps3
    go_wp2_with (first
      | (go_at_call 7; ((with_reducible refine (HA.out _).mono ?_); rintro e w1 ⟨rfl, hb⟩; have b1 := (b0 _).step hb; clear hb b0 HA; obtain ⟨z, z0, z1, z2, z3, z4, z5, z6, z7, z8, z9⟩ := b1.2.cells))
      | (go_at_call 7; ((with_reducible refine (HB.out _).mono ?_); rintro e w2 ⟨rfl, hb⟩; have b2 := b1.step hb; clear hb b1)))
    go_ret
    exact ⟨rfl, b2.bl⟩
def SQ (w : World) (b : Nat) (g1 : Int) (A1 : Option Addr) (n1 c1 : Nat) (S1 : Option Addr) (m1 d1 : Nat) (j1 : Bool) (B1 : Option Addr) (o1 e1 : Nat) (k1 s1 v1 : Int) (y1 : Bool) (t1 : Int) (g2 : Int) (A2 : Option Addr) (n2 c2 : Nat) (S2 : Option Addr) (m2 d2 : Nat) (j2 : Bool) (B2 : Option Addr) (o2 e2 : Nat) (k2 s2 v2 : Int) (y2 : Bool) (t2 : Int) (g3 : Int) (A3 : Option Addr) (n3 c3 : Nat) (S3 : Option Addr) (m3 d3 : Nat) (j3 : Bool) (B3 : Option Addr) (o3 e3 : Nat) (k3 s3 v3 : Int) (y3 : Bool) (t3 : Int) (L1 M1 : List Nd) (l1 : List Int) (W : World) : Prop := QX2 w w.heap.size (w.heap.size + 1) g1 A1 n1 c1 S1 m1 d1 j1 B1 o1 e1 k1 s1 v1 y1 t1 g2 A2 n2 c2 S2 m2 d2 j2 B2 o2 e2 k2 s2 v2 y2 t2 W ∧ QT w b g3 A3 n3 c3 S3 m3 d3 j3 B3 o3 e3 k3 s3 v3 y3 t3 L1 M1 l1 W
theorem SQ.step {w : World} {b : Nat} {g1 : Int} {A1 : Option Addr} {n1 c1 : Nat} {S1 : Option Addr} {m1 d1 : Nat} {j1 : Bool} {B1 : Option Addr} {o1 e1 : Nat} {k1 s1 v1 : Int} {y1 : Bool} {t1 : Int} {g2 : Int} {A2 : Option Addr} {n2 c2 : Nat} {S2 : Option Addr} {m2 d2 : Nat} {j2 : Bool} {B2 : Option Addr} {o2 e2 : Nat} {k2 s2 v2 : Int} {y2 : Bool} {t2 : Int} {g3 : Int} {A3 : Option Addr} {n3 c3 : Nat} {S3 : Option Addr} {m3 d3 : Nat} {j3 : Bool} {B3 : Option Addr} {o3 e3 : Nat} {k3 s3 v3 : Int} {y3 : Bool} {t3 : Int} {L1 M1 : List Nd} {l1 : List Int} {W W' : World} (h : SQ w b g1 A1 n1 c1 S1 m1 d1 j1 B1 o1 e1 k1 s1 v1 y1 t1 g2 A2 n2 c2 S2 m2 d2 j2 B2 o2 e2 k2 s2 v2 y2 t2 g3 A3 n3 c3 S3 m3 d3 j3 B3 o3 e3 k3 s3 v3 y3 t3 L1 M1 l1 W) (hb : Below W.heap.size W W') : SQ w b g1 A1 n1 c1 S1 m1 d1 j1 B1 o1 e1 k1 s1 v1 y1 t1 g2 A2 n2 c2 S2 m2 d2 j2 B2 o2 e2 k2 s2 v2 y2 t2 g3 A3 n3 c3 S3 m3 d3 j3 B3 o3 e3 k3 s3 v3 y3 t3 L1 M1 l1 W' := ⟨h.1.step hb, h.2.step hb⟩
theorem SQ.bl {w : World} {b : Nat} {g1 : Int} {A1 : Option Addr} {n1 c1 : Nat} {S1 : Option Addr} {m1 d1 : Nat} {j1 : Bool} {B1 : Option Addr} {o1 e1 : Nat} {k1 s1 v1 : Int} {y1 : Bool} {t1 : Int} {g2 : Int} {A2 : Option Addr} {n2 c2 : Nat} {S2 : Option Addr} {m2 d2 : Nat} {j2 : Bool} {B2 : Option Addr} {o2 e2 : Nat} {k2 s2 v2 : Int} {y2 : Bool} {t2 : Int} {g3 : Int} {A3 : Option Addr} {n3 c3 : Nat} {S3 : Option Addr} {m3 d3 : Nat} {j3 : Bool} {B3 : Option Addr} {o3 e3 : Nat} {k3 s3 v3 : Int} {y3 : Bool} {t3 : Int} {L1 M1 : List Nd} {l1 : List Int} {W : World} (h : SQ w b g1 A1 n1 c1 S1 m1 d1 j1 B1 o1 e1 k1 s1 v1 y1 t1 g2 A2 n2 c2 S2 m2 d2 j2 B2 o2 e2 k2 s2 v2 y2 t2 g3 A3 n3 c3 S3 m3 d3 j3 B3 o3 e3 k3 s3 v3 y3 t3 L1 M1 l1 W) : Bl w W := h.1.1.1
theorem SQ.qa {w : World} {b : Nat} {g1 : Int} {A1 : Option Addr} {n1 c1 : Nat} {S1 : Option Addr} {m1 d1 : Nat} {j1 : Bool} {B1 : Option Addr} {o1 e1 : Nat} {k1 s1 v1 : Int} {y1 : Bool} {t1 : Int} {g2 : Int} {A2 : Option Addr} {n2 c2 : Nat} {S2 : Option Addr} {m2 d2 : Nat} {j2 : Bool} {B2 : Option Addr} {o2 e2 : Nat} {k2 s2 v2 : Int} {y2 : Bool} {t2 : Int} {g3 : Int} {A3 : Option Addr} {n3 c3 : Nat} {S3 : Option Addr} {m3 d3 : Nat} {j3 : Bool} {B3 : Option Addr} {o3 e3 : Nat} {k3 s3 v3 : Int} {y3 : Bool} {t3 : Int} {L1 M1 : List Nd} {l1 : List Int} {W : World} (h : SQ w b g1 A1 n1 c1 S1 m1 d1 j1 B1 o1 e1 k1 s1 v1 y1 t1 g2 A2 n2 c2 S2 m2 d2 j2 B2 o2 e2 k2 s2 v2 y2 t2 g3 A3 n3 c3 S3 m3 d3 j3 B3 o3 e3 k3 s3 v3 y3 t3 L1 M1 l1 W) : QA W A3 n3 S3 m3 B3 o3 L1 M1 l1 := h.2.2
set_option maxHeartbeats 4000000 in
theorem lq_main (g1 : Int) (A1 : Option Addr) (n1 c1 : Nat) (S1 : Option Addr) (m1 d1 : Nat) (j1 : Bool) (B1 : Option Addr) (o1 e1 : Nat) (k1 s1 v1 : Int) (y1 : Bool) (t1 : Int) (g2 : Int) (A2 : Option Addr) (n2 c2 : Nat) (S2 : Option Addr) (m2 d2 : Nat) (j2 : Bool) (B2 : Option Addr) (o2 e2 : Nat) (k2 s2 v2 : Int) (y2 : Bool) (t2 : Int) (L1 M1 : List Nd) (l1 : List Int) (L2 M2 : List Nd) (l2 : List Int) (w : World) (h : QA w A1 n1 S1 m1 B1 o1 L1 M1 l1) (h2 : QA w A2 n2 S2 m2 B2 o2 L2 M2 l2) (hs1 : s1 ≤ 9223372036854775807) (hs2 : s2 ≤ 9223372036854775807) (hA : SlOk A1 n1 c1) (hB : SlOk B1 o1 e1) (hS : SlOk S1 m1 d1) (hg1 : greatQ n1 o1 m1 = false) (hg2 : greatQ n2 o2 m2 = false)
    (rb : Bool) (re : Int) (HSM : ∀ (g3 : Int) (A3 : Option Addr) (n3 c3 : Nat) (S3 : Option Addr) (m3 d3 : Nat) (j3 : Bool) (B3 : Option Addr) (o3 e3 : Nat) (k3 s3 v3 : Int) (y3 : Bool) (t3 : Int) W, Bl w W → g3 = g1 ∧ n3 = n1 ∧ m3 = m1 ∧ j3 = j1 ∧ o3 = o1 ∧ k3 = k1 ∧ s3 = s1 ∧ v3 = v1 ∧ y3 = y1 ∧ t3 = t1 → QA W A3 n3 S3 m3 B3 o3 L1 M1 l1 → Calls Try.prog 9 #[.agg #[.int .u8 g3, .slice A3 n3 c3, .slice S3 m3 d3, .bool j3, .slice B3 o3 e3, .int .u8 k3, .int .i64 s3, .int .i64 v3, .bool y3, .int .u8 t3], .agg #[.int .u8 g2, .slice A2 n2 c2, .slice S2 m2 d2, .bool j2, .slice B2 o2 e2, .int .u8 k2, .int .i64 s2, .int .i64 v2, .bool y2, .int .u8 t2]] W fun e w' => e = .returned (.tuple #[.bool rb, .int .i64 re]) ∧ Below W.heap.size W w')
    (HRS : ∀ W, Bl w W → Calls Try.prog 10 #[.agg #[.int .u8 g1, .slice A1 n1 c1, .slice S1 m1 d1, .bool j1, .slice B1 o1 e1, .int .u8 k1, .int .i64 s1, .int .i64 v1, .bool y1, .int .u8 t1], .agg #[.int .u8 g2, .slice A2 n2 c2, .slice S2 m2 d2, .bool j2, .slice B2 o2 e2, .int .u8 k2, .int .i64 s2, .int .i64 v2, .bool y2, .int .u8 t2]] W fun e w' => e = .returned (.tuple #[.bool rb, .int .i64 re]) ∧ Below W.heap.size W w') :
    Calls Try.prog 3 #[.agg #[.int .u8 g1, .slice A1 n1 c1, .slice S1 m1 d1, .bool j1, .slice B1 o1 e1, .int .u8 k1, .int .i64 s1, .int .i64 v1, .bool y1, .int .u8 t1], .agg #[.int .u8 g2, .slice A2 n2 c2, .slice S2 m2 d2, .bool j2, .slice B2 o2 e2, .int .u8 k2, .int .i64 s2, .int .i64 v2, .bool y2, .int .u8 t2]] w fun e w' => e = .returned (.bool true) ∧ Below w.heap.size w w' := by
  obtain ⟨p1, p2, p3⟩ := great_false hg1
  obtain ⟨p4, p5, p6⟩ := great_false hg2
  have HG1 := Lib.hid (fun W => rgreat_any g1 A1 n1 c1 S1 m1 d1 j1 B1 o1 e1 k1 s1 v1 y1 t1 W false hg1)
  have HG2 := Lib.hid (fun W => rgreat_any g2 A2 n2 c2 S2 m2 d2 j2 B2 o2 e2 k2 s2 v2 y2 t2 W false hg2)
  have HTW := Lib.hid (fun W (hb : Bl w W) => twin_any g1 A1 n1 c1 S1 m1 d1 j1 B1 o1 e1 k1 s1 v1 y1 t1 L1 M1 l1 W (h.step hb) p1 p2 p3 hA hB hS)
  have HS1 := Lib.hid (fun a ca b cb d cd W (hb : Bl w W) (hq : QA W (some ⟨a, 0, none⟩) n1 (some ⟨d, 0, none⟩) m1 (some ⟨b, 0, none⟩) o1 L1 M1 l1) => HSM g1 (some ⟨a, 0, none⟩) n1 ca (some ⟨d, 0, none⟩) m1 cd j1 (some ⟨b, 0, none⟩) o1 cb k1 s1 v1 y1 t1 W hb ⟨rfl, rfl, rfl, rfl, rfl, rfl, rfl, rfl, rfl, rfl⟩ hq)
  have HS2 := Lib.hid HRS
  have HC1 := Lib.hid (fun a ca b cb d cd W (hq : QA W (some ⟨a, 0, none⟩) n1 (some ⟨d, 0, none⟩) m1 (some ⟨b, 0, none⟩) o1 L1 M1 l1) => chk_any g1 (some ⟨a, 0, none⟩) n1 ca (some ⟨d, 0, none⟩) m1 cd j1 (some ⟨b, 0, none⟩) o1 cb k1 s1 v1 y1 t1 L1 M1 l1 W hq hs1 _ rfl)
  have HC2 := Lib.hid (fun W (hb : Bl w W) => rchk_any g1 A1 n1 c1 S1 m1 d1 j1 B1 o1 e1 k1 s1 v1 y1 t1 L1 M1 l1 W (h.step hb) _ rfl)
  have HE := Lib.hid (fun a ca b cb d cd W (hb : Bl w W) (hq : QA W (some ⟨a, 0, none⟩) n1 (some ⟨d, 0, none⟩) m1 (some ⟨b, 0, none⟩) o1 L1 M1 l1) => reqq_any g1 (some ⟨a, 0, none⟩) n1 ca (some ⟨d, 0, none⟩) m1 cd j1 (some ⟨b, 0, none⟩) o1 cb k1 s1 v1 y1 t1 g1 A1 n1 c1 S1 m1 d1 j1 B1 o1 e1 k1 s1 v1 y1 t1 L1 M1 l1 L1 M1 l1 W hq (h.step hb) p1 p1 p2 p2 p3 p3 true (by rw [sameQ_self]; simp))
  have HL1 := Lib.hid h.1.2
  have HL2 := Lib.hid h.2.2.2
  have HL3 := Lib.hid h.2.1.2
  generalize chkF ⟨g1, L1, l1, j1, M1, k1, s1, v1, y1, t1⟩ = u at HC1 HC2
  have b0 := fun t => QX2.new w g1 A1 n1 c1 S1 m1 d1 j1 B1 o1 e1 k1 s1 v1 y1 t1 g2 A2 n2 c2 S2 m2 d2 j2 B2 o2 e2 k2 s2 v2 y2 t2 t
  clear h h2 hs1 hs2 hA hB hS hg1 hg2 HSM HRS p1 p2 p3 p4 p5 p6
  go_enter Try.func3, Try.ntmps3
  go_wp2_with (first
    | (go_at_call 7; ((with_reducible refine (HG1.out _).mono ?_); rintro e w1 ⟨rfl, hb⟩; have b1 := (b0 _).step hb; clear hb b0 HG1; obtain ⟨x1, x10, x11, x12, x13, x14, x15, x16, x17, x18, x19⟩ := b1.1.cells; obtain ⟨y1', y10, y11, y12, y13, y14, y15, y16, y17, y18, y19⟩ := b1.2.cells))
    | (go_at_call 7; ((with_reducible refine (HG2.out _).mono ?_); rintro e w2 ⟨rfl, hb⟩; have b2 := b1.step hb; clear hb b1 HG2; obtain ⟨x2, x20, x21, x22, x23, x24, x25, x26, x27, x28, x29⟩ := b2.1.cells))
    | (go_at_call 8; ((with_reducible refine (HTW.out _ b2.bl).mono ?_); rintro e w3 ⟨a, ca, b, cb, d, cd, rfl, r1, r2, r3, _, _, _, hb⟩; have b3' := b2.step hb; obtain ⟨xx, xx0, xx1, xx2, xx3, xx4, xx5, xx6, xx7, xx8, xx9⟩ := b3'.1.cells; obtain ⟨yy, yy0, yy1, yy2, yy3, yy4, yy5, yy6, yy7, yy8, yy9⟩ := b3'.2.cells; have bt := Lib.hid (show SQ w w3.heap.size g1 A1 n1 c1 S1 m1 d1 j1 B1 o1 e1 k1 s1 v1 y1 t1 g2 A2 n2 c2 S2 m2 d2 j2 B2 o2 e2 k2 s2 v2 y2 t2 g1 (some ⟨a, 0, none⟩) n1 ca (some ⟨d, 0, none⟩) m1 cd j1 (some ⟨b, 0, none⟩) o1 cb k1 s1 v1 y1 t1 L1 M1 l1 (w3.alloc (.cells #[.int .u8 g1, .slice (some ⟨a, 0, none⟩) n1 ca, .slice (some ⟨d, 0, none⟩) m1 cd, .bool j1, .slice (some ⟨b, 0, none⟩) o1 cb, .int .u8 k1, .int .i64 s1, .int .i64 v1, .bool y1, .int .u8 t1] 27)) from ⟨b3'.step ((Below.refl _ _).alloc (Nat.le_refl _) _), QX.new b3'.bl _ _ _ _ _ _ _ _ _ _ _ _ _ _ _ _ _, (show QA w3 (some ⟨a, 0, none⟩) n1 (some ⟨d, 0, none⟩) m1 (some ⟨b, 0, none⟩) o1 L1 M1 l1 from ⟨⟨lies_own r1, HL1.out⟩, ⟨lies_own r3, HL3.out⟩, ⟨lies_own r2, HL2.out⟩⟩).step ((Below.refl _ _).alloc (Nat.le_refl _) _)⟩); clear hb b2 b3' r1 r2 r3))
    | (go_at_call 9; ((with_reducible refine (HS1.out _ _ _ _ _ _ _ bt.out.bl bt.out.qa).mono ?_); rintro e w4 ⟨rfl, hb⟩; have b4 := bt.out.step hb; clear hb bt; obtain ⟨x4, x40, x41, x42, x43, x44, x45, x46, x47, x48, x49⟩ := b4.1.1.cells; obtain ⟨y4, y40, y41, y42, y43, y44, y45, y46, y47, y48, y49⟩ := b4.1.2.cells; obtain ⟨z4, z40, z41, z42, z43, z44, z45, z46, z47, z48, z49⟩ := b4.2.1.cells))
    | (go_at_call 10; ((with_reducible refine (HS2.out _ b4.bl).mono ?_); rintro e w5 ⟨rfl, hb⟩; have b5 := Lib.hid (b4.step hb); clear hb b4)))
  refine wp_region_pre (S := SQ w w3.heap.size g1 A1 n1 c1 S1 m1 d1 j1 B1 o1 e1 k1 s1 v1 y1 t1 g2 A2 n2 c2 S2 m2 d2 j2 B2 o2 e2 k2 s2 v2 y2 t2 g1 (some ⟨a, 0, none⟩) n1 ca (some ⟨d, 0, none⟩) m1 cd j1 (some ⟨b, 0, none⟩) o1 cb k1 s1 v1 y1 t1 L1 M1 l1) 0 (by kernel_rfl) (b5.out.step (bd_drewN _ 1)) ?_
  refine Pre.pure (i := 0) (d := 30) (v := ?v0) rfl rfl (by rfl) ?yy0 ?zz0
  case yy0 => (intro w' hSw; (try unfold SQ QT QX2 QX at hSw); go_split_ands; go_simp; try with_reducible rfl)
  try simp only [Act.put, List.setIfInBounds_toArray, List.set_cons_zero, List.set_cons_succ]
  refine Pre.call (i := 1) (d := 31) (v := .int .i64 u) (f := ?f1) (args := ?a1) rfl rfl (by rfl) ?yy1 ?cc1 ?zz1
  case yy1 => (intro w' hSw; (try unfold SQ QT QX2 QX at hSw); go_split_ands; go_simp; refine ⟨?_, ?_⟩ <;> with_reducible rfl)
  case cc1 => (intro w' hSw; exact (HC1.out _ _ _ _ _ _ _ hSw.qa).mono (fun e w2 hh => ⟨hh.1, hSw.step hh.2⟩))
  try simp only [Act.put, List.setIfInBounds_toArray, List.set_cons_zero, List.set_cons_succ]
  refine Pre.pure (i := 2) (d := 32) (v := ?v2) rfl rfl (by rfl) ?yy2 ?zz2
  case yy2 => (intro w' hSw; (try unfold SQ QT QX2 QX at hSw); go_split_ands; go_simp; try with_reducible rfl)
  try simp only [Act.put, List.setIfInBounds_toArray, List.set_cons_zero, List.set_cons_succ]
  refine Pre.call (i := 3) (d := 33) (v := .int .i64 u) (f := ?f3) (args := ?a3) rfl rfl (by rfl) ?yy3 ?cc3 ?zz3
  case yy3 => (intro w' hSw; (try unfold SQ QT QX2 QX at hSw); go_split_ands; go_simp; refine ⟨?_, ?_⟩ <;> with_reducible rfl)
  case cc3 => (intro w' hSw; exact (HC2.out _ hSw.bl).mono (fun e w2 hh => ⟨hh.1, hSw.step hh.2⟩))
  try simp only [Act.put, List.setIfInBounds_toArray, List.set_cons_zero, List.set_cons_succ]
  refine Pre.pure (i := 4) (d := 34) (v := ?v4) rfl rfl (by rfl) ?yy4 ?zz4
  case yy4 => (intro w' hSw; (try unfold SQ QT QX2 QX at hSw); go_split_ands; go_simp; try with_reducible rfl)
  try simp only [Act.put, List.setIfInBounds_toArray, List.set_cons_zero, List.set_cons_succ]
  refine Pre.pure (i := 5) (d := 35) (v := ?v5) rfl rfl (by rfl) ?yy5 ?zz5
  case yy5 => (intro w' hSw; (try unfold SQ QT QX2 QX at hSw); go_split_ands; go_simp; try with_reducible rfl)
  try simp only [Act.put, List.setIfInBounds_toArray, List.set_cons_zero, List.set_cons_succ]
  refine Pre.pure (i := 6) (d := 36) (v := ?v6) rfl rfl (by rfl) ?yy6 ?zz6
  case yy6 => (intro w' hSw; (try unfold SQ QT QX2 QX at hSw); go_split_ands; go_simp; try with_reducible rfl)
  try simp only [Act.put, List.setIfInBounds_toArray, List.set_cons_zero, List.set_cons_succ]
  refine Pre.pure (i := 7) (d := 37) (v := ?v7) rfl rfl (by rfl) ?yy7 ?zz7
  case yy7 => (intro w' hSw; (try unfold SQ QT QX2 QX at hSw); go_split_ands; go_simp; try with_reducible rfl)
  try simp only [Act.put, List.setIfInBounds_toArray, List.set_cons_zero, List.set_cons_succ]
  refine Pre.pure (i := 8) (d := 38) (v := ?v8) rfl rfl (by rfl) ?yy8 ?zz8
  case yy8 => (intro w' hSw; (try unfold SQ QT QX2 QX at hSw); go_split_ands; go_simp; try with_reducible rfl)
  try simp only [Act.put, List.setIfInBounds_toArray, List.set_cons_zero, List.set_cons_succ]
  refine Pre.pure (i := 9) (d := 39) (v := ?v9) rfl rfl (by rfl) ?yy9 ?zz9
  case yy9 => (intro w' hSw; (try unfold SQ QT QX2 QX at hSw); go_split_ands; go_simp; try with_reducible rfl)
  try simp only [Act.put, List.setIfInBounds_toArray, List.set_cons_zero, List.set_cons_succ]
  refine Pre.pure (i := 10) (d := 40) (v := ?v10) rfl rfl (by rfl) ?yy10 ?zz10
  case yy10 => (intro w' hSw; (try unfold SQ QT QX2 QX at hSw); go_split_ands; go_simp; try with_reducible rfl)
  try simp only [Act.put, List.setIfInBounds_toArray, List.set_cons_zero, List.set_cons_succ]
  refine Pre.pure (i := 11) (d := 41) (v := ?v11) rfl rfl (by rfl) ?yy11 ?zz11
  case yy11 => (intro w' hSw; (try unfold SQ QT QX2 QX at hSw); go_split_ands; go_simp; try with_reducible rfl)
  try simp only [Act.put, List.setIfInBounds_toArray, List.set_cons_zero, List.set_cons_succ]
  refine Pre.pure (i := 12) (d := 42) (v := ?v12) rfl rfl (by rfl) ?yy12 ?zz12
  case yy12 => (intro w' hSw; (try unfold SQ QT QX2 QX at hSw); go_split_ands; go_simp; try with_reducible rfl)
  try simp only [Act.put, List.setIfInBounds_toArray, List.set_cons_zero, List.set_cons_succ]
  refine Pre.pure (i := 13) (d := 43) (v := ?v13) rfl rfl (by rfl) ?yy13 ?zz13
  case yy13 => (intro w' hSw; (try unfold SQ QT QX2 QX at hSw); go_split_ands; go_simp; try with_reducible rfl)
  try simp only [Act.put, List.setIfInBounds_toArray, List.set_cons_zero, List.set_cons_succ]
  refine Pre.pure (i := 14) (d := 44) (v := ?v14) rfl rfl (by rfl) ?yy14 ?zz14
  case yy14 => (intro w' hSw; (try unfold SQ QT QX2 QX at hSw); go_split_ands; go_simp; try with_reducible rfl)
  try simp only [Act.put, List.setIfInBounds_toArray, List.set_cons_zero, List.set_cons_succ]
  refine Pre.pure (i := 15) (d := 45) (v := ?v15) rfl rfl (by rfl) ?yy15 ?zz15
  case yy15 => (intro w' hSw; (try unfold SQ QT QX2 QX at hSw); go_split_ands; go_simp; try with_reducible rfl)
  try simp only [Act.put, List.setIfInBounds_toArray, List.set_cons_zero, List.set_cons_succ]
  refine Pre.pure (i := 16) (d := 46) (v := ?v16) rfl rfl (by rfl) ?yy16 ?zz16
  case yy16 => (intro w' hSw; (try unfold SQ QT QX2 QX at hSw); go_split_ands; go_simp; try with_reducible rfl)
  try simp only [Act.put, List.setIfInBounds_toArray, List.set_cons_zero, List.set_cons_succ]
  refine Pre.pure (i := 17) (d := 47) (v := ?v17) rfl rfl (by rfl) ?yy17 ?zz17
  case yy17 => (intro w' hSw; (try unfold SQ QT QX2 QX at hSw); go_split_ands; go_simp; try with_reducible rfl)
  try simp only [Act.put, List.setIfInBounds_toArray, List.set_cons_zero, List.set_cons_succ]
  refine Pre.call (i := 18) (d := 48) (v := .bool true) (f := ?f18) (args := ?a18) rfl rfl (by rfl) ?yy18 ?cc18 ?zz18
  case yy18 => (intro w' hSw; (try unfold SQ QT QX2 QX at hSw); go_split_ands; go_simp; refine ⟨?_, ?_⟩ <;> with_reducible rfl)
  case cc18 => (intro w' hSw; exact (HE.out _ _ _ _ _ _ _ hSw.bl hSw.qa).mono (fun e w2 hh => ⟨hh.1, hSw.step hh.2⟩))
  try simp only [Act.put, List.setIfInBounds_toArray, List.set_cons_zero, List.set_cons_succ]
  refine Pre.pure (i := 19) (d := 49) (v := ?v19) rfl rfl (by rfl) ?yy19 ?zz19
  case yy19 => (intro w' hSw; (try unfold SQ QT QX2 QX at hSw); go_split_ands; go_simp; try with_reducible rfl)
  try simp only [Act.put, List.setIfInBounds_toArray, List.set_cons_zero, List.set_cons_succ]
  refine Pre.pure (i := 20) (d := 4) (v := ?v20) rfl rfl (by rfl) ?yy20 ?zz20
  case yy20 => (intro w' hSw; (try unfold SQ QT QX2 QX at hSw); go_split_ands; go_simp; try with_reducible rfl)
  try simp only [Act.put, List.setIfInBounds_toArray, List.set_cons_zero, List.set_cons_succ]
  refine Pre.done (by kernel_rfl) (by kernel_rfl) ?_
  intro W hS
  refine wpAnyH_done (by kernel_rfl) ?_ _
  go_wp2
  go_ret
  exact ⟨rfl, hS.1.bl⟩
end Go.Proofs.Ytaijhkfbfkdepaa.Q8
