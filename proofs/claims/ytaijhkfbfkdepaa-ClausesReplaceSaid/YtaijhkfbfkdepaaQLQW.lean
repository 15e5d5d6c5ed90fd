/- ClausesQueries: all inputs. -/
import Derived.Test.YtaijhkfbfkdepaaQLQ
import Derived.Test.YtaijhkfbfkdepaaQOpen
namespace Go.Proofs.Ytaijhkfbfkdepaa.Q8
open Go.ChangeShapes Go.WideShapes Go.ChangeAt Go.RowKit N4
set_option linter.unusedVariables false
set_option linter.unusedSimpArgs false
set_option maxRecDepth 100000

theorem lqw (g1 : Int) (A1 : Option Addr) (n1 c1 : Nat) (S1 : Option Addr) (m1 d1 : Nat) (j1 : Bool) (B1 : Option Addr) (o1 e1 : Nat) (k1 s1 v1 : Int) (y1 : Bool) (t1 : Int) (g2 : Int) (A2 : Option Addr) (n2 c2 : Nat) (S2 : Option Addr) (m2 d2 : Nat) (j2 : Bool) (B2 : Option Addr) (o2 e2 : Nat) (k2 s2 v2 : Int) (y2 : Bool) (t2 : Int) (L1 M1 : List Nd) (l1 : List Int) (L2 M2 : List Nd) (l2 : List Int) (w : World) (h : QA w A1 n1 S1 m1 B1 o1 L1 M1 l1) (h2 : QA w A2 n2 S2 m2 B2 o2 L2 M2 l2) (hs1 : s1 ≤ 9223372036854775807) (hs2 : s2 ≤ 9223372036854775807) (hA : SlOk A1 n1 c1) (hB : SlOk B1 o1 e1) (hS : SlOk S1 m1 d1) :
    Calls Try.prog 3 #[.agg #[.int .u8 g1, .slice A1 n1 c1, .slice S1 m1 d1, .bool j1, .slice B1 o1 e1, .int .u8 k1, .int .i64 s1, .int .i64 v1, .bool y1, .int .u8 t1], .agg #[.int .u8 g2, .slice A2 n2 c2, .slice S2 m2 d2, .bool j2, .slice B2 o2 e2, .int .u8 k2, .int .i64 s2, .int .i64 v2, .bool y2, .int .u8 t2]] w fun e w' => e = .returned (.bool true) ∧ Below w.heap.size w w' := by
  cases hg1 : greatQ n1 o1 m1
  rotate_left
  · exact lq_great g1 A1 n1 c1 S1 m1 d1 j1 B1 o1 e1 k1 s1 v1 y1 t1 g2 A2 n2 c2 S2 m2 d2 j2 B2 o2 e2 k2 s2 v2 y2 t2 w (.inl hg1)
  cases hg2 : greatQ n2 o2 m2
  rotate_left
  · exact lq_great g1 A1 n1 c1 S1 m1 d1 j1 B1 o1 e1 k1 s1 v1 y1 t1 g2 A2 n2 c2 S2 m2 d2 j2 B2 o2 e2 k2 s2 v2 y2 t2 w (.inr ⟨hg1, hg2⟩)
  obtain ⟨p1, p2, p3⟩ := great_false hg1
  obtain ⟨p4, p5, p6⟩ := great_false hg2
  by_cases hu : chkF ⟨g1, L1, l1, j1, M1, k1, s1, v1, y1, t1⟩ = 0 ∧ chkF ⟨g2, L2, l2, j2, M2, k2, s2, v2, y2, t2⟩ = 0
  · refine lq_main g1 A1 n1 c1 S1 m1 d1 j1 B1 o1 e1 k1 s1 v1 y1 t1 g2 A2 n2 c2 S2 m2 d2 j2 B2 o2 e2 k2 s2 v2 y2 t2 L1 M1 l1 L2 M2 l2 w h h2 hs1 hs2 hA hB hS hg1 hg2 (sameQ ⟨g1, L1, l1, j1, M1, k1, s1, v1, y1, t1⟩ ⟨g2, L2, l2, j2, M2, k2, s2, v2, y2, t2⟩) 0 ?_ ?_
    · rintro g3 A3 n3 c3 S3 m3 d3 j3 B3 o3 e3 k3 s3 v3 y3 t3 W hb ⟨rfl, rfl, rfl, rfl, rfl, rfl, rfl, rfl, rfl, rfl⟩ hq
      exact csame_ok g3 A3 n3 c3 S3 m3 d3 j3 B3 o3 e3 k3 s3 v3 y3 t3 g2 A2 n2 c2 S2 m2 d2 j2 B2 o2 e2 k2 s2 v2 y2 t2 L1 M1 l1 L2 M2 l2 W hq (h2.step hb) hs1 hs2 p1 p4 p2 p5 p3 p6 hu.1 hu.2 _ rfl
    · intro W hb
      exact rsame_ok g1 A1 n1 c1 S1 m1 d1 j1 B1 o1 e1 k1 s1 v1 y1 t1 g2 A2 n2 c2 S2 m2 d2 j2 B2 o2 e2 k2 s2 v2 y2 t2 L1 M1 l1 L2 M2 l2 W (h.step hb) (h2.step hb) p1 p4 p2 p5 p3 p6 hu.1 hu.2 _ rfl
  · by_cases hu1 : chkF ⟨g1, L1, l1, j1, M1, k1, s1, v1, y1, t1⟩ = 0
    · have hu2 : chkF ⟨g2, L2, l2, j2, M2, k2, s2, v2, y2, t2⟩ ≠ 0 := fun hh => hu ⟨hu1, hh⟩
      refine lq_main g1 A1 n1 c1 S1 m1 d1 j1 B1 o1 e1 k1 s1 v1 y1 t1 g2 A2 n2 c2 S2 m2 d2 j2 B2 o2 e2 k2 s2 v2 y2 t2 L1 M1 l1 L2 M2 l2 w h h2 hs1 hs2 hA hB hS hg1 hg2 false (chkF ⟨g2, L2, l2, j2, M2, k2, s2, v2, y2, t2⟩) ?_ ?_
      · rintro g3 A3 n3 c3 S3 m3 d3 j3 B3 o3 e3 k3 s3 v3 y3 t3 W hb ⟨rfl, rfl, rfl, rfl, rfl, rfl, rfl, rfl, rfl, rfl⟩ hq
        exact csame_bad g3 A3 n3 c3 S3 m3 d3 j3 B3 o3 e3 k3 s3 v3 y3 t3 g2 A2 n2 c2 S2 m2 d2 j2 B2 o2 e2 k2 s2 v2 y2 t2 L1 M1 l1 L2 M2 l2 W hq (h2.step hb) hs1 hs2 _ _ _ rfl rfl (by simp [firstE, hu1, hu2]) hu2
      · intro W hb
        exact rsame_b2 g1 A1 n1 c1 S1 m1 d1 j1 B1 o1 e1 k1 s1 v1 y1 t1 g2 A2 n2 c2 S2 m2 d2 j2 B2 o2 e2 k2 s2 v2 y2 t2 L1 M1 l1 L2 M2 l2 W (h.step hb) (h2.step hb) hu1 _ rfl hu2
    · refine lq_main g1 A1 n1 c1 S1 m1 d1 j1 B1 o1 e1 k1 s1 v1 y1 t1 g2 A2 n2 c2 S2 m2 d2 j2 B2 o2 e2 k2 s2 v2 y2 t2 L1 M1 l1 L2 M2 l2 w h h2 hs1 hs2 hA hB hS hg1 hg2 false (chkF ⟨g1, L1, l1, j1, M1, k1, s1, v1, y1, t1⟩) ?_ ?_
      · rintro g3 A3 n3 c3 S3 m3 d3 j3 B3 o3 e3 k3 s3 v3 y3 t3 W hb ⟨rfl, rfl, rfl, rfl, rfl, rfl, rfl, rfl, rfl, rfl⟩ hq
        exact csame_bad g3 A3 n3 c3 S3 m3 d3 j3 B3 o3 e3 k3 s3 v3 y3 t3 g2 A2 n2 c2 S2 m2 d2 j2 B2 o2 e2 k2 s2 v2 y2 t2 L1 M1 l1 L2 M2 l2 W hq (h2.step hb) hs1 hs2 _ _ _ rfl rfl (by simp [firstE, hu1]) hu1
      · intro W hb
        exact rsame_b1 g1 A1 n1 c1 S1 m1 d1 j1 B1 o1 e1 k1 s1 v1 y1 t1 g2 A2 n2 c2 S2 m2 d2 j2 B2 o2 e2 k2 s2 v2 y2 t2 L1 M1 l1 L2 M2 l2 W (h.step hb) _ rfl hu1
theorem ClausesQueries_walk (g : Int) (A : Option Addr) (c : Nat) (L : List Nd) (S : Option Addr) (d : Nat) (l : List Int) (j : Bool) (B : Option Addr) (e : Nat) (M : List Nd) (k s v : Int) (y : Bool) (t : Int)
    (g' : Int) (A' : Option Addr) (c' : Nat) (L' : List Nd) (S' : Option Addr) (d' : Nat) (l' : List Int) (j' : Bool) (B' : Option Addr) (e' : Nat) (M' : List Nd) (k' s' v' : Int) (y' : Bool) (t' : Int) (w : World)
    (h : QO w A c L S d l B e M s v t) (h' : QO w A' c' L' S' d' l' B' e' M' s' v' t') :
    Calls Try.prog 3 #[.agg #[.int .u8 g, .slice A L.length c, .slice S l.length d, .bool j, .slice B M.length e, .int .u8 k, .int .i64 s, .int .i64 v, .bool y, .int .u8 t], .agg #[.int .u8 g', .slice A' L'.length c', .slice S' l'.length d', .bool j', .slice B' M'.length e', .int .u8 k', .int .i64 s', .int .i64 v', .bool y', .int .u8 t']] w
      fun e w' => e = .returned (.bool true) ∧ Below w.heap.size w w' :=
  lqw g A L.length c S l.length d j B M.length e k s v y t g' A' L'.length c' S' l'.length d' j' B' M'.length e' k' s' v' y' t' L M l L' M' l' w h.1 h'.1 h.2.2.2.2.1.2 h'.2.2.2.2.1.2 h.2.1 h.2.2.2.1 h.2.2.1
end Go.Proofs.Ytaijhkfbfkdepaa.Q8
