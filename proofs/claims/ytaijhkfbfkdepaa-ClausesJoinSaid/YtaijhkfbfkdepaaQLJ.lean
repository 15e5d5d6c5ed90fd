/- ClausesJoin walks to true. -/
import Derived.Test.YtaijhkfbfkdepaaQSame3
import Derived.Test.YtaijhkfbfkdepaaQOpen
namespace Go.Proofs.Ytaijhkfbfkdepaa.Q8
open Go.ChangeShapes Go.WideShapes Go.ChangeAt Go.RowKit N4
set_option linter.unusedVariables false
set_option linter.unusedSimpArgs false
set_option maxRecDepth 100000

theorem great_false' {n o m : Nat} (h : greatQ n o m = false) : n ≤ 70 ∧ o ≤ 70 ∧ m ≤ 10 := by
  simp [greatQ] at h; omega
theorem join_a {g : Int} {L : List Nd} {l : List Int} {M : List Nd} {k s v : Int} {y : Bool} {t : Int} (h : chkF ⟨g, L, l, true, M, k, s, v, y, t⟩ = 0) : l.length = 2 ∧ k = 1 ∧ chkF ⟨g, L, l, false, M, k, s, v, y, t⟩ = 0 := by
  obtain ⟨h1, h2, h3, h4, h5, h6⟩ := (chk_zero _).1 h
  simp only at h1 h2 h3 h4 h5 h6
  obtain ⟨s1, s2, s3, s4, s5⟩ := srcF_zero.1 h4
  exact ⟨s3 rfl, by simpa using h6, (chk_zero _).2 ⟨h1, h2, h3, srcF_zero.2 ⟨s1, s2, fun hh => (by cases hh), s4, s5⟩, h5, fun hh => (by cases hh)⟩⟩
theorem join_b {g : Int} {L : List Nd} {l : List Int} {M : List Nd} {k s v : Int} {y : Bool} {t : Int} (h : chkF ⟨g, L, l, false, M, k, s, v, y, t⟩ = 0) (hl : l.length = 2) (hk : k = 1) : chkF ⟨g, L, l, true, M, k, s, v, y, t⟩ = 0 := by
  obtain ⟨h1, h2, h3, h4, h5, h6⟩ := (chk_zero _).1 h
  simp only at h1 h2 h3 h4 h5 h6
  obtain ⟨s1, s2, s3, s4, s5⟩ := srcF_zero.1 h4
  exact (chk_zero _).2 ⟨h1, h2, h3, srcF_zero.2 ⟨s1, s2, fun _ => hl, s4, s5⟩, h5, fun _ => hk⟩
theorem join_c {g : Int} {L : List Nd} {l : List Int} {M : List Nd} {k s v : Int} {y : Bool} {t : Int} (h : chkF ⟨g, L, l, false, M, k, s, v, y, t⟩ = 0) (hn : ¬ (l.length = 2 ∧ k = 1)) : chkF ⟨g, L, l, true, M, k, s, v, y, t⟩ = 8 := by
  obtain ⟨h1, h2, h3, h4, h5, h6⟩ := (chk_zero _).1 h
  simp only at h1 h2 h3 h4 h5 h6
  obtain ⟨s1, s2, s3, s4, s5⟩ := srcF_zero.1 h4
  unfold chkF chkL
  simp only [h1.1, h1.2, h2, h3, winE, h5, Bool.and_self]
  by_cases hl : l.length = 2
  · have hk : k ≠ 1 := fun hh => hn ⟨hl, hh⟩
    rw [srcF_zero.2 ⟨s1, s2, fun _ => hl, s4, s5⟩]
    simp [firstE, badE, hk]
  · have : srcF l true = 8 := by unfold srcF; rw [if_neg (by omega), if_neg s2, if_pos ⟨rfl, hl⟩]
    rw [this]
    simp [firstE, badE]
theorem lj_great (g1 : Int) (A1 : Option Addr) (n1 c1 : Nat) (S1 : Option Addr) (m1 d1 : Nat) (j1 : Bool) (B1 : Option Addr) (o1 e1 : Nat) (k1 s1 v1 : Int) (y1 : Bool) (t1 : Int) (w : World) (h : greatQ n1 o1 m1 = true) :
    Calls Try.prog 5 #[.agg #[.int .u8 g1, .slice A1 n1 c1, .slice S1 m1 d1, .bool j1, .slice B1 o1 e1, .int .u8 k1, .int .i64 s1, .int .i64 v1, .bool y1, .int .u8 t1]] w fun e w' => e = .returned (.bool true) ∧ Below w.heap.size w w' := by
  have b0 := fun t => QX.new (Bl.start w) g1 A1 n1 c1 S1 m1 d1 j1 B1 o1 e1 k1 s1 v1 y1 t1 t
  have HA := Lib.hid (fun W => rgreat_any g1 A1 n1 c1 S1 m1 d1 j1 B1 o1 e1 k1 s1 v1 y1 t1 W true h)
  clear h
  go_enter Try.func5, Try.ntmps5
  go_wp2_with (first
    | (go_at_call 7; ((with_reducible refine (HA.out _).mono ?_); rintro e w1 ⟨rfl, hb⟩; have b1 := (b0 _).step hb; clear hb b0))
    | (go_at_call 15; refine (alive_any _).mono ?_; rintro e w2 ⟨rfl, hb⟩; have b2 := b1.step hb; clear hb b1))
  go_ret
  exact ⟨rfl, b2.bl⟩
theorem lj_bad (g1 : Int) (A1 : Option Addr) (n1 c1 : Nat) (S1 : Option Addr) (m1 d1 : Nat) (j1 : Bool) (B1 : Option Addr) (o1 e1 : Nat) (k1 s1 v1 : Int) (y1 : Bool) (t1 : Int) (L1 M1 : List Nd) (l1 : List Int) (w : World) (h : QA w A1 n1 S1 m1 B1 o1 L1 M1 l1) (hg : greatQ n1 o1 m1 = false) (x : Int) (hx : chkF ⟨g1, L1, l1, j1, M1, k1, s1, v1, y1, t1⟩ = x) (h0 : x ≠ 0) :
    Calls Try.prog 5 #[.agg #[.int .u8 g1, .slice A1 n1 c1, .slice S1 m1 d1, .bool j1, .slice B1 o1 e1, .int .u8 k1, .int .i64 s1, .int .i64 v1, .bool y1, .int .u8 t1]] w fun e w' => e = .returned (.bool true) ∧ Below w.heap.size w w' := by
  have b0 := fun t => QX.new (Bl.start w) g1 A1 n1 c1 S1 m1 d1 j1 B1 o1 e1 k1 s1 v1 y1 t1 t
  have HA := Lib.hid (fun W => rgreat_any g1 A1 n1 c1 S1 m1 d1 j1 B1 o1 e1 k1 s1 v1 y1 t1 W false hg)
  have HC := Lib.hid (fun W (hb : Bl w W) => rchk_any g1 A1 n1 c1 S1 m1 d1 j1 B1 o1 e1 k1 s1 v1 y1 t1 L1 M1 l1 W (h.step hb) x hx)
  have i0 := errno_ne h0
  clear h hg hx h0
  go_enter Try.func5, Try.ntmps5
  go_wp2_with (first
    | (go_at_call 7; ((with_reducible refine (HA.out _).mono ?_); rintro e w1 ⟨rfl, hb⟩; have b1 := (b0 _).step hb; clear hb b0; obtain ⟨x1, x10, x11, x12, x13, x14, x15, x16, x17, x18, x19⟩ := b1.cells))
    | (go_at_call 12; ((with_reducible refine (HC.out _ b1.bl).mono ?_); rintro e w2 ⟨rfl, hb⟩; have b2 := b1.step hb; clear hb b1))
    | (go_at_call 15; refine (alive_any _).mono ?_; rintro e w3 ⟨rfl, hb⟩; have b3 := b2.step hb; clear hb b2))
  go_ret
  exact ⟨rfl, b3.bl⟩
set_option maxHeartbeats 2000000 in
theorem lj_t (g1 : Int) (A1 : Option Addr) (n1 c1 : Nat) (S1 : Option Addr) (m1 d1 : Nat) (B1 : Option Addr) (o1 e1 : Nat) (k1 s1 v1 : Int) (y1 : Bool) (t1 : Int) (L1 M1 : List Nd) (l1 : List Int) (w : World) (h : QA w A1 n1 S1 m1 B1 o1 L1 M1 l1) (hs1 : s1 ≤ 9223372036854775807) (hg : greatQ n1 o1 m1 = false) (hx : chkF ⟨g1, L1, l1, true, M1, k1, s1, v1, y1, t1⟩ = 0) (hl : m1 = 2) (hk : k1 = 1) (hx' : chkF ⟨g1, L1, l1, false, M1, k1, s1, v1, y1, t1⟩ = 0) :
    Calls Try.prog 5 #[.agg #[.int .u8 g1, .slice A1 n1 c1, .slice S1 m1 d1, .bool true, .slice B1 o1 e1, .int .u8 k1, .int .i64 s1, .int .i64 v1, .bool y1, .int .u8 t1]] w fun e w' => e = .returned (.bool true) ∧ Below w.heap.size w w' := by
  have b0 := fun t => QX.new (Bl.start w) g1 A1 n1 c1 S1 m1 d1 true B1 o1 e1 k1 s1 v1 y1 t1 t
  have HA := Lib.hid (fun W => rgreat_any g1 A1 n1 c1 S1 m1 d1 true B1 o1 e1 k1 s1 v1 y1 t1 W false hg)
  have HC := Lib.hid (fun W (hb : Bl w W) => rchk_any g1 A1 n1 c1 S1 m1 d1 true B1 o1 e1 k1 s1 v1 y1 t1 L1 M1 l1 W (h.step hb) 0 hx)
  have HO := Lib.hid (fun W (hb : Bl w W) => chk_any g1 A1 n1 c1 S1 m1 d1 false B1 o1 e1 k1 s1 v1 y1 t1 L1 M1 l1 W (h.step hb) hs1 0 hx')
  have i1 : ((m1 : Int) == 2) = true := (by simp [hl]); have i2 : (k1 == 1) = true := (by simp [hk])
  clear h hg hx hx' hl hk hs1
  go_enter Try.func5, Try.ntmps5
  go_wp2_with (first
    | (go_at_call 7; ((with_reducible refine (HA.out _).mono ?_); rintro e w1 ⟨rfl, hb⟩; have b1 := (b0 _).step hb; clear hb b0; obtain ⟨x1, x10, x11, x12, x13, x14, x15, x16, x17, x18, x19⟩ := b1.cells))
    | (go_at_call 12; ((with_reducible refine (HC.out _ b1.bl).mono ?_); rintro e w2 ⟨rfl, hb⟩; have b2 := b1.step hb; clear hb b1; obtain ⟨x2, x20, x21, x22, x23, x24, x25, x26, x27, x28, x29⟩ := b2.cells; have b3 := QX.new b2.bl g1 A1 n1 c1 S1 m1 d1 false B1 o1 e1 k1 s1 v1 y1 t1 27))
    | (go_at_call 11; ((with_reducible refine (HO.out _ b3.bl).mono ?_); rintro e w4 ⟨rfl, hb⟩; have b4 := b3.step hb; clear hb b3; obtain ⟨x4, x40, x41, x42, x43, x44, x45, x46, x47, x48, x49⟩ := b4.cells))
    | (go_at_call 11; ((with_reducible refine (HO.out _ b4.bl).mono ?_); rintro e w5 ⟨rfl, hb⟩; have b5 := b4.step hb; clear hb b4))
    | (go_at_call 15; refine (alive_any _).mono ?_; rintro e w6 ⟨rfl, hb⟩))
  go_ret
  first
    | exact ⟨rfl, (b5.step hb).bl⟩
    | exact ⟨rfl, (b4.step hb).bl⟩
set_option maxHeartbeats 2000000 in
theorem lj_f (g1 : Int) (A1 : Option Addr) (n1 c1 : Nat) (S1 : Option Addr) (m1 d1 : Nat) (B1 : Option Addr) (o1 e1 : Nat) (k1 s1 v1 : Int) (y1 : Bool) (t1 : Int) (L1 M1 : List Nd) (l1 : List Int) (w : World) (h : QA w A1 n1 S1 m1 B1 o1 L1 M1 l1) (hs1 : s1 ≤ 9223372036854775807) (hg : greatQ n1 o1 m1 = false) (hx : chkF ⟨g1, L1, l1, false, M1, k1, s1, v1, y1, t1⟩ = 0) (hl : m1 = 2) (hk : k1 = 1) (hx' : chkF ⟨g1, L1, l1, true, M1, k1, s1, v1, y1, t1⟩ = 0) :
    Calls Try.prog 5 #[.agg #[.int .u8 g1, .slice A1 n1 c1, .slice S1 m1 d1, .bool false, .slice B1 o1 e1, .int .u8 k1, .int .i64 s1, .int .i64 v1, .bool y1, .int .u8 t1]] w fun e w' => e = .returned (.bool true) ∧ Below w.heap.size w w' := by
  have b0 := fun t => QX.new (Bl.start w) g1 A1 n1 c1 S1 m1 d1 false B1 o1 e1 k1 s1 v1 y1 t1 t
  have HA := Lib.hid (fun W => rgreat_any g1 A1 n1 c1 S1 m1 d1 false B1 o1 e1 k1 s1 v1 y1 t1 W false hg)
  have HC := Lib.hid (fun W (hb : Bl w W) => rchk_any g1 A1 n1 c1 S1 m1 d1 false B1 o1 e1 k1 s1 v1 y1 t1 L1 M1 l1 W (h.step hb) 0 hx)
  have HO := Lib.hid (fun W (hb : Bl w W) => chk_any g1 A1 n1 c1 S1 m1 d1 true B1 o1 e1 k1 s1 v1 y1 t1 L1 M1 l1 W (h.step hb) hs1 0 hx')
  have i1 : ((m1 : Int) == 2) = true := (by simp [hl]); have i2 : (k1 == 1) = true := (by simp [hk])
  clear h hg hx hx' hl hk hs1
  go_enter Try.func5, Try.ntmps5
  go_wp2_with (first
    | (go_at_call 7; ((with_reducible refine (HA.out _).mono ?_); rintro e w1 ⟨rfl, hb⟩; have b1 := (b0 _).step hb; clear hb b0; obtain ⟨x1, x10, x11, x12, x13, x14, x15, x16, x17, x18, x19⟩ := b1.cells))
    | (go_at_call 12; ((with_reducible refine (HC.out _ b1.bl).mono ?_); rintro e w2 ⟨rfl, hb⟩; have b2 := b1.step hb; clear hb b1; obtain ⟨x2, x20, x21, x22, x23, x24, x25, x26, x27, x28, x29⟩ := b2.cells; have b3 := QX.new b2.bl g1 A1 n1 c1 S1 m1 d1 true B1 o1 e1 k1 s1 v1 y1 t1 27))
    | (go_at_call 11; ((with_reducible refine (HO.out _ b3.bl).mono ?_); rintro e w4 ⟨rfl, hb⟩; have b4 := b3.step hb; clear hb b3; obtain ⟨x4, x40, x41, x42, x43, x44, x45, x46, x47, x48, x49⟩ := b4.cells))
    | (go_at_call 11; ((with_reducible refine (HO.out _ b4.bl).mono ?_); rintro e w5 ⟨rfl, hb⟩; have b5 := b4.step hb; clear hb b4))
    | (go_at_call 15; refine (alive_any _).mono ?_; rintro e w6 ⟨rfl, hb⟩))
  go_ret
  first
    | exact ⟨rfl, (b5.step hb).bl⟩
    | exact ⟨rfl, (b4.step hb).bl⟩
set_option maxHeartbeats 2000000 in
theorem lj_g (g1 : Int) (A1 : Option Addr) (n1 c1 : Nat) (S1 : Option Addr) (m1 d1 : Nat) (B1 : Option Addr) (o1 e1 : Nat) (k1 s1 v1 : Int) (y1 : Bool) (t1 : Int) (L1 M1 : List Nd) (l1 : List Int) (w : World) (h : QA w A1 n1 S1 m1 B1 o1 L1 M1 l1) (hs1 : s1 ≤ 9223372036854775807) (hg : greatQ n1 o1 m1 = false) (hx : chkF ⟨g1, L1, l1, false, M1, k1, s1, v1, y1, t1⟩ = 0) (hl : m1 ≠ 2) (hk : True) (hx' : chkF ⟨g1, L1, l1, true, M1, k1, s1, v1, y1, t1⟩ = 8) :
    Calls Try.prog 5 #[.agg #[.int .u8 g1, .slice A1 n1 c1, .slice S1 m1 d1, .bool false, .slice B1 o1 e1, .int .u8 k1, .int .i64 s1, .int .i64 v1, .bool y1, .int .u8 t1]] w fun e w' => e = .returned (.bool true) ∧ Below w.heap.size w w' := by
  have b0 := fun t => QX.new (Bl.start w) g1 A1 n1 c1 S1 m1 d1 false B1 o1 e1 k1 s1 v1 y1 t1 t
  have HA := Lib.hid (fun W => rgreat_any g1 A1 n1 c1 S1 m1 d1 false B1 o1 e1 k1 s1 v1 y1 t1 W false hg)
  have HC := Lib.hid (fun W (hb : Bl w W) => rchk_any g1 A1 n1 c1 S1 m1 d1 false B1 o1 e1 k1 s1 v1 y1 t1 L1 M1 l1 W (h.step hb) 0 hx)
  have HO := Lib.hid (fun W (hb : Bl w W) => chk_any g1 A1 n1 c1 S1 m1 d1 true B1 o1 e1 k1 s1 v1 y1 t1 L1 M1 l1 W (h.step hb) hs1 8 hx')
  have i1 : ((m1 : Int) == 2) = false := (by simp; omega)
  clear h hg hx hx' hl hk hs1
  go_enter Try.func5, Try.ntmps5
  go_wp2_with (first
    | (go_at_call 7; ((with_reducible refine (HA.out _).mono ?_); rintro e w1 ⟨rfl, hb⟩; have b1 := (b0 _).step hb; clear hb b0; obtain ⟨x1, x10, x11, x12, x13, x14, x15, x16, x17, x18, x19⟩ := b1.cells))
    | (go_at_call 12; ((with_reducible refine (HC.out _ b1.bl).mono ?_); rintro e w2 ⟨rfl, hb⟩; have b2 := b1.step hb; clear hb b1; obtain ⟨x2, x20, x21, x22, x23, x24, x25, x26, x27, x28, x29⟩ := b2.cells; have b3 := QX.new b2.bl g1 A1 n1 c1 S1 m1 d1 true B1 o1 e1 k1 s1 v1 y1 t1 27))
    | (go_at_call 11; ((with_reducible refine (HO.out _ b3.bl).mono ?_); rintro e w4 ⟨rfl, hb⟩; have b4 := b3.step hb; clear hb b3; obtain ⟨x4, x40, x41, x42, x43, x44, x45, x46, x47, x48, x49⟩ := b4.cells))
    | (go_at_call 11; ((with_reducible refine (HO.out _ b4.bl).mono ?_); rintro e w5 ⟨rfl, hb⟩; have b5 := b4.step hb; clear hb b4))
    | (go_at_call 15; refine (alive_any _).mono ?_; rintro e w6 ⟨rfl, hb⟩))
  go_ret
  first
    | exact ⟨rfl, (b5.step hb).bl⟩
    | exact ⟨rfl, (b4.step hb).bl⟩
set_option maxHeartbeats 2000000 in
theorem lj_h (g1 : Int) (A1 : Option Addr) (n1 c1 : Nat) (S1 : Option Addr) (m1 d1 : Nat) (B1 : Option Addr) (o1 e1 : Nat) (k1 s1 v1 : Int) (y1 : Bool) (t1 : Int) (L1 M1 : List Nd) (l1 : List Int) (w : World) (h : QA w A1 n1 S1 m1 B1 o1 L1 M1 l1) (hs1 : s1 ≤ 9223372036854775807) (hg : greatQ n1 o1 m1 = false) (hx : chkF ⟨g1, L1, l1, false, M1, k1, s1, v1, y1, t1⟩ = 0) (hl : m1 = 2) (hk : k1 ≠ 1) (hx' : chkF ⟨g1, L1, l1, true, M1, k1, s1, v1, y1, t1⟩ = 8) :
    Calls Try.prog 5 #[.agg #[.int .u8 g1, .slice A1 n1 c1, .slice S1 m1 d1, .bool false, .slice B1 o1 e1, .int .u8 k1, .int .i64 s1, .int .i64 v1, .bool y1, .int .u8 t1]] w fun e w' => e = .returned (.bool true) ∧ Below w.heap.size w w' := by
  have b0 := fun t => QX.new (Bl.start w) g1 A1 n1 c1 S1 m1 d1 false B1 o1 e1 k1 s1 v1 y1 t1 t
  have HA := Lib.hid (fun W => rgreat_any g1 A1 n1 c1 S1 m1 d1 false B1 o1 e1 k1 s1 v1 y1 t1 W false hg)
  have HC := Lib.hid (fun W (hb : Bl w W) => rchk_any g1 A1 n1 c1 S1 m1 d1 false B1 o1 e1 k1 s1 v1 y1 t1 L1 M1 l1 W (h.step hb) 0 hx)
  have HO := Lib.hid (fun W (hb : Bl w W) => chk_any g1 A1 n1 c1 S1 m1 d1 true B1 o1 e1 k1 s1 v1 y1 t1 L1 M1 l1 W (h.step hb) hs1 8 hx')
  have i1 : ((m1 : Int) == 2) = true := (by simp [hl]); have i2 : (k1 == 1) = false := (by simp [hk])
  clear h hg hx hx' hl hk hs1
  go_enter Try.func5, Try.ntmps5
  go_wp2_with (first
    | (go_at_call 7; ((with_reducible refine (HA.out _).mono ?_); rintro e w1 ⟨rfl, hb⟩; have b1 := (b0 _).step hb; clear hb b0; obtain ⟨x1, x10, x11, x12, x13, x14, x15, x16, x17, x18, x19⟩ := b1.cells))
    | (go_at_call 12; ((with_reducible refine (HC.out _ b1.bl).mono ?_); rintro e w2 ⟨rfl, hb⟩; have b2 := b1.step hb; clear hb b1; obtain ⟨x2, x20, x21, x22, x23, x24, x25, x26, x27, x28, x29⟩ := b2.cells; have b3 := QX.new b2.bl g1 A1 n1 c1 S1 m1 d1 true B1 o1 e1 k1 s1 v1 y1 t1 27))
    | (go_at_call 11; ((with_reducible refine (HO.out _ b3.bl).mono ?_); rintro e w4 ⟨rfl, hb⟩; have b4 := b3.step hb; clear hb b3; obtain ⟨x4, x40, x41, x42, x43, x44, x45, x46, x47, x48, x49⟩ := b4.cells))
    | (go_at_call 11; ((with_reducible refine (HO.out _ b4.bl).mono ?_); rintro e w5 ⟨rfl, hb⟩; have b5 := b4.step hb; clear hb b4))
    | (go_at_call 15; refine (alive_any _).mono ?_; rintro e w6 ⟨rfl, hb⟩))
  go_ret
  first
    | exact ⟨rfl, (b5.step hb).bl⟩
    | exact ⟨rfl, (b4.step hb).bl⟩
theorem ClausesJoin_walk (g : Int) (A : Option Addr) (c : Nat) (L : List Nd) (S : Option Addr) (d : Nat) (l : List Int) (j : Bool) (B : Option Addr) (e : Nat) (M : List Nd) (k s v : Int) (y : Bool) (t : Int) (w : World) (h : QO w A c L S d l B e M s v t) :
    Calls Try.prog 5 #[.agg #[.int .u8 g, .slice A L.length c, .slice S l.length d, .bool j, .slice B M.length e, .int .u8 k, .int .i64 s, .int .i64 v, .bool y, .int .u8 t]] w fun e w' => e = .returned (.bool true) ∧ Below w.heap.size w w' := by
  have hs := h.2.2.2.2.1.2
  have hq := h.1
  cases hg : greatQ L.length M.length l.length
  rotate_left
  · exact lj_great _ _ _ _ _ _ _ _ _ _ _ _ _ _ _ _ w hg
  by_cases hx : chkF ⟨g, L, l, j, M, k, s, v, y, t⟩ = 0
  rotate_left
  · exact lj_bad _ _ _ _ _ _ _ _ _ _ _ _ _ _ _ _ L M l w hq hg _ rfl hx
  cases j
  · by_cases hl : l.length = 2
    · by_cases hk : k = 1
      · exact lj_f _ _ _ _ _ _ _ _ _ _ _ _ _ _ _ L M l w hq hs hg hx hl hk (join_b hx hl hk)
      · exact lj_h _ _ _ _ _ _ _ _ _ _ _ _ _ _ _ L M l w hq hs hg hx hl hk (join_c hx (fun hh => hk hh.2))
    · exact lj_g _ _ _ _ _ _ _ _ _ _ _ _ _ _ _ L M l w hq hs hg hx hl trivial (join_c hx (fun hh => hl hh.1))
  · obtain ⟨h1, h2, h3⟩ := join_a hx
    exact lj_t _ _ _ _ _ _ _ _ _ _ _ _ _ _ _ L M l w hq hs hg hx h1 h2 h3
end Go.Proofs.Ytaijhkfbfkdepaa.Q8
