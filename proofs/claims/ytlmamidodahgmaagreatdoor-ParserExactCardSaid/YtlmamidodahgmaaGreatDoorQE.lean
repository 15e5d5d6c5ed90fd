/- Merged: QRef. -/
import Derived.Test.YtlmamidodahgmaaGreatDoorQB
import Derived.Test.YtlmamidodahgmaaGreatDoorQA
import Derived.Test.YtlmamidodahgmaaGreatDoorNC
/- QRef: The reference's Check of a query. -/
namespace Go.Proofs.YtlmamidodahgmaaGreatDoor.Q8
open Go.ChangeShapes Go.WideShapes Go.ChangeAt Go.RowKit N4
set_option linter.unusedVariables false
set_option linter.unusedSimpArgs false
set_option maxRecDepth 100000

set_option maxHeartbeats 2000000 in
theorem rchk_a1 (g1 : Int) (A1 : Option Addr) (n1 c1 : Nat) (S1 : Option Addr) (m1 d1 : Nat) (j1 : Bool) (B1 : Option Addr) (o1 e1 : Nat) (k1 s1 v1 : Int) (y1 : Bool) (t1 : Int) (L1 M1 : List Nd) (l1 : List Int) (w : World) (h : QA w A1 n1 S1 m1 B1 o1 L1 M1 l1) (a1 : g1 < 1) (x : Int) (hx : firstE [badE (inB g1 1 4 && inB t1 1 2), argE g1 L1, whrE M1, srcF l1 j1, winE k1 s1 v1, badE (!j1 || decide (k1 = 1))] = x) :
    Calls Tryz.prog 6 #[.agg #[.int .u8 g1, .slice A1 n1 c1, .slice S1 m1 d1, .bool j1, .slice B1 o1 e1, .int .u8 k1, .int .i64 s1, .int .i64 v1, .bool y1, .int .u8 t1]] w fun e w' => e = .returned (.int .i64 x) ∧ Below w.heap.size w w' := by
  have HF := Lib.hid (show (8 : Int) = x by rw [← hx]; simp [firstE, badE, inB, show ¬ (1 ≤ g1) by omega])
  have b0 := fun t => QX.new (Bl.start w) g1 A1 n1 c1 S1 m1 d1 j1 B1 o1 e1 k1 s1 v1 y1 t1 t
  clear hx h
  go_enter Tryz.func6, Tryz.ntmps6
  go_wp2
  go_ret
  exact ⟨ret_int' HF.out, (b0 _).bl⟩
set_option maxHeartbeats 2000000 in
theorem rchk_a2 (g1 : Int) (A1 : Option Addr) (n1 c1 : Nat) (S1 : Option Addr) (m1 d1 : Nat) (j1 : Bool) (B1 : Option Addr) (o1 e1 : Nat) (k1 s1 v1 : Int) (y1 : Bool) (t1 : Int) (L1 M1 : List Nd) (l1 : List Int) (w : World) (h : QA w A1 n1 S1 m1 B1 o1 L1 M1 l1) (a1 : 1 ≤ g1) (a2 : 4 < g1) (x : Int) (hx : firstE [badE (inB g1 1 4 && inB t1 1 2), argE g1 L1, whrE M1, srcF l1 j1, winE k1 s1 v1, badE (!j1 || decide (k1 = 1))] = x) :
    Calls Tryz.prog 6 #[.agg #[.int .u8 g1, .slice A1 n1 c1, .slice S1 m1 d1, .bool j1, .slice B1 o1 e1, .int .u8 k1, .int .i64 s1, .int .i64 v1, .bool y1, .int .u8 t1]] w fun e w' => e = .returned (.int .i64 x) ∧ Below w.heap.size w w' := by
  have HF := Lib.hid (show (8 : Int) = x by rw [← hx]; simp [firstE, badE, inB, show ¬ (g1 ≤ 4) by omega])
  have b0 := fun t => QX.new (Bl.start w) g1 A1 n1 c1 S1 m1 d1 j1 B1 o1 e1 k1 s1 v1 y1 t1 t
  clear hx h
  go_enter Tryz.func6, Tryz.ntmps6
  go_wp2
  go_ret
  exact ⟨ret_int' HF.out, (b0 _).bl⟩
set_option maxHeartbeats 2000000 in
theorem rchk_a3 (g1 : Int) (A1 : Option Addr) (n1 c1 : Nat) (S1 : Option Addr) (m1 d1 : Nat) (j1 : Bool) (B1 : Option Addr) (o1 e1 : Nat) (k1 s1 v1 : Int) (y1 : Bool) (t1 : Int) (L1 M1 : List Nd) (l1 : List Int) (w : World) (h : QA w A1 n1 S1 m1 B1 o1 L1 M1 l1) (a1 : 1 ≤ g1) (a2 : g1 ≤ 4) (a3 : t1 < 1) (x : Int) (hx : firstE [badE (inB g1 1 4 && inB t1 1 2), argE g1 L1, whrE M1, srcF l1 j1, winE k1 s1 v1, badE (!j1 || decide (k1 = 1))] = x) :
    Calls Tryz.prog 6 #[.agg #[.int .u8 g1, .slice A1 n1 c1, .slice S1 m1 d1, .bool j1, .slice B1 o1 e1, .int .u8 k1, .int .i64 s1, .int .i64 v1, .bool y1, .int .u8 t1]] w fun e w' => e = .returned (.int .i64 x) ∧ Below w.heap.size w w' := by
  have HF := Lib.hid (show (8 : Int) = x by rw [← hx]; simp [firstE, badE, inB, show ¬ (1 ≤ t1) by omega])
  have b0 := fun t => QX.new (Bl.start w) g1 A1 n1 c1 S1 m1 d1 j1 B1 o1 e1 k1 s1 v1 y1 t1 t
  clear hx h
  go_enter Tryz.func6, Tryz.ntmps6
  go_wp2
  go_ret
  exact ⟨ret_int' HF.out, (b0 _).bl⟩
set_option maxHeartbeats 2000000 in
theorem rchk_a4 (g1 : Int) (A1 : Option Addr) (n1 c1 : Nat) (S1 : Option Addr) (m1 d1 : Nat) (j1 : Bool) (B1 : Option Addr) (o1 e1 : Nat) (k1 s1 v1 : Int) (y1 : Bool) (t1 : Int) (L1 M1 : List Nd) (l1 : List Int) (w : World) (h : QA w A1 n1 S1 m1 B1 o1 L1 M1 l1) (a1 : 1 ≤ g1) (a2 : g1 ≤ 4) (a3 : 1 ≤ t1) (a4 : 2 < t1) (x : Int) (hx : firstE [badE (inB g1 1 4 && inB t1 1 2), argE g1 L1, whrE M1, srcF l1 j1, winE k1 s1 v1, badE (!j1 || decide (k1 = 1))] = x) :
    Calls Tryz.prog 6 #[.agg #[.int .u8 g1, .slice A1 n1 c1, .slice S1 m1 d1, .bool j1, .slice B1 o1 e1, .int .u8 k1, .int .i64 s1, .int .i64 v1, .bool y1, .int .u8 t1]] w fun e w' => e = .returned (.int .i64 x) ∧ Below w.heap.size w w' := by
  have HF := Lib.hid (show (8 : Int) = x by rw [← hx]; simp [firstE, badE, inB, show ¬ (t1 ≤ 2) by omega])
  have b0 := fun t => QX.new (Bl.start w) g1 A1 n1 c1 S1 m1 d1 j1 B1 o1 e1 k1 s1 v1 y1 t1 t
  clear hx h
  go_enter Tryz.func6, Tryz.ntmps6
  go_wp2
  go_ret
  exact ⟨ret_int' HF.out, (b0 _).bl⟩
set_option maxHeartbeats 2000000 in
theorem rchk_b1 (g1 : Int) (A1 : Option Addr) (n1 c1 : Nat) (S1 : Option Addr) (m1 d1 : Nat) (j1 : Bool) (B1 : Option Addr) (o1 e1 : Nat) (k1 s1 v1 : Int) (y1 : Bool) (t1 : Int) (L1 M1 : List Nd) (l1 : List Int) (w : World) (h : QA w A1 n1 S1 m1 B1 o1 L1 M1 l1) (a1 : 1 ≤ g1) (a2 : g1 ≤ 4) (a3 : 1 ≤ t1) (a4 : t1 ≤ 2) (hg : g1 = 1) (hn : n1 ≠ 0) (x : Int) (hx : firstE [badE (inB g1 1 4 && inB t1 1 2), argE g1 L1, whrE M1, srcF l1 j1, winE k1 s1 v1, badE (!j1 || decide (k1 = 1))] = x) :
    Calls Tryz.prog 6 #[.agg #[.int .u8 g1, .slice A1 n1 c1, .slice S1 m1 d1, .bool j1, .slice B1 o1 e1, .int .u8 k1, .int .i64 s1, .int .i64 v1, .bool y1, .int .u8 t1]] w fun e w' => e = .returned (.int .i64 x) ∧ Below w.heap.size w w' := by
  have HF := Lib.hid (show (8 : Int) = x by rw [← hx]; simp [firstE, badE, inB, a1, a2, a3, a4, argE, hg, h.1.2.1, hn])
  have b0 := fun t => QX.new (Bl.start w) g1 A1 n1 c1 S1 m1 d1 j1 B1 o1 e1 k1 s1 v1 y1 t1 t
  clear hx h
  have i1 : (0 : Int) < n1 := by omega
  have i2 : 0 < n1 := by omega
  subst hg
  clear a1 a2 hn
  go_enter Tryz.func6, Tryz.ntmps6
  go_wp2
  go_ret
  exact ⟨ret_int' HF.out, (b0 _).bl⟩
set_option maxHeartbeats 2000000 in
theorem rchk_b2 (g1 : Int) (A1 : Option Addr) (n1 c1 : Nat) (S1 : Option Addr) (m1 d1 : Nat) (j1 : Bool) (B1 : Option Addr) (o1 e1 : Nat) (k1 s1 v1 : Int) (y1 : Bool) (t1 : Int) (L1 M1 : List Nd) (l1 : List Int) (w : World) (h : QA w A1 n1 S1 m1 B1 o1 L1 M1 l1) (a1 : 1 ≤ g1) (a2 : g1 ≤ 4) (a3 : 1 ≤ t1) (a4 : t1 ≤ 2) (hg : g1 ≠ 1) (hv : checkF L1 ≠ 0) (x : Int) (hx : firstE [badE (inB g1 1 4 && inB t1 1 2), argE g1 L1, whrE M1, srcF l1 j1, winE k1 s1 v1, badE (!j1 || decide (k1 = 1))] = x) :
    Calls Tryz.prog 6 #[.agg #[.int .u8 g1, .slice A1 n1 c1, .slice S1 m1 d1, .bool j1, .slice B1 o1 e1, .int .u8 k1, .int .i64 s1, .int .i64 v1, .bool y1, .int .u8 t1]] w fun e w' => e = .returned (.int .i64 x) ∧ Below w.heap.size w w' := by
  have HF := Lib.hid (show (checkF L1 : Int) = x by rw [← hx]; simp [firstE, badE, inB, a1, a2, a3, a4, argE, hg, hv])
  have HA := Lib.hid (fun W (hb : Bl w W) => rcheck_any A1 c1 n1 L1 W h.1.2.1 h.1.2.2 (hb.lies h.1.1) _ rfl)
  have b0 := fun t => QX.new (Bl.start w) g1 A1 n1 c1 S1 m1 d1 j1 B1 o1 e1 k1 s1 v1 y1 t1 t
  clear hx h
  have i1 : (g1 == 1) = false := by simpa using hg
  have i2 := (bne_iff_ne (a := g1) (b := 1)).2 hg
  have i3 := errno_ne hv
  generalize checkF L1 = z at HA HF i3
  clear hv hg
  go_enter Tryz.func6, Tryz.ntmps6
  go_wp2_with (first
    | (go_at_call 20; refine (HA.out _ (b0 _).bl).mono ?_; rintro e w1 ⟨rfl, hb⟩; have b1 := (b0 _).step hb; clear hb b0; obtain ⟨y1, x10, x11, x12, x13, x14, x15, x16, x17, x18, x19⟩ := b1.cells)
    | (go_at_call 20; refine (HA.out _ b1.bl).mono ?_; rintro e w2 ⟨rfl, hb⟩; have b2 := b1.step hb; clear hb b1; obtain ⟨y2, x20, x21, x22, x23, x24, x25, x26, x27, x28, x29⟩ := b2.cells))
  go_ret
  exact ⟨ret_int' HF.out, b2.bl⟩
set_option maxHeartbeats 2000000 in
theorem rchk_dg (g1 : Int) (A1 : Option Addr) (n1 c1 : Nat) (S1 : Option Addr) (m1 d1 : Nat) (j1 : Bool) (B1 : Option Addr) (o1 e1 : Nat) (k1 s1 v1 : Int) (y1 : Bool) (t1 : Int) (L1 M1 : List Nd) (l1 : List Int) (w : World) (h : QA w A1 n1 S1 m1 B1 o1 L1 M1 l1) (a1 : 1 ≤ g1) (a2 : g1 ≤ 4) (a3 : 1 ≤ t1) (a4 : t1 ≤ 2) (hg : g1 = 1) (hn : n1 = 0) (ho : o1 ≠ 0) (hm : checkF M1 ≠ 0) (x : Int) (hx : firstE [badE (inB g1 1 4 && inB t1 1 2), argE g1 L1, whrE M1, srcF l1 j1, winE k1 s1 v1, badE (!j1 || decide (k1 = 1))] = x) :
    Calls Tryz.prog 6 #[.agg #[.int .u8 g1, .slice A1 n1 c1, .slice S1 m1 d1, .bool j1, .slice B1 o1 e1, .int .u8 k1, .int .i64 s1, .int .i64 v1, .bool y1, .int .u8 t1]] w fun e w' => e = .returned (.int .i64 x) ∧ Below w.heap.size w w' := by
  have HF := Lib.hid (show (checkF M1 : Int) = x by rw [← hx]; simp [firstE, badE, inB, a1, a2, a3, a4, show argE g1 L1 = 0 by simp [argE, hg, h.1.2.1, hn, badE], whrE, h.2.2.2.1, ho, hm])
  have HB := Lib.hid (fun W (hb : Bl w W) => rcheck_any B1 e1 o1 M1 W h.2.2.2.1 h.2.2.2.2 (hb.lies h.2.2.1) _ rfl)
  have b0 := fun t => QX.new (Bl.start w) g1 A1 n1 c1 S1 m1 d1 j1 B1 o1 e1 k1 s1 v1 y1 t1 t
  clear hx h
  obtain rfl := hg
  obtain rfl := hn
  clear a1 a2
  have p1 : (0 : Int) < o1 := by omega
  have p2 : 0 < o1 := by omega
  have p3 := errno_ne hm
  generalize checkF M1 = z at HB HF p3
  clear hm ho
  go_enter Tryz.func6, Tryz.ntmps6
  go_wp2_with (first
    | (go_at_call 20; refine (HB.out _ (b0 _).bl).mono ?_; rintro e w1 ⟨rfl, hb⟩; have b1 := (b0 _).step hb; clear hb b0; obtain ⟨y1, x10, x11, x12, x13, x14, x15, x16, x17, x18, x19⟩ := b1.cells)
    | (go_at_call 20; refine (HB.out _ b1.bl).mono ?_; rintro e w2 ⟨rfl, hb⟩; have b2 := b1.step hb; clear hb b1; obtain ⟨y2, x20, x21, x22, x23, x24, x25, x26, x27, x28, x29⟩ := b2.cells))
  go_ret
  exact ⟨ret_int' HF.out, b2.bl⟩
set_option maxHeartbeats 2000000 in
theorem rchk_ego (g1 : Int) (A1 : Option Addr) (n1 c1 : Nat) (S1 : Option Addr) (m1 d1 : Nat) (j1 : Bool) (B1 : Option Addr) (o1 e1 : Nat) (k1 s1 v1 : Int) (y1 : Bool) (t1 : Int) (L1 M1 : List Nd) (l1 : List Int) (w : World) (h : QA w A1 n1 S1 m1 B1 o1 L1 M1 l1) (a1 : 1 ≤ g1) (a2 : g1 ≤ 4) (a3 : 1 ≤ t1) (a4 : t1 ≤ 2) (hg : g1 = 1) (hn : n1 = 0) (ho : o1 = 0) (hs : srcF l1 j1 ≠ 0) (x : Int) (hx : firstE [badE (inB g1 1 4 && inB t1 1 2), argE g1 L1, whrE M1, srcF l1 j1, winE k1 s1 v1, badE (!j1 || decide (k1 = 1))] = x) :
    Calls Tryz.prog 6 #[.agg #[.int .u8 g1, .slice A1 n1 c1, .slice S1 m1 d1, .bool j1, .slice B1 o1 e1, .int .u8 k1, .int .i64 s1, .int .i64 v1, .bool y1, .int .u8 t1]] w fun e w' => e = .returned (.int .i64 x) ∧ Below w.heap.size w w' := by
  have HF := Lib.hid (show (srcF l1 j1 : Int) = x by rw [← hx]; simp [firstE, badE, inB, a1, a2, a3, a4, show argE g1 L1 = 0 by simp [argE, hg, h.1.2.1, hn, badE], show whrE M1 = 0 by simp [whrE, h.2.2.2.1, ho], hs])
  have HR := Lib.hid (fun W (hb : Bl w W) => rsrc_any S1 d1 m1 l1 j1 W h.2.1.2 (hb.lies h.2.1.1) _ rfl)
  have b0 := fun t => QX.new (Bl.start w) g1 A1 n1 c1 S1 m1 d1 j1 B1 o1 e1 k1 s1 v1 y1 t1 t
  clear hx h
  obtain rfl := hg
  obtain rfl := hn
  clear a1 a2
  obtain rfl := ho
  have r1 := errno_ne hs
  generalize srcF l1 j1 = z at HR HF r1
  clear hs
  go_enter Tryz.func6, Tryz.ntmps6
  go_wp2_with (first
    | (go_at_call 21; refine (HR.out _ (b0 _).bl).mono ?_; rintro e w1 ⟨rfl, hb⟩; have b1 := (b0 _).step hb; clear hb b0; obtain ⟨y1, x10, x11, x12, x13, x14, x15, x16, x17, x18, x19⟩ := b1.cells)
    | (go_at_call 21; refine (HR.out _ b1.bl).mono ?_; rintro e w2 ⟨rfl, hb⟩; have b2 := b1.step hb; clear hb b1; obtain ⟨y2, x20, x21, x22, x23, x24, x25, x26, x27, x28, x29⟩ := b2.cells))
  go_ret
  exact ⟨ret_int' HF.out, b2.bl⟩
set_option maxHeartbeats 2000000 in
theorem rchk_fgon (g1 : Int) (A1 : Option Addr) (n1 c1 : Nat) (S1 : Option Addr) (m1 d1 : Nat) (j1 : Bool) (B1 : Option Addr) (o1 e1 : Nat) (k1 s1 v1 : Int) (y1 : Bool) (t1 : Int) (L1 M1 : List Nd) (l1 : List Int) (w : World) (h : QA w A1 n1 S1 m1 B1 o1 L1 M1 l1) (a1 : 1 ≤ g1) (a2 : g1 ≤ 4) (a3 : 1 ≤ t1) (a4 : t1 ≤ 2) (hg : g1 = 1) (hn : n1 = 0) (ho : o1 = 0) (hs : srcF l1 j1 = 0) (hf : fitsW k1 s1 v1 = false) (x : Int) (hx : firstE [badE (inB g1 1 4 && inB t1 1 2), argE g1 L1, whrE M1, srcF l1 j1, winE k1 s1 v1, badE (!j1 || decide (k1 = 1))] = x) :
    Calls Tryz.prog 6 #[.agg #[.int .u8 g1, .slice A1 n1 c1, .slice S1 m1 d1, .bool j1, .slice B1 o1 e1, .int .u8 k1, .int .i64 s1, .int .i64 v1, .bool y1, .int .u8 t1]] w fun e w' => e = .returned (.int .i64 x) ∧ Below w.heap.size w w' := by
  have HF := Lib.hid (show (8 : Int) = x by rw [← hx]; simp [firstE, badE, inB, a1, a2, a3, a4, show argE g1 L1 = 0 by simp [argE, hg, h.1.2.1, hn, badE], show whrE M1 = 0 by simp [whrE, h.2.2.2.1, ho], hs, winE, hf])
  have HR := Lib.hid (fun W (hb : Bl w W) => rsrc_any S1 d1 m1 l1 j1 W h.2.1.2 (hb.lies h.2.1.1) _ rfl)
  have HW := Lib.hid (fun W => fits_any k1 s1 v1 W _ rfl)
  have b0 := fun t => QX.new (Bl.start w) g1 A1 n1 c1 S1 m1 d1 j1 B1 o1 e1 k1 s1 v1 y1 t1 t
  clear hx h
  obtain rfl := hg
  obtain rfl := hn
  clear a1 a2
  obtain rfl := ho
  rw [hs] at HR
  clear hs
  rw [hf] at HW
  clear hf
  go_enter Tryz.func6, Tryz.ntmps6
  go_wp2_with (first
    | (go_at_call 21; refine (HR.out _ (b0 _).bl).mono ?_; rintro e w1 ⟨rfl, hb⟩; have b1 := (b0 _).step hb; clear hb b0; obtain ⟨y1, x10, x11, x12, x13, x14, x15, x16, x17, x18, x19⟩ := b1.cells)
    | (go_at_call 22; refine (HW.out _).mono ?_; rintro e w2 ⟨rfl, hb⟩; have b2 := b1.step hb; clear hb b1; obtain ⟨y2, x20, x21, x22, x23, x24, x25, x26, x27, x28, x29⟩ := b2.cells))
  go_ret
  exact ⟨ret_int' HF.out, b2.bl⟩
set_option maxHeartbeats 2000000 in
theorem rchk_fgof (g1 : Int) (A1 : Option Addr) (n1 c1 : Nat) (S1 : Option Addr) (m1 d1 : Nat) (j1 : Bool) (B1 : Option Addr) (o1 e1 : Nat) (k1 s1 v1 : Int) (y1 : Bool) (t1 : Int) (L1 M1 : List Nd) (l1 : List Int) (w : World) (h : QA w A1 n1 S1 m1 B1 o1 L1 M1 l1) (a1 : 1 ≤ g1) (a2 : g1 ≤ 4) (a3 : 1 ≤ t1) (a4 : t1 ≤ 2) (hg : g1 = 1) (hn : n1 = 0) (ho : o1 = 0) (hs : srcF l1 j1 = 0) (hf : fitsW k1 s1 v1 = true) (hj : j1 = false) (x : Int) (hx : firstE [badE (inB g1 1 4 && inB t1 1 2), argE g1 L1, whrE M1, srcF l1 j1, winE k1 s1 v1, badE (!j1 || decide (k1 = 1))] = x) :
    Calls Tryz.prog 6 #[.agg #[.int .u8 g1, .slice A1 n1 c1, .slice S1 m1 d1, .bool j1, .slice B1 o1 e1, .int .u8 k1, .int .i64 s1, .int .i64 v1, .bool y1, .int .u8 t1]] w fun e w' => e = .returned (.int .i64 x) ∧ Below w.heap.size w w' := by
  have HF := Lib.hid (show (0 : Int) = x by rw [← hx]; simp [firstE, badE, inB, a1, a2, a3, a4, show argE g1 L1 = 0 by simp [argE, hg, h.1.2.1, hn, badE], show whrE M1 = 0 by simp [whrE, h.2.2.2.1, ho], hs, winE, hf, hj, show srcF l1 false = 0 from hj ▸ hs])
  have HR := Lib.hid (fun W (hb : Bl w W) => rsrc_any S1 d1 m1 l1 j1 W h.2.1.2 (hb.lies h.2.1.1) _ rfl)
  have HW := Lib.hid (fun W => fits_any k1 s1 v1 W _ rfl)
  have b0 := fun t => QX.new (Bl.start w) g1 A1 n1 c1 S1 m1 d1 j1 B1 o1 e1 k1 s1 v1 y1 t1 t
  clear hx h
  obtain rfl := hg
  obtain rfl := hn
  clear a1 a2
  obtain rfl := ho
  rw [hs] at HR
  clear hs
  rw [hf] at HW
  subst hj
  clear hf
  go_enter Tryz.func6, Tryz.ntmps6
  go_wp2_with (first
    | (go_at_call 21; refine (HR.out _ (b0 _).bl).mono ?_; rintro e w1 ⟨rfl, hb⟩; have b1 := (b0 _).step hb; clear hb b0; obtain ⟨y1, x10, x11, x12, x13, x14, x15, x16, x17, x18, x19⟩ := b1.cells)
    | (go_at_call 22; refine (HW.out _).mono ?_; rintro e w2 ⟨rfl, hb⟩; have b2 := b1.step hb; clear hb b1; obtain ⟨y2, x20, x21, x22, x23, x24, x25, x26, x27, x28, x29⟩ := b2.cells))
  go_ret
  exact ⟨ret_int' HF.out, b2.bl⟩
set_option maxHeartbeats 2000000 in
theorem rchk_fgoj (g1 : Int) (A1 : Option Addr) (n1 c1 : Nat) (S1 : Option Addr) (m1 d1 : Nat) (j1 : Bool) (B1 : Option Addr) (o1 e1 : Nat) (k1 s1 v1 : Int) (y1 : Bool) (t1 : Int) (L1 M1 : List Nd) (l1 : List Int) (w : World) (h : QA w A1 n1 S1 m1 B1 o1 L1 M1 l1) (a1 : 1 ≤ g1) (a2 : g1 ≤ 4) (a3 : 1 ≤ t1) (a4 : t1 ≤ 2) (hg : g1 = 1) (hn : n1 = 0) (ho : o1 = 0) (hs : srcF l1 j1 = 0) (hf : fitsW k1 s1 v1 = true) (hj : j1 = true) (hk : k1 ≠ 1) (x : Int) (hx : firstE [badE (inB g1 1 4 && inB t1 1 2), argE g1 L1, whrE M1, srcF l1 j1, winE k1 s1 v1, badE (!j1 || decide (k1 = 1))] = x) :
    Calls Tryz.prog 6 #[.agg #[.int .u8 g1, .slice A1 n1 c1, .slice S1 m1 d1, .bool j1, .slice B1 o1 e1, .int .u8 k1, .int .i64 s1, .int .i64 v1, .bool y1, .int .u8 t1]] w fun e w' => e = .returned (.int .i64 x) ∧ Below w.heap.size w w' := by
  have HF := Lib.hid (show (8 : Int) = x by rw [← hx]; simp [firstE, badE, inB, a1, a2, a3, a4, show argE g1 L1 = 0 by simp [argE, hg, h.1.2.1, hn, badE], show whrE M1 = 0 by simp [whrE, h.2.2.2.1, ho], hs, winE, hf, hj, hk, show srcF l1 true = 0 from hj ▸ hs])
  have HR := Lib.hid (fun W (hb : Bl w W) => rsrc_any S1 d1 m1 l1 j1 W h.2.1.2 (hb.lies h.2.1.1) _ rfl)
  have HW := Lib.hid (fun W => fits_any k1 s1 v1 W _ rfl)
  have b0 := fun t => QX.new (Bl.start w) g1 A1 n1 c1 S1 m1 d1 j1 B1 o1 e1 k1 s1 v1 y1 t1 t
  clear hx h
  obtain rfl := hg
  obtain rfl := hn
  clear a1 a2
  obtain rfl := ho
  rw [hs] at HR
  clear hs
  rw [hf] at HW
  subst hj
  have s1 := (bne_iff_ne (a := k1) (b := 1)).2 hk
  clear hf hk
  go_enter Tryz.func6, Tryz.ntmps6
  go_wp2_with (first
    | (go_at_call 21; refine (HR.out _ (b0 _).bl).mono ?_; rintro e w1 ⟨rfl, hb⟩; have b1 := (b0 _).step hb; clear hb b0; obtain ⟨y1, x10, x11, x12, x13, x14, x15, x16, x17, x18, x19⟩ := b1.cells)
    | (go_at_call 22; refine (HW.out _).mono ?_; rintro e w2 ⟨rfl, hb⟩; have b2 := b1.step hb; clear hb b1; obtain ⟨y2, x20, x21, x22, x23, x24, x25, x26, x27, x28, x29⟩ := b2.cells))
  go_ret
  exact ⟨ret_int' HF.out, b2.bl⟩
set_option maxHeartbeats 2000000 in
theorem rchk_fgok (g1 : Int) (A1 : Option Addr) (n1 c1 : Nat) (S1 : Option Addr) (m1 d1 : Nat) (j1 : Bool) (B1 : Option Addr) (o1 e1 : Nat) (k1 s1 v1 : Int) (y1 : Bool) (t1 : Int) (L1 M1 : List Nd) (l1 : List Int) (w : World) (h : QA w A1 n1 S1 m1 B1 o1 L1 M1 l1) (a1 : 1 ≤ g1) (a2 : g1 ≤ 4) (a3 : 1 ≤ t1) (a4 : t1 ≤ 2) (hg : g1 = 1) (hn : n1 = 0) (ho : o1 = 0) (hs : srcF l1 j1 = 0) (hf : fitsW k1 s1 v1 = true) (hj : j1 = true) (hk : k1 = 1) (x : Int) (hx : firstE [badE (inB g1 1 4 && inB t1 1 2), argE g1 L1, whrE M1, srcF l1 j1, winE k1 s1 v1, badE (!j1 || decide (k1 = 1))] = x) :
    Calls Tryz.prog 6 #[.agg #[.int .u8 g1, .slice A1 n1 c1, .slice S1 m1 d1, .bool j1, .slice B1 o1 e1, .int .u8 k1, .int .i64 s1, .int .i64 v1, .bool y1, .int .u8 t1]] w fun e w' => e = .returned (.int .i64 x) ∧ Below w.heap.size w w' := by
  have HF := Lib.hid (show (0 : Int) = x by rw [← hx]; simp [firstE, badE, inB, a1, a2, a3, a4, show argE g1 L1 = 0 by simp [argE, hg, h.1.2.1, hn, badE], show whrE M1 = 0 by simp [whrE, h.2.2.2.1, ho], hs, winE, hf, hj, hk, show fitsW 1 s1 v1 = true from hk ▸ hf, show srcF l1 true = 0 from hj ▸ hs])
  have HR := Lib.hid (fun W (hb : Bl w W) => rsrc_any S1 d1 m1 l1 j1 W h.2.1.2 (hb.lies h.2.1.1) _ rfl)
  have HW := Lib.hid (fun W => fits_any k1 s1 v1 W _ rfl)
  have b0 := fun t => QX.new (Bl.start w) g1 A1 n1 c1 S1 m1 d1 j1 B1 o1 e1 k1 s1 v1 y1 t1 t
  clear hx h
  obtain rfl := hg
  obtain rfl := hn
  clear a1 a2
  obtain rfl := ho
  rw [hs] at HR
  clear hs
  rw [hf] at HW
  subst hj hk
  clear hf
  go_enter Tryz.func6, Tryz.ntmps6
  go_wp2_with (first
    | (go_at_call 21; refine (HR.out _ (b0 _).bl).mono ?_; rintro e w1 ⟨rfl, hb⟩; have b1 := (b0 _).step hb; clear hb b0; obtain ⟨y1, x10, x11, x12, x13, x14, x15, x16, x17, x18, x19⟩ := b1.cells)
    | (go_at_call 22; refine (HW.out _).mono ?_; rintro e w2 ⟨rfl, hb⟩; have b2 := b1.step hb; clear hb b1; obtain ⟨y2, x20, x21, x22, x23, x24, x25, x26, x27, x28, x29⟩ := b2.cells))
  go_ret
  exact ⟨ret_int' HF.out, b2.bl⟩
set_option maxHeartbeats 2000000 in
theorem rchk_egm (g1 : Int) (A1 : Option Addr) (n1 c1 : Nat) (S1 : Option Addr) (m1 d1 : Nat) (j1 : Bool) (B1 : Option Addr) (o1 e1 : Nat) (k1 s1 v1 : Int) (y1 : Bool) (t1 : Int) (L1 M1 : List Nd) (l1 : List Int) (w : World) (h : QA w A1 n1 S1 m1 B1 o1 L1 M1 l1) (a1 : 1 ≤ g1) (a2 : g1 ≤ 4) (a3 : 1 ≤ t1) (a4 : t1 ≤ 2) (hg : g1 = 1) (hn : n1 = 0) (ho : o1 ≠ 0) (hm : checkF M1 = 0) (hs : srcF l1 j1 ≠ 0) (x : Int) (hx : firstE [badE (inB g1 1 4 && inB t1 1 2), argE g1 L1, whrE M1, srcF l1 j1, winE k1 s1 v1, badE (!j1 || decide (k1 = 1))] = x) :
    Calls Tryz.prog 6 #[.agg #[.int .u8 g1, .slice A1 n1 c1, .slice S1 m1 d1, .bool j1, .slice B1 o1 e1, .int .u8 k1, .int .i64 s1, .int .i64 v1, .bool y1, .int .u8 t1]] w fun e w' => e = .returned (.int .i64 x) ∧ Below w.heap.size w w' := by
  have HF := Lib.hid (show (srcF l1 j1 : Int) = x by rw [← hx]; simp [firstE, badE, inB, a1, a2, a3, a4, show argE g1 L1 = 0 by simp [argE, hg, h.1.2.1, hn, badE], show whrE M1 = 0 by simp [whrE, h.2.2.2.1, ho, hm], hs])
  have HB := Lib.hid (fun W (hb : Bl w W) => rcheck_any B1 e1 o1 M1 W h.2.2.2.1 h.2.2.2.2 (hb.lies h.2.2.1) _ rfl)
  have HR := Lib.hid (fun W (hb : Bl w W) => rsrc_any S1 d1 m1 l1 j1 W h.2.1.2 (hb.lies h.2.1.1) _ rfl)
  have b0 := fun t => QX.new (Bl.start w) g1 A1 n1 c1 S1 m1 d1 j1 B1 o1 e1 k1 s1 v1 y1 t1 t
  clear hx h
  obtain rfl := hg
  obtain rfl := hn
  clear a1 a2
  rw [hm] at HB
  have p1 : (0 : Int) < o1 := by omega
  have p2 : 0 < o1 := by omega
  clear hm ho
  have r1 := errno_ne hs
  generalize srcF l1 j1 = z at HR HF r1
  clear hs
  go_enter Tryz.func6, Tryz.ntmps6
  go_wp2_with (first
    | (go_at_call 20; refine (HB.out _ (b0 _).bl).mono ?_; rintro e w1 ⟨rfl, hb⟩; have b1 := (b0 _).step hb; clear hb b0; obtain ⟨y1, x10, x11, x12, x13, x14, x15, x16, x17, x18, x19⟩ := b1.cells)
    | (go_at_call 21; refine (HR.out _ b1.bl).mono ?_; rintro e w2 ⟨rfl, hb⟩; have b2 := b1.step hb; clear hb b1; obtain ⟨y2, x20, x21, x22, x23, x24, x25, x26, x27, x28, x29⟩ := b2.cells)
    | (go_at_call 21; refine (HR.out _ b2.bl).mono ?_; rintro e w3 ⟨rfl, hb⟩; have b3 := b2.step hb; clear hb b2; obtain ⟨y3, x30, x31, x32, x33, x34, x35, x36, x37, x38, x39⟩ := b3.cells))
  go_ret
  exact ⟨ret_int' HF.out, b3.bl⟩
set_option maxHeartbeats 2000000 in
theorem rchk_fgmn (g1 : Int) (A1 : Option Addr) (n1 c1 : Nat) (S1 : Option Addr) (m1 d1 : Nat) (j1 : Bool) (B1 : Option Addr) (o1 e1 : Nat) (k1 s1 v1 : Int) (y1 : Bool) (t1 : Int) (L1 M1 : List Nd) (l1 : List Int) (w : World) (h : QA w A1 n1 S1 m1 B1 o1 L1 M1 l1) (a1 : 1 ≤ g1) (a2 : g1 ≤ 4) (a3 : 1 ≤ t1) (a4 : t1 ≤ 2) (hg : g1 = 1) (hn : n1 = 0) (ho : o1 ≠ 0) (hm : checkF M1 = 0) (hs : srcF l1 j1 = 0) (hf : fitsW k1 s1 v1 = false) (x : Int) (hx : firstE [badE (inB g1 1 4 && inB t1 1 2), argE g1 L1, whrE M1, srcF l1 j1, winE k1 s1 v1, badE (!j1 || decide (k1 = 1))] = x) :
    Calls Tryz.prog 6 #[.agg #[.int .u8 g1, .slice A1 n1 c1, .slice S1 m1 d1, .bool j1, .slice B1 o1 e1, .int .u8 k1, .int .i64 s1, .int .i64 v1, .bool y1, .int .u8 t1]] w fun e w' => e = .returned (.int .i64 x) ∧ Below w.heap.size w w' := by
  have HF := Lib.hid (show (8 : Int) = x by rw [← hx]; simp [firstE, badE, inB, a1, a2, a3, a4, show argE g1 L1 = 0 by simp [argE, hg, h.1.2.1, hn, badE], show whrE M1 = 0 by simp [whrE, h.2.2.2.1, ho, hm], hs, winE, hf])
  have HB := Lib.hid (fun W (hb : Bl w W) => rcheck_any B1 e1 o1 M1 W h.2.2.2.1 h.2.2.2.2 (hb.lies h.2.2.1) _ rfl)
  have HR := Lib.hid (fun W (hb : Bl w W) => rsrc_any S1 d1 m1 l1 j1 W h.2.1.2 (hb.lies h.2.1.1) _ rfl)
  have HW := Lib.hid (fun W => fits_any k1 s1 v1 W _ rfl)
  have b0 := fun t => QX.new (Bl.start w) g1 A1 n1 c1 S1 m1 d1 j1 B1 o1 e1 k1 s1 v1 y1 t1 t
  clear hx h
  obtain rfl := hg
  obtain rfl := hn
  clear a1 a2
  rw [hm] at HB
  have p1 : (0 : Int) < o1 := by omega
  have p2 : 0 < o1 := by omega
  clear hm ho
  rw [hs] at HR
  clear hs
  rw [hf] at HW
  clear hf
  go_enter Tryz.func6, Tryz.ntmps6
  go_wp2_with (first
    | (go_at_call 20; refine (HB.out _ (b0 _).bl).mono ?_; rintro e w1 ⟨rfl, hb⟩; have b1 := (b0 _).step hb; clear hb b0; obtain ⟨y1, x10, x11, x12, x13, x14, x15, x16, x17, x18, x19⟩ := b1.cells)
    | (go_at_call 21; refine (HR.out _ b1.bl).mono ?_; rintro e w2 ⟨rfl, hb⟩; have b2 := b1.step hb; clear hb b1; obtain ⟨y2, x20, x21, x22, x23, x24, x25, x26, x27, x28, x29⟩ := b2.cells)
    | (go_at_call 22; refine (HW.out _).mono ?_; rintro e w3 ⟨rfl, hb⟩; have b3 := b2.step hb; clear hb b2; obtain ⟨y3, x30, x31, x32, x33, x34, x35, x36, x37, x38, x39⟩ := b3.cells))
  go_ret
  exact ⟨ret_int' HF.out, b3.bl⟩
set_option maxHeartbeats 2000000 in
theorem rchk_fgmf (g1 : Int) (A1 : Option Addr) (n1 c1 : Nat) (S1 : Option Addr) (m1 d1 : Nat) (j1 : Bool) (B1 : Option Addr) (o1 e1 : Nat) (k1 s1 v1 : Int) (y1 : Bool) (t1 : Int) (L1 M1 : List Nd) (l1 : List Int) (w : World) (h : QA w A1 n1 S1 m1 B1 o1 L1 M1 l1) (a1 : 1 ≤ g1) (a2 : g1 ≤ 4) (a3 : 1 ≤ t1) (a4 : t1 ≤ 2) (hg : g1 = 1) (hn : n1 = 0) (ho : o1 ≠ 0) (hm : checkF M1 = 0) (hs : srcF l1 j1 = 0) (hf : fitsW k1 s1 v1 = true) (hj : j1 = false) (x : Int) (hx : firstE [badE (inB g1 1 4 && inB t1 1 2), argE g1 L1, whrE M1, srcF l1 j1, winE k1 s1 v1, badE (!j1 || decide (k1 = 1))] = x) :
    Calls Tryz.prog 6 #[.agg #[.int .u8 g1, .slice A1 n1 c1, .slice S1 m1 d1, .bool j1, .slice B1 o1 e1, .int .u8 k1, .int .i64 s1, .int .i64 v1, .bool y1, .int .u8 t1]] w fun e w' => e = .returned (.int .i64 x) ∧ Below w.heap.size w w' := by
  have HF := Lib.hid (show (0 : Int) = x by rw [← hx]; simp [firstE, badE, inB, a1, a2, a3, a4, show argE g1 L1 = 0 by simp [argE, hg, h.1.2.1, hn, badE], show whrE M1 = 0 by simp [whrE, h.2.2.2.1, ho, hm], hs, winE, hf, hj, show srcF l1 false = 0 from hj ▸ hs])
  have HB := Lib.hid (fun W (hb : Bl w W) => rcheck_any B1 e1 o1 M1 W h.2.2.2.1 h.2.2.2.2 (hb.lies h.2.2.1) _ rfl)
  have HR := Lib.hid (fun W (hb : Bl w W) => rsrc_any S1 d1 m1 l1 j1 W h.2.1.2 (hb.lies h.2.1.1) _ rfl)
  have HW := Lib.hid (fun W => fits_any k1 s1 v1 W _ rfl)
  have b0 := fun t => QX.new (Bl.start w) g1 A1 n1 c1 S1 m1 d1 j1 B1 o1 e1 k1 s1 v1 y1 t1 t
  clear hx h
  obtain rfl := hg
  obtain rfl := hn
  clear a1 a2
  rw [hm] at HB
  have p1 : (0 : Int) < o1 := by omega
  have p2 : 0 < o1 := by omega
  clear hm ho
  rw [hs] at HR
  clear hs
  rw [hf] at HW
  subst hj
  clear hf
  go_enter Tryz.func6, Tryz.ntmps6
  go_wp2_with (first
    | (go_at_call 20; refine (HB.out _ (b0 _).bl).mono ?_; rintro e w1 ⟨rfl, hb⟩; have b1 := (b0 _).step hb; clear hb b0; obtain ⟨y1, x10, x11, x12, x13, x14, x15, x16, x17, x18, x19⟩ := b1.cells)
    | (go_at_call 21; refine (HR.out _ b1.bl).mono ?_; rintro e w2 ⟨rfl, hb⟩; have b2 := b1.step hb; clear hb b1; obtain ⟨y2, x20, x21, x22, x23, x24, x25, x26, x27, x28, x29⟩ := b2.cells)
    | (go_at_call 22; refine (HW.out _).mono ?_; rintro e w3 ⟨rfl, hb⟩; have b3 := b2.step hb; clear hb b2; obtain ⟨y3, x30, x31, x32, x33, x34, x35, x36, x37, x38, x39⟩ := b3.cells))
  go_ret
  exact ⟨ret_int' HF.out, b3.bl⟩
set_option maxHeartbeats 2000000 in
theorem rchk_fgmj (g1 : Int) (A1 : Option Addr) (n1 c1 : Nat) (S1 : Option Addr) (m1 d1 : Nat) (j1 : Bool) (B1 : Option Addr) (o1 e1 : Nat) (k1 s1 v1 : Int) (y1 : Bool) (t1 : Int) (L1 M1 : List Nd) (l1 : List Int) (w : World) (h : QA w A1 n1 S1 m1 B1 o1 L1 M1 l1) (a1 : 1 ≤ g1) (a2 : g1 ≤ 4) (a3 : 1 ≤ t1) (a4 : t1 ≤ 2) (hg : g1 = 1) (hn : n1 = 0) (ho : o1 ≠ 0) (hm : checkF M1 = 0) (hs : srcF l1 j1 = 0) (hf : fitsW k1 s1 v1 = true) (hj : j1 = true) (hk : k1 ≠ 1) (x : Int) (hx : firstE [badE (inB g1 1 4 && inB t1 1 2), argE g1 L1, whrE M1, srcF l1 j1, winE k1 s1 v1, badE (!j1 || decide (k1 = 1))] = x) :
    Calls Tryz.prog 6 #[.agg #[.int .u8 g1, .slice A1 n1 c1, .slice S1 m1 d1, .bool j1, .slice B1 o1 e1, .int .u8 k1, .int .i64 s1, .int .i64 v1, .bool y1, .int .u8 t1]] w fun e w' => e = .returned (.int .i64 x) ∧ Below w.heap.size w w' := by
  have HF := Lib.hid (show (8 : Int) = x by rw [← hx]; simp [firstE, badE, inB, a1, a2, a3, a4, show argE g1 L1 = 0 by simp [argE, hg, h.1.2.1, hn, badE], show whrE M1 = 0 by simp [whrE, h.2.2.2.1, ho, hm], hs, winE, hf, hj, hk, show srcF l1 true = 0 from hj ▸ hs])
  have HB := Lib.hid (fun W (hb : Bl w W) => rcheck_any B1 e1 o1 M1 W h.2.2.2.1 h.2.2.2.2 (hb.lies h.2.2.1) _ rfl)
  have HR := Lib.hid (fun W (hb : Bl w W) => rsrc_any S1 d1 m1 l1 j1 W h.2.1.2 (hb.lies h.2.1.1) _ rfl)
  have HW := Lib.hid (fun W => fits_any k1 s1 v1 W _ rfl)
  have b0 := fun t => QX.new (Bl.start w) g1 A1 n1 c1 S1 m1 d1 j1 B1 o1 e1 k1 s1 v1 y1 t1 t
  clear hx h
  obtain rfl := hg
  obtain rfl := hn
  clear a1 a2
  rw [hm] at HB
  have p1 : (0 : Int) < o1 := by omega
  have p2 : 0 < o1 := by omega
  clear hm ho
  rw [hs] at HR
  clear hs
  rw [hf] at HW
  subst hj
  have s1 := (bne_iff_ne (a := k1) (b := 1)).2 hk
  clear hf hk
  go_enter Tryz.func6, Tryz.ntmps6
  go_wp2_with (first
    | (go_at_call 20; refine (HB.out _ (b0 _).bl).mono ?_; rintro e w1 ⟨rfl, hb⟩; have b1 := (b0 _).step hb; clear hb b0; obtain ⟨y1, x10, x11, x12, x13, x14, x15, x16, x17, x18, x19⟩ := b1.cells)
    | (go_at_call 21; refine (HR.out _ b1.bl).mono ?_; rintro e w2 ⟨rfl, hb⟩; have b2 := b1.step hb; clear hb b1; obtain ⟨y2, x20, x21, x22, x23, x24, x25, x26, x27, x28, x29⟩ := b2.cells)
    | (go_at_call 22; refine (HW.out _).mono ?_; rintro e w3 ⟨rfl, hb⟩; have b3 := b2.step hb; clear hb b2; obtain ⟨y3, x30, x31, x32, x33, x34, x35, x36, x37, x38, x39⟩ := b3.cells))
  go_ret
  exact ⟨ret_int' HF.out, b3.bl⟩
set_option maxHeartbeats 2000000 in
theorem rchk_fgmk (g1 : Int) (A1 : Option Addr) (n1 c1 : Nat) (S1 : Option Addr) (m1 d1 : Nat) (j1 : Bool) (B1 : Option Addr) (o1 e1 : Nat) (k1 s1 v1 : Int) (y1 : Bool) (t1 : Int) (L1 M1 : List Nd) (l1 : List Int) (w : World) (h : QA w A1 n1 S1 m1 B1 o1 L1 M1 l1) (a1 : 1 ≤ g1) (a2 : g1 ≤ 4) (a3 : 1 ≤ t1) (a4 : t1 ≤ 2) (hg : g1 = 1) (hn : n1 = 0) (ho : o1 ≠ 0) (hm : checkF M1 = 0) (hs : srcF l1 j1 = 0) (hf : fitsW k1 s1 v1 = true) (hj : j1 = true) (hk : k1 = 1) (x : Int) (hx : firstE [badE (inB g1 1 4 && inB t1 1 2), argE g1 L1, whrE M1, srcF l1 j1, winE k1 s1 v1, badE (!j1 || decide (k1 = 1))] = x) :
    Calls Tryz.prog 6 #[.agg #[.int .u8 g1, .slice A1 n1 c1, .slice S1 m1 d1, .bool j1, .slice B1 o1 e1, .int .u8 k1, .int .i64 s1, .int .i64 v1, .bool y1, .int .u8 t1]] w fun e w' => e = .returned (.int .i64 x) ∧ Below w.heap.size w w' := by
  have HF := Lib.hid (show (0 : Int) = x by rw [← hx]; simp [firstE, badE, inB, a1, a2, a3, a4, show argE g1 L1 = 0 by simp [argE, hg, h.1.2.1, hn, badE], show whrE M1 = 0 by simp [whrE, h.2.2.2.1, ho, hm], hs, winE, hf, hj, hk, show fitsW 1 s1 v1 = true from hk ▸ hf, show srcF l1 true = 0 from hj ▸ hs])
  have HB := Lib.hid (fun W (hb : Bl w W) => rcheck_any B1 e1 o1 M1 W h.2.2.2.1 h.2.2.2.2 (hb.lies h.2.2.1) _ rfl)
  have HR := Lib.hid (fun W (hb : Bl w W) => rsrc_any S1 d1 m1 l1 j1 W h.2.1.2 (hb.lies h.2.1.1) _ rfl)
  have HW := Lib.hid (fun W => fits_any k1 s1 v1 W _ rfl)
  have b0 := fun t => QX.new (Bl.start w) g1 A1 n1 c1 S1 m1 d1 j1 B1 o1 e1 k1 s1 v1 y1 t1 t
  clear hx h
  obtain rfl := hg
  obtain rfl := hn
  clear a1 a2
  rw [hm] at HB
  have p1 : (0 : Int) < o1 := by omega
  have p2 : 0 < o1 := by omega
  clear hm ho
  rw [hs] at HR
  clear hs
  rw [hf] at HW
  subst hj hk
  clear hf
  go_enter Tryz.func6, Tryz.ntmps6
  go_wp2_with (first
    | (go_at_call 20; refine (HB.out _ (b0 _).bl).mono ?_; rintro e w1 ⟨rfl, hb⟩; have b1 := (b0 _).step hb; clear hb b0; obtain ⟨y1, x10, x11, x12, x13, x14, x15, x16, x17, x18, x19⟩ := b1.cells)
    | (go_at_call 21; refine (HR.out _ b1.bl).mono ?_; rintro e w2 ⟨rfl, hb⟩; have b2 := b1.step hb; clear hb b1; obtain ⟨y2, x20, x21, x22, x23, x24, x25, x26, x27, x28, x29⟩ := b2.cells)
    | (go_at_call 22; refine (HW.out _).mono ?_; rintro e w3 ⟨rfl, hb⟩; have b3 := b2.step hb; clear hb b2; obtain ⟨y3, x30, x31, x32, x33, x34, x35, x36, x37, x38, x39⟩ := b3.cells))
  go_ret
  exact ⟨ret_int' HF.out, b3.bl⟩
set_option maxHeartbeats 2000000 in
theorem rchk_dc (g1 : Int) (A1 : Option Addr) (n1 c1 : Nat) (S1 : Option Addr) (m1 d1 : Nat) (j1 : Bool) (B1 : Option Addr) (o1 e1 : Nat) (k1 s1 v1 : Int) (y1 : Bool) (t1 : Int) (L1 M1 : List Nd) (l1 : List Int) (w : World) (h : QA w A1 n1 S1 m1 B1 o1 L1 M1 l1) (a1 : 1 ≤ g1) (a2 : g1 ≤ 4) (a3 : 1 ≤ t1) (a4 : t1 ≤ 2) (hg : g1 ≠ 1) (hv : checkF L1 = 0) (ho : o1 ≠ 0) (hm : checkF M1 ≠ 0) (x : Int) (hx : firstE [badE (inB g1 1 4 && inB t1 1 2), argE g1 L1, whrE M1, srcF l1 j1, winE k1 s1 v1, badE (!j1 || decide (k1 = 1))] = x) :
    Calls Tryz.prog 6 #[.agg #[.int .u8 g1, .slice A1 n1 c1, .slice S1 m1 d1, .bool j1, .slice B1 o1 e1, .int .u8 k1, .int .i64 s1, .int .i64 v1, .bool y1, .int .u8 t1]] w fun e w' => e = .returned (.int .i64 x) ∧ Below w.heap.size w w' := by
  have HF := Lib.hid (show (checkF M1 : Int) = x by rw [← hx]; simp [firstE, badE, inB, a1, a2, a3, a4, show argE g1 L1 = 0 by simp [argE, hg, hv], whrE, h.2.2.2.1, ho, hm])
  have HA := Lib.hid (fun W (hb : Bl w W) => rcheck_any A1 c1 n1 L1 W h.1.2.1 h.1.2.2 (hb.lies h.1.1) _ rfl)
  have HB := Lib.hid (fun W (hb : Bl w W) => rcheck_any B1 e1 o1 M1 W h.2.2.2.1 h.2.2.2.2 (hb.lies h.2.2.1) _ rfl)
  have b0 := fun t => QX.new (Bl.start w) g1 A1 n1 c1 S1 m1 d1 j1 B1 o1 e1 k1 s1 v1 y1 t1 t
  clear hx h
  rw [hv] at HA
  have i1 : (g1 == 1) = false := by simpa using hg
  have i2 := (bne_iff_ne (a := g1) (b := 1)).2 hg
  clear hg hv
  have p1 : (0 : Int) < o1 := by omega
  have p2 : 0 < o1 := by omega
  have p3 := errno_ne hm
  generalize checkF M1 = z at HB HF p3
  clear hm ho
  go_enter Tryz.func6, Tryz.ntmps6
  go_wp2_with (first
    | (go_at_call 20; refine (HA.out _ (b0 _).bl).mono ?_; rintro e w1 ⟨rfl, hb⟩; have b1 := (b0 _).step hb; clear hb b0; obtain ⟨y1, x10, x11, x12, x13, x14, x15, x16, x17, x18, x19⟩ := b1.cells)
    | (go_at_call 20; refine (HB.out _ b1.bl).mono ?_; rintro e w2 ⟨rfl, hb⟩; have b2 := b1.step hb; clear hb b1; obtain ⟨y2, x20, x21, x22, x23, x24, x25, x26, x27, x28, x29⟩ := b2.cells)
    | (go_at_call 20; refine (HB.out _ b2.bl).mono ?_; rintro e w3 ⟨rfl, hb⟩; have b3 := b2.step hb; clear hb b2; obtain ⟨y3, x30, x31, x32, x33, x34, x35, x36, x37, x38, x39⟩ := b3.cells))
  go_ret
  exact ⟨ret_int' HF.out, b3.bl⟩
set_option maxHeartbeats 2000000 in
theorem rchk_eco (g1 : Int) (A1 : Option Addr) (n1 c1 : Nat) (S1 : Option Addr) (m1 d1 : Nat) (j1 : Bool) (B1 : Option Addr) (o1 e1 : Nat) (k1 s1 v1 : Int) (y1 : Bool) (t1 : Int) (L1 M1 : List Nd) (l1 : List Int) (w : World) (h : QA w A1 n1 S1 m1 B1 o1 L1 M1 l1) (a1 : 1 ≤ g1) (a2 : g1 ≤ 4) (a3 : 1 ≤ t1) (a4 : t1 ≤ 2) (hg : g1 ≠ 1) (hv : checkF L1 = 0) (ho : o1 = 0) (hs : srcF l1 j1 ≠ 0) (x : Int) (hx : firstE [badE (inB g1 1 4 && inB t1 1 2), argE g1 L1, whrE M1, srcF l1 j1, winE k1 s1 v1, badE (!j1 || decide (k1 = 1))] = x) :
    Calls Tryz.prog 6 #[.agg #[.int .u8 g1, .slice A1 n1 c1, .slice S1 m1 d1, .bool j1, .slice B1 o1 e1, .int .u8 k1, .int .i64 s1, .int .i64 v1, .bool y1, .int .u8 t1]] w fun e w' => e = .returned (.int .i64 x) ∧ Below w.heap.size w w' := by
  have HF := Lib.hid (show (srcF l1 j1 : Int) = x by rw [← hx]; simp [firstE, badE, inB, a1, a2, a3, a4, show argE g1 L1 = 0 by simp [argE, hg, hv], show whrE M1 = 0 by simp [whrE, h.2.2.2.1, ho], hs])
  have HA := Lib.hid (fun W (hb : Bl w W) => rcheck_any A1 c1 n1 L1 W h.1.2.1 h.1.2.2 (hb.lies h.1.1) _ rfl)
  have HR := Lib.hid (fun W (hb : Bl w W) => rsrc_any S1 d1 m1 l1 j1 W h.2.1.2 (hb.lies h.2.1.1) _ rfl)
  have b0 := fun t => QX.new (Bl.start w) g1 A1 n1 c1 S1 m1 d1 j1 B1 o1 e1 k1 s1 v1 y1 t1 t
  clear hx h
  rw [hv] at HA
  have i1 : (g1 == 1) = false := by simpa using hg
  have i2 := (bne_iff_ne (a := g1) (b := 1)).2 hg
  clear hg hv
  obtain rfl := ho
  have r1 := errno_ne hs
  generalize srcF l1 j1 = z at HR HF r1
  clear hs
  go_enter Tryz.func6, Tryz.ntmps6
  go_wp2_with (first
    | (go_at_call 20; refine (HA.out _ (b0 _).bl).mono ?_; rintro e w1 ⟨rfl, hb⟩; have b1 := (b0 _).step hb; clear hb b0; obtain ⟨y1, x10, x11, x12, x13, x14, x15, x16, x17, x18, x19⟩ := b1.cells)
    | (go_at_call 21; refine (HR.out _ b1.bl).mono ?_; rintro e w2 ⟨rfl, hb⟩; have b2 := b1.step hb; clear hb b1; obtain ⟨y2, x20, x21, x22, x23, x24, x25, x26, x27, x28, x29⟩ := b2.cells)
    | (go_at_call 21; refine (HR.out _ b2.bl).mono ?_; rintro e w3 ⟨rfl, hb⟩; have b3 := b2.step hb; clear hb b2; obtain ⟨y3, x30, x31, x32, x33, x34, x35, x36, x37, x38, x39⟩ := b3.cells))
  go_ret
  exact ⟨ret_int' HF.out, b3.bl⟩
set_option maxHeartbeats 2000000 in
theorem rchk_fcon (g1 : Int) (A1 : Option Addr) (n1 c1 : Nat) (S1 : Option Addr) (m1 d1 : Nat) (j1 : Bool) (B1 : Option Addr) (o1 e1 : Nat) (k1 s1 v1 : Int) (y1 : Bool) (t1 : Int) (L1 M1 : List Nd) (l1 : List Int) (w : World) (h : QA w A1 n1 S1 m1 B1 o1 L1 M1 l1) (a1 : 1 ≤ g1) (a2 : g1 ≤ 4) (a3 : 1 ≤ t1) (a4 : t1 ≤ 2) (hg : g1 ≠ 1) (hv : checkF L1 = 0) (ho : o1 = 0) (hs : srcF l1 j1 = 0) (hf : fitsW k1 s1 v1 = false) (x : Int) (hx : firstE [badE (inB g1 1 4 && inB t1 1 2), argE g1 L1, whrE M1, srcF l1 j1, winE k1 s1 v1, badE (!j1 || decide (k1 = 1))] = x) :
    Calls Tryz.prog 6 #[.agg #[.int .u8 g1, .slice A1 n1 c1, .slice S1 m1 d1, .bool j1, .slice B1 o1 e1, .int .u8 k1, .int .i64 s1, .int .i64 v1, .bool y1, .int .u8 t1]] w fun e w' => e = .returned (.int .i64 x) ∧ Below w.heap.size w w' := by
  have HF := Lib.hid (show (8 : Int) = x by rw [← hx]; simp [firstE, badE, inB, a1, a2, a3, a4, show argE g1 L1 = 0 by simp [argE, hg, hv], show whrE M1 = 0 by simp [whrE, h.2.2.2.1, ho], hs, winE, hf])
  have HA := Lib.hid (fun W (hb : Bl w W) => rcheck_any A1 c1 n1 L1 W h.1.2.1 h.1.2.2 (hb.lies h.1.1) _ rfl)
  have HR := Lib.hid (fun W (hb : Bl w W) => rsrc_any S1 d1 m1 l1 j1 W h.2.1.2 (hb.lies h.2.1.1) _ rfl)
  have HW := Lib.hid (fun W => fits_any k1 s1 v1 W _ rfl)
  have b0 := fun t => QX.new (Bl.start w) g1 A1 n1 c1 S1 m1 d1 j1 B1 o1 e1 k1 s1 v1 y1 t1 t
  clear hx h
  rw [hv] at HA
  have i1 : (g1 == 1) = false := by simpa using hg
  have i2 := (bne_iff_ne (a := g1) (b := 1)).2 hg
  clear hg hv
  obtain rfl := ho
  rw [hs] at HR
  clear hs
  rw [hf] at HW
  clear hf
  go_enter Tryz.func6, Tryz.ntmps6
  go_wp2_with (first
    | (go_at_call 20; refine (HA.out _ (b0 _).bl).mono ?_; rintro e w1 ⟨rfl, hb⟩; have b1 := (b0 _).step hb; clear hb b0; obtain ⟨y1, x10, x11, x12, x13, x14, x15, x16, x17, x18, x19⟩ := b1.cells)
    | (go_at_call 21; refine (HR.out _ b1.bl).mono ?_; rintro e w2 ⟨rfl, hb⟩; have b2 := b1.step hb; clear hb b1; obtain ⟨y2, x20, x21, x22, x23, x24, x25, x26, x27, x28, x29⟩ := b2.cells)
    | (go_at_call 22; refine (HW.out _).mono ?_; rintro e w3 ⟨rfl, hb⟩; have b3 := b2.step hb; clear hb b2; obtain ⟨y3, x30, x31, x32, x33, x34, x35, x36, x37, x38, x39⟩ := b3.cells))
  go_ret
  exact ⟨ret_int' HF.out, b3.bl⟩
set_option maxHeartbeats 2000000 in
theorem rchk_fcof (g1 : Int) (A1 : Option Addr) (n1 c1 : Nat) (S1 : Option Addr) (m1 d1 : Nat) (j1 : Bool) (B1 : Option Addr) (o1 e1 : Nat) (k1 s1 v1 : Int) (y1 : Bool) (t1 : Int) (L1 M1 : List Nd) (l1 : List Int) (w : World) (h : QA w A1 n1 S1 m1 B1 o1 L1 M1 l1) (a1 : 1 ≤ g1) (a2 : g1 ≤ 4) (a3 : 1 ≤ t1) (a4 : t1 ≤ 2) (hg : g1 ≠ 1) (hv : checkF L1 = 0) (ho : o1 = 0) (hs : srcF l1 j1 = 0) (hf : fitsW k1 s1 v1 = true) (hj : j1 = false) (x : Int) (hx : firstE [badE (inB g1 1 4 && inB t1 1 2), argE g1 L1, whrE M1, srcF l1 j1, winE k1 s1 v1, badE (!j1 || decide (k1 = 1))] = x) :
    Calls Tryz.prog 6 #[.agg #[.int .u8 g1, .slice A1 n1 c1, .slice S1 m1 d1, .bool j1, .slice B1 o1 e1, .int .u8 k1, .int .i64 s1, .int .i64 v1, .bool y1, .int .u8 t1]] w fun e w' => e = .returned (.int .i64 x) ∧ Below w.heap.size w w' := by
  have HF := Lib.hid (show (0 : Int) = x by rw [← hx]; simp [firstE, badE, inB, a1, a2, a3, a4, show argE g1 L1 = 0 by simp [argE, hg, hv], show whrE M1 = 0 by simp [whrE, h.2.2.2.1, ho], hs, winE, hf, hj, show srcF l1 false = 0 from hj ▸ hs])
  have HA := Lib.hid (fun W (hb : Bl w W) => rcheck_any A1 c1 n1 L1 W h.1.2.1 h.1.2.2 (hb.lies h.1.1) _ rfl)
  have HR := Lib.hid (fun W (hb : Bl w W) => rsrc_any S1 d1 m1 l1 j1 W h.2.1.2 (hb.lies h.2.1.1) _ rfl)
  have HW := Lib.hid (fun W => fits_any k1 s1 v1 W _ rfl)
  have b0 := fun t => QX.new (Bl.start w) g1 A1 n1 c1 S1 m1 d1 j1 B1 o1 e1 k1 s1 v1 y1 t1 t
  clear hx h
  rw [hv] at HA
  have i1 : (g1 == 1) = false := by simpa using hg
  have i2 := (bne_iff_ne (a := g1) (b := 1)).2 hg
  clear hg hv
  obtain rfl := ho
  rw [hs] at HR
  clear hs
  rw [hf] at HW
  subst hj
  clear hf
  go_enter Tryz.func6, Tryz.ntmps6
  go_wp2_with (first
    | (go_at_call 20; refine (HA.out _ (b0 _).bl).mono ?_; rintro e w1 ⟨rfl, hb⟩; have b1 := (b0 _).step hb; clear hb b0; obtain ⟨y1, x10, x11, x12, x13, x14, x15, x16, x17, x18, x19⟩ := b1.cells)
    | (go_at_call 21; refine (HR.out _ b1.bl).mono ?_; rintro e w2 ⟨rfl, hb⟩; have b2 := b1.step hb; clear hb b1; obtain ⟨y2, x20, x21, x22, x23, x24, x25, x26, x27, x28, x29⟩ := b2.cells)
    | (go_at_call 22; refine (HW.out _).mono ?_; rintro e w3 ⟨rfl, hb⟩; have b3 := b2.step hb; clear hb b2; obtain ⟨y3, x30, x31, x32, x33, x34, x35, x36, x37, x38, x39⟩ := b3.cells))
  go_ret
  exact ⟨ret_int' HF.out, b3.bl⟩
set_option maxHeartbeats 2000000 in
theorem rchk_fcoj (g1 : Int) (A1 : Option Addr) (n1 c1 : Nat) (S1 : Option Addr) (m1 d1 : Nat) (j1 : Bool) (B1 : Option Addr) (o1 e1 : Nat) (k1 s1 v1 : Int) (y1 : Bool) (t1 : Int) (L1 M1 : List Nd) (l1 : List Int) (w : World) (h : QA w A1 n1 S1 m1 B1 o1 L1 M1 l1) (a1 : 1 ≤ g1) (a2 : g1 ≤ 4) (a3 : 1 ≤ t1) (a4 : t1 ≤ 2) (hg : g1 ≠ 1) (hv : checkF L1 = 0) (ho : o1 = 0) (hs : srcF l1 j1 = 0) (hf : fitsW k1 s1 v1 = true) (hj : j1 = true) (hk : k1 ≠ 1) (x : Int) (hx : firstE [badE (inB g1 1 4 && inB t1 1 2), argE g1 L1, whrE M1, srcF l1 j1, winE k1 s1 v1, badE (!j1 || decide (k1 = 1))] = x) :
    Calls Tryz.prog 6 #[.agg #[.int .u8 g1, .slice A1 n1 c1, .slice S1 m1 d1, .bool j1, .slice B1 o1 e1, .int .u8 k1, .int .i64 s1, .int .i64 v1, .bool y1, .int .u8 t1]] w fun e w' => e = .returned (.int .i64 x) ∧ Below w.heap.size w w' := by
  have HF := Lib.hid (show (8 : Int) = x by rw [← hx]; simp [firstE, badE, inB, a1, a2, a3, a4, show argE g1 L1 = 0 by simp [argE, hg, hv], show whrE M1 = 0 by simp [whrE, h.2.2.2.1, ho], hs, winE, hf, hj, hk, show srcF l1 true = 0 from hj ▸ hs])
  have HA := Lib.hid (fun W (hb : Bl w W) => rcheck_any A1 c1 n1 L1 W h.1.2.1 h.1.2.2 (hb.lies h.1.1) _ rfl)
  have HR := Lib.hid (fun W (hb : Bl w W) => rsrc_any S1 d1 m1 l1 j1 W h.2.1.2 (hb.lies h.2.1.1) _ rfl)
  have HW := Lib.hid (fun W => fits_any k1 s1 v1 W _ rfl)
  have b0 := fun t => QX.new (Bl.start w) g1 A1 n1 c1 S1 m1 d1 j1 B1 o1 e1 k1 s1 v1 y1 t1 t
  clear hx h
  rw [hv] at HA
  have i1 : (g1 == 1) = false := by simpa using hg
  have i2 := (bne_iff_ne (a := g1) (b := 1)).2 hg
  clear hg hv
  obtain rfl := ho
  rw [hs] at HR
  clear hs
  rw [hf] at HW
  subst hj
  have s1 := (bne_iff_ne (a := k1) (b := 1)).2 hk
  clear hf hk
  go_enter Tryz.func6, Tryz.ntmps6
  go_wp2_with (first
    | (go_at_call 20; refine (HA.out _ (b0 _).bl).mono ?_; rintro e w1 ⟨rfl, hb⟩; have b1 := (b0 _).step hb; clear hb b0; obtain ⟨y1, x10, x11, x12, x13, x14, x15, x16, x17, x18, x19⟩ := b1.cells)
    | (go_at_call 21; refine (HR.out _ b1.bl).mono ?_; rintro e w2 ⟨rfl, hb⟩; have b2 := b1.step hb; clear hb b1; obtain ⟨y2, x20, x21, x22, x23, x24, x25, x26, x27, x28, x29⟩ := b2.cells)
    | (go_at_call 22; refine (HW.out _).mono ?_; rintro e w3 ⟨rfl, hb⟩; have b3 := b2.step hb; clear hb b2; obtain ⟨y3, x30, x31, x32, x33, x34, x35, x36, x37, x38, x39⟩ := b3.cells))
  go_ret
  exact ⟨ret_int' HF.out, b3.bl⟩
set_option maxHeartbeats 2000000 in
theorem rchk_fcok (g1 : Int) (A1 : Option Addr) (n1 c1 : Nat) (S1 : Option Addr) (m1 d1 : Nat) (j1 : Bool) (B1 : Option Addr) (o1 e1 : Nat) (k1 s1 v1 : Int) (y1 : Bool) (t1 : Int) (L1 M1 : List Nd) (l1 : List Int) (w : World) (h : QA w A1 n1 S1 m1 B1 o1 L1 M1 l1) (a1 : 1 ≤ g1) (a2 : g1 ≤ 4) (a3 : 1 ≤ t1) (a4 : t1 ≤ 2) (hg : g1 ≠ 1) (hv : checkF L1 = 0) (ho : o1 = 0) (hs : srcF l1 j1 = 0) (hf : fitsW k1 s1 v1 = true) (hj : j1 = true) (hk : k1 = 1) (x : Int) (hx : firstE [badE (inB g1 1 4 && inB t1 1 2), argE g1 L1, whrE M1, srcF l1 j1, winE k1 s1 v1, badE (!j1 || decide (k1 = 1))] = x) :
    Calls Tryz.prog 6 #[.agg #[.int .u8 g1, .slice A1 n1 c1, .slice S1 m1 d1, .bool j1, .slice B1 o1 e1, .int .u8 k1, .int .i64 s1, .int .i64 v1, .bool y1, .int .u8 t1]] w fun e w' => e = .returned (.int .i64 x) ∧ Below w.heap.size w w' := by
  have HF := Lib.hid (show (0 : Int) = x by rw [← hx]; simp [firstE, badE, inB, a1, a2, a3, a4, show argE g1 L1 = 0 by simp [argE, hg, hv], show whrE M1 = 0 by simp [whrE, h.2.2.2.1, ho], hs, winE, hf, hj, hk, show fitsW 1 s1 v1 = true from hk ▸ hf, show srcF l1 true = 0 from hj ▸ hs])
  have HA := Lib.hid (fun W (hb : Bl w W) => rcheck_any A1 c1 n1 L1 W h.1.2.1 h.1.2.2 (hb.lies h.1.1) _ rfl)
  have HR := Lib.hid (fun W (hb : Bl w W) => rsrc_any S1 d1 m1 l1 j1 W h.2.1.2 (hb.lies h.2.1.1) _ rfl)
  have HW := Lib.hid (fun W => fits_any k1 s1 v1 W _ rfl)
  have b0 := fun t => QX.new (Bl.start w) g1 A1 n1 c1 S1 m1 d1 j1 B1 o1 e1 k1 s1 v1 y1 t1 t
  clear hx h
  rw [hv] at HA
  have i1 : (g1 == 1) = false := by simpa using hg
  have i2 := (bne_iff_ne (a := g1) (b := 1)).2 hg
  clear hg hv
  obtain rfl := ho
  rw [hs] at HR
  clear hs
  rw [hf] at HW
  subst hj hk
  clear hf
  go_enter Tryz.func6, Tryz.ntmps6
  go_wp2_with (first
    | (go_at_call 20; refine (HA.out _ (b0 _).bl).mono ?_; rintro e w1 ⟨rfl, hb⟩; have b1 := (b0 _).step hb; clear hb b0; obtain ⟨y1, x10, x11, x12, x13, x14, x15, x16, x17, x18, x19⟩ := b1.cells)
    | (go_at_call 21; refine (HR.out _ b1.bl).mono ?_; rintro e w2 ⟨rfl, hb⟩; have b2 := b1.step hb; clear hb b1; obtain ⟨y2, x20, x21, x22, x23, x24, x25, x26, x27, x28, x29⟩ := b2.cells)
    | (go_at_call 22; refine (HW.out _).mono ?_; rintro e w3 ⟨rfl, hb⟩; have b3 := b2.step hb; clear hb b2; obtain ⟨y3, x30, x31, x32, x33, x34, x35, x36, x37, x38, x39⟩ := b3.cells))
  go_ret
  exact ⟨ret_int' HF.out, b3.bl⟩
set_option maxHeartbeats 2000000 in
theorem rchk_ecm (g1 : Int) (A1 : Option Addr) (n1 c1 : Nat) (S1 : Option Addr) (m1 d1 : Nat) (j1 : Bool) (B1 : Option Addr) (o1 e1 : Nat) (k1 s1 v1 : Int) (y1 : Bool) (t1 : Int) (L1 M1 : List Nd) (l1 : List Int) (w : World) (h : QA w A1 n1 S1 m1 B1 o1 L1 M1 l1) (a1 : 1 ≤ g1) (a2 : g1 ≤ 4) (a3 : 1 ≤ t1) (a4 : t1 ≤ 2) (hg : g1 ≠ 1) (hv : checkF L1 = 0) (ho : o1 ≠ 0) (hm : checkF M1 = 0) (hs : srcF l1 j1 ≠ 0) (x : Int) (hx : firstE [badE (inB g1 1 4 && inB t1 1 2), argE g1 L1, whrE M1, srcF l1 j1, winE k1 s1 v1, badE (!j1 || decide (k1 = 1))] = x) :
    Calls Tryz.prog 6 #[.agg #[.int .u8 g1, .slice A1 n1 c1, .slice S1 m1 d1, .bool j1, .slice B1 o1 e1, .int .u8 k1, .int .i64 s1, .int .i64 v1, .bool y1, .int .u8 t1]] w fun e w' => e = .returned (.int .i64 x) ∧ Below w.heap.size w w' := by
  have HF := Lib.hid (show (srcF l1 j1 : Int) = x by rw [← hx]; simp [firstE, badE, inB, a1, a2, a3, a4, show argE g1 L1 = 0 by simp [argE, hg, hv], show whrE M1 = 0 by simp [whrE, h.2.2.2.1, ho, hm], hs])
  have HA := Lib.hid (fun W (hb : Bl w W) => rcheck_any A1 c1 n1 L1 W h.1.2.1 h.1.2.2 (hb.lies h.1.1) _ rfl)
  have HB := Lib.hid (fun W (hb : Bl w W) => rcheck_any B1 e1 o1 M1 W h.2.2.2.1 h.2.2.2.2 (hb.lies h.2.2.1) _ rfl)
  have HR := Lib.hid (fun W (hb : Bl w W) => rsrc_any S1 d1 m1 l1 j1 W h.2.1.2 (hb.lies h.2.1.1) _ rfl)
  have b0 := fun t => QX.new (Bl.start w) g1 A1 n1 c1 S1 m1 d1 j1 B1 o1 e1 k1 s1 v1 y1 t1 t
  clear hx h
  rw [hv] at HA
  have i1 : (g1 == 1) = false := by simpa using hg
  have i2 := (bne_iff_ne (a := g1) (b := 1)).2 hg
  clear hg hv
  rw [hm] at HB
  have p1 : (0 : Int) < o1 := by omega
  have p2 : 0 < o1 := by omega
  clear hm ho
  have r1 := errno_ne hs
  generalize srcF l1 j1 = z at HR HF r1
  clear hs
  go_enter Tryz.func6, Tryz.ntmps6
  go_wp2_with (first
    | (go_at_call 20; refine (HA.out _ (b0 _).bl).mono ?_; rintro e w1 ⟨rfl, hb⟩; have b1 := (b0 _).step hb; clear hb b0; obtain ⟨y1, x10, x11, x12, x13, x14, x15, x16, x17, x18, x19⟩ := b1.cells)
    | (go_at_call 20; refine (HB.out _ b1.bl).mono ?_; rintro e w2 ⟨rfl, hb⟩; have b2 := b1.step hb; clear hb b1; obtain ⟨y2, x20, x21, x22, x23, x24, x25, x26, x27, x28, x29⟩ := b2.cells)
    | (go_at_call 21; refine (HR.out _ b2.bl).mono ?_; rintro e w3 ⟨rfl, hb⟩; have b3 := b2.step hb; clear hb b2; obtain ⟨y3, x30, x31, x32, x33, x34, x35, x36, x37, x38, x39⟩ := b3.cells)
    | (go_at_call 21; refine (HR.out _ b3.bl).mono ?_; rintro e w4 ⟨rfl, hb⟩; have b4 := b3.step hb; clear hb b3; obtain ⟨y4, x40, x41, x42, x43, x44, x45, x46, x47, x48, x49⟩ := b4.cells))
  go_ret
  exact ⟨ret_int' HF.out, b4.bl⟩
set_option maxHeartbeats 2000000 in
theorem rchk_fcmn (g1 : Int) (A1 : Option Addr) (n1 c1 : Nat) (S1 : Option Addr) (m1 d1 : Nat) (j1 : Bool) (B1 : Option Addr) (o1 e1 : Nat) (k1 s1 v1 : Int) (y1 : Bool) (t1 : Int) (L1 M1 : List Nd) (l1 : List Int) (w : World) (h : QA w A1 n1 S1 m1 B1 o1 L1 M1 l1) (a1 : 1 ≤ g1) (a2 : g1 ≤ 4) (a3 : 1 ≤ t1) (a4 : t1 ≤ 2) (hg : g1 ≠ 1) (hv : checkF L1 = 0) (ho : o1 ≠ 0) (hm : checkF M1 = 0) (hs : srcF l1 j1 = 0) (hf : fitsW k1 s1 v1 = false) (x : Int) (hx : firstE [badE (inB g1 1 4 && inB t1 1 2), argE g1 L1, whrE M1, srcF l1 j1, winE k1 s1 v1, badE (!j1 || decide (k1 = 1))] = x) :
    Calls Tryz.prog 6 #[.agg #[.int .u8 g1, .slice A1 n1 c1, .slice S1 m1 d1, .bool j1, .slice B1 o1 e1, .int .u8 k1, .int .i64 s1, .int .i64 v1, .bool y1, .int .u8 t1]] w fun e w' => e = .returned (.int .i64 x) ∧ Below w.heap.size w w' := by
  have HF := Lib.hid (show (8 : Int) = x by rw [← hx]; simp [firstE, badE, inB, a1, a2, a3, a4, show argE g1 L1 = 0 by simp [argE, hg, hv], show whrE M1 = 0 by simp [whrE, h.2.2.2.1, ho, hm], hs, winE, hf])
  have HA := Lib.hid (fun W (hb : Bl w W) => rcheck_any A1 c1 n1 L1 W h.1.2.1 h.1.2.2 (hb.lies h.1.1) _ rfl)
  have HB := Lib.hid (fun W (hb : Bl w W) => rcheck_any B1 e1 o1 M1 W h.2.2.2.1 h.2.2.2.2 (hb.lies h.2.2.1) _ rfl)
  have HR := Lib.hid (fun W (hb : Bl w W) => rsrc_any S1 d1 m1 l1 j1 W h.2.1.2 (hb.lies h.2.1.1) _ rfl)
  have HW := Lib.hid (fun W => fits_any k1 s1 v1 W _ rfl)
  have b0 := fun t => QX.new (Bl.start w) g1 A1 n1 c1 S1 m1 d1 j1 B1 o1 e1 k1 s1 v1 y1 t1 t
  clear hx h
  rw [hv] at HA
  have i1 : (g1 == 1) = false := by simpa using hg
  have i2 := (bne_iff_ne (a := g1) (b := 1)).2 hg
  clear hg hv
  rw [hm] at HB
  have p1 : (0 : Int) < o1 := by omega
  have p2 : 0 < o1 := by omega
  clear hm ho
  rw [hs] at HR
  clear hs
  rw [hf] at HW
  clear hf
  go_enter Tryz.func6, Tryz.ntmps6
  go_wp2_with (first
    | (go_at_call 20; refine (HA.out _ (b0 _).bl).mono ?_; rintro e w1 ⟨rfl, hb⟩; have b1 := (b0 _).step hb; clear hb b0; obtain ⟨y1, x10, x11, x12, x13, x14, x15, x16, x17, x18, x19⟩ := b1.cells)
    | (go_at_call 20; refine (HB.out _ b1.bl).mono ?_; rintro e w2 ⟨rfl, hb⟩; have b2 := b1.step hb; clear hb b1; obtain ⟨y2, x20, x21, x22, x23, x24, x25, x26, x27, x28, x29⟩ := b2.cells)
    | (go_at_call 21; refine (HR.out _ b2.bl).mono ?_; rintro e w3 ⟨rfl, hb⟩; have b3 := b2.step hb; clear hb b2; obtain ⟨y3, x30, x31, x32, x33, x34, x35, x36, x37, x38, x39⟩ := b3.cells)
    | (go_at_call 22; refine (HW.out _).mono ?_; rintro e w4 ⟨rfl, hb⟩; have b4 := b3.step hb; clear hb b3; obtain ⟨y4, x40, x41, x42, x43, x44, x45, x46, x47, x48, x49⟩ := b4.cells))
  go_ret
  exact ⟨ret_int' HF.out, b4.bl⟩
set_option maxHeartbeats 2000000 in
theorem rchk_fcmf (g1 : Int) (A1 : Option Addr) (n1 c1 : Nat) (S1 : Option Addr) (m1 d1 : Nat) (j1 : Bool) (B1 : Option Addr) (o1 e1 : Nat) (k1 s1 v1 : Int) (y1 : Bool) (t1 : Int) (L1 M1 : List Nd) (l1 : List Int) (w : World) (h : QA w A1 n1 S1 m1 B1 o1 L1 M1 l1) (a1 : 1 ≤ g1) (a2 : g1 ≤ 4) (a3 : 1 ≤ t1) (a4 : t1 ≤ 2) (hg : g1 ≠ 1) (hv : checkF L1 = 0) (ho : o1 ≠ 0) (hm : checkF M1 = 0) (hs : srcF l1 j1 = 0) (hf : fitsW k1 s1 v1 = true) (hj : j1 = false) (x : Int) (hx : firstE [badE (inB g1 1 4 && inB t1 1 2), argE g1 L1, whrE M1, srcF l1 j1, winE k1 s1 v1, badE (!j1 || decide (k1 = 1))] = x) :
    Calls Tryz.prog 6 #[.agg #[.int .u8 g1, .slice A1 n1 c1, .slice S1 m1 d1, .bool j1, .slice B1 o1 e1, .int .u8 k1, .int .i64 s1, .int .i64 v1, .bool y1, .int .u8 t1]] w fun e w' => e = .returned (.int .i64 x) ∧ Below w.heap.size w w' := by
  have HF := Lib.hid (show (0 : Int) = x by rw [← hx]; simp [firstE, badE, inB, a1, a2, a3, a4, show argE g1 L1 = 0 by simp [argE, hg, hv], show whrE M1 = 0 by simp [whrE, h.2.2.2.1, ho, hm], hs, winE, hf, hj, show srcF l1 false = 0 from hj ▸ hs])
  have HA := Lib.hid (fun W (hb : Bl w W) => rcheck_any A1 c1 n1 L1 W h.1.2.1 h.1.2.2 (hb.lies h.1.1) _ rfl)
  have HB := Lib.hid (fun W (hb : Bl w W) => rcheck_any B1 e1 o1 M1 W h.2.2.2.1 h.2.2.2.2 (hb.lies h.2.2.1) _ rfl)
  have HR := Lib.hid (fun W (hb : Bl w W) => rsrc_any S1 d1 m1 l1 j1 W h.2.1.2 (hb.lies h.2.1.1) _ rfl)
  have HW := Lib.hid (fun W => fits_any k1 s1 v1 W _ rfl)
  have b0 := fun t => QX.new (Bl.start w) g1 A1 n1 c1 S1 m1 d1 j1 B1 o1 e1 k1 s1 v1 y1 t1 t
  clear hx h
  rw [hv] at HA
  have i1 : (g1 == 1) = false := by simpa using hg
  have i2 := (bne_iff_ne (a := g1) (b := 1)).2 hg
  clear hg hv
  rw [hm] at HB
  have p1 : (0 : Int) < o1 := by omega
  have p2 : 0 < o1 := by omega
  clear hm ho
  rw [hs] at HR
  clear hs
  rw [hf] at HW
  subst hj
  clear hf
  go_enter Tryz.func6, Tryz.ntmps6
  go_wp2_with (first
    | (go_at_call 20; refine (HA.out _ (b0 _).bl).mono ?_; rintro e w1 ⟨rfl, hb⟩; have b1 := (b0 _).step hb; clear hb b0; obtain ⟨y1, x10, x11, x12, x13, x14, x15, x16, x17, x18, x19⟩ := b1.cells)
    | (go_at_call 20; refine (HB.out _ b1.bl).mono ?_; rintro e w2 ⟨rfl, hb⟩; have b2 := b1.step hb; clear hb b1; obtain ⟨y2, x20, x21, x22, x23, x24, x25, x26, x27, x28, x29⟩ := b2.cells)
    | (go_at_call 21; refine (HR.out _ b2.bl).mono ?_; rintro e w3 ⟨rfl, hb⟩; have b3 := b2.step hb; clear hb b2; obtain ⟨y3, x30, x31, x32, x33, x34, x35, x36, x37, x38, x39⟩ := b3.cells)
    | (go_at_call 22; refine (HW.out _).mono ?_; rintro e w4 ⟨rfl, hb⟩; have b4 := b3.step hb; clear hb b3; obtain ⟨y4, x40, x41, x42, x43, x44, x45, x46, x47, x48, x49⟩ := b4.cells))
  go_ret
  exact ⟨ret_int' HF.out, b4.bl⟩
set_option maxHeartbeats 2000000 in
theorem rchk_fcmj (g1 : Int) (A1 : Option Addr) (n1 c1 : Nat) (S1 : Option Addr) (m1 d1 : Nat) (j1 : Bool) (B1 : Option Addr) (o1 e1 : Nat) (k1 s1 v1 : Int) (y1 : Bool) (t1 : Int) (L1 M1 : List Nd) (l1 : List Int) (w : World) (h : QA w A1 n1 S1 m1 B1 o1 L1 M1 l1) (a1 : 1 ≤ g1) (a2 : g1 ≤ 4) (a3 : 1 ≤ t1) (a4 : t1 ≤ 2) (hg : g1 ≠ 1) (hv : checkF L1 = 0) (ho : o1 ≠ 0) (hm : checkF M1 = 0) (hs : srcF l1 j1 = 0) (hf : fitsW k1 s1 v1 = true) (hj : j1 = true) (hk : k1 ≠ 1) (x : Int) (hx : firstE [badE (inB g1 1 4 && inB t1 1 2), argE g1 L1, whrE M1, srcF l1 j1, winE k1 s1 v1, badE (!j1 || decide (k1 = 1))] = x) :
    Calls Tryz.prog 6 #[.agg #[.int .u8 g1, .slice A1 n1 c1, .slice S1 m1 d1, .bool j1, .slice B1 o1 e1, .int .u8 k1, .int .i64 s1, .int .i64 v1, .bool y1, .int .u8 t1]] w fun e w' => e = .returned (.int .i64 x) ∧ Below w.heap.size w w' := by
  have HF := Lib.hid (show (8 : Int) = x by rw [← hx]; simp [firstE, badE, inB, a1, a2, a3, a4, show argE g1 L1 = 0 by simp [argE, hg, hv], show whrE M1 = 0 by simp [whrE, h.2.2.2.1, ho, hm], hs, winE, hf, hj, hk, show srcF l1 true = 0 from hj ▸ hs])
  have HA := Lib.hid (fun W (hb : Bl w W) => rcheck_any A1 c1 n1 L1 W h.1.2.1 h.1.2.2 (hb.lies h.1.1) _ rfl)
  have HB := Lib.hid (fun W (hb : Bl w W) => rcheck_any B1 e1 o1 M1 W h.2.2.2.1 h.2.2.2.2 (hb.lies h.2.2.1) _ rfl)
  have HR := Lib.hid (fun W (hb : Bl w W) => rsrc_any S1 d1 m1 l1 j1 W h.2.1.2 (hb.lies h.2.1.1) _ rfl)
  have HW := Lib.hid (fun W => fits_any k1 s1 v1 W _ rfl)
  have b0 := fun t => QX.new (Bl.start w) g1 A1 n1 c1 S1 m1 d1 j1 B1 o1 e1 k1 s1 v1 y1 t1 t
  clear hx h
  rw [hv] at HA
  have i1 : (g1 == 1) = false := by simpa using hg
  have i2 := (bne_iff_ne (a := g1) (b := 1)).2 hg
  clear hg hv
  rw [hm] at HB
  have p1 : (0 : Int) < o1 := by omega
  have p2 : 0 < o1 := by omega
  clear hm ho
  rw [hs] at HR
  clear hs
  rw [hf] at HW
  subst hj
  have s1 := (bne_iff_ne (a := k1) (b := 1)).2 hk
  clear hf hk
  go_enter Tryz.func6, Tryz.ntmps6
  go_wp2_with (first
    | (go_at_call 20; refine (HA.out _ (b0 _).bl).mono ?_; rintro e w1 ⟨rfl, hb⟩; have b1 := (b0 _).step hb; clear hb b0; obtain ⟨y1, x10, x11, x12, x13, x14, x15, x16, x17, x18, x19⟩ := b1.cells)
    | (go_at_call 20; refine (HB.out _ b1.bl).mono ?_; rintro e w2 ⟨rfl, hb⟩; have b2 := b1.step hb; clear hb b1; obtain ⟨y2, x20, x21, x22, x23, x24, x25, x26, x27, x28, x29⟩ := b2.cells)
    | (go_at_call 21; refine (HR.out _ b2.bl).mono ?_; rintro e w3 ⟨rfl, hb⟩; have b3 := b2.step hb; clear hb b2; obtain ⟨y3, x30, x31, x32, x33, x34, x35, x36, x37, x38, x39⟩ := b3.cells)
    | (go_at_call 22; refine (HW.out _).mono ?_; rintro e w4 ⟨rfl, hb⟩; have b4 := b3.step hb; clear hb b3; obtain ⟨y4, x40, x41, x42, x43, x44, x45, x46, x47, x48, x49⟩ := b4.cells))
  go_ret
  exact ⟨ret_int' HF.out, b4.bl⟩
set_option maxHeartbeats 2000000 in
theorem rchk_fcmk (g1 : Int) (A1 : Option Addr) (n1 c1 : Nat) (S1 : Option Addr) (m1 d1 : Nat) (j1 : Bool) (B1 : Option Addr) (o1 e1 : Nat) (k1 s1 v1 : Int) (y1 : Bool) (t1 : Int) (L1 M1 : List Nd) (l1 : List Int) (w : World) (h : QA w A1 n1 S1 m1 B1 o1 L1 M1 l1) (a1 : 1 ≤ g1) (a2 : g1 ≤ 4) (a3 : 1 ≤ t1) (a4 : t1 ≤ 2) (hg : g1 ≠ 1) (hv : checkF L1 = 0) (ho : o1 ≠ 0) (hm : checkF M1 = 0) (hs : srcF l1 j1 = 0) (hf : fitsW k1 s1 v1 = true) (hj : j1 = true) (hk : k1 = 1) (x : Int) (hx : firstE [badE (inB g1 1 4 && inB t1 1 2), argE g1 L1, whrE M1, srcF l1 j1, winE k1 s1 v1, badE (!j1 || decide (k1 = 1))] = x) :
    Calls Tryz.prog 6 #[.agg #[.int .u8 g1, .slice A1 n1 c1, .slice S1 m1 d1, .bool j1, .slice B1 o1 e1, .int .u8 k1, .int .i64 s1, .int .i64 v1, .bool y1, .int .u8 t1]] w fun e w' => e = .returned (.int .i64 x) ∧ Below w.heap.size w w' := by
  have HF := Lib.hid (show (0 : Int) = x by rw [← hx]; simp [firstE, badE, inB, a1, a2, a3, a4, show argE g1 L1 = 0 by simp [argE, hg, hv], show whrE M1 = 0 by simp [whrE, h.2.2.2.1, ho, hm], hs, winE, hf, hj, hk, show fitsW 1 s1 v1 = true from hk ▸ hf, show srcF l1 true = 0 from hj ▸ hs])
  have HA := Lib.hid (fun W (hb : Bl w W) => rcheck_any A1 c1 n1 L1 W h.1.2.1 h.1.2.2 (hb.lies h.1.1) _ rfl)
  have HB := Lib.hid (fun W (hb : Bl w W) => rcheck_any B1 e1 o1 M1 W h.2.2.2.1 h.2.2.2.2 (hb.lies h.2.2.1) _ rfl)
  have HR := Lib.hid (fun W (hb : Bl w W) => rsrc_any S1 d1 m1 l1 j1 W h.2.1.2 (hb.lies h.2.1.1) _ rfl)
  have HW := Lib.hid (fun W => fits_any k1 s1 v1 W _ rfl)
  have b0 := fun t => QX.new (Bl.start w) g1 A1 n1 c1 S1 m1 d1 j1 B1 o1 e1 k1 s1 v1 y1 t1 t
  clear hx h
  rw [hv] at HA
  have i1 : (g1 == 1) = false := by simpa using hg
  have i2 := (bne_iff_ne (a := g1) (b := 1)).2 hg
  clear hg hv
  rw [hm] at HB
  have p1 : (0 : Int) < o1 := by omega
  have p2 : 0 < o1 := by omega
  clear hm ho
  rw [hs] at HR
  clear hs
  rw [hf] at HW
  subst hj hk
  clear hf
  go_enter Tryz.func6, Tryz.ntmps6
  go_wp2_with (first
    | (go_at_call 20; refine (HA.out _ (b0 _).bl).mono ?_; rintro e w1 ⟨rfl, hb⟩; have b1 := (b0 _).step hb; clear hb b0; obtain ⟨y1, x10, x11, x12, x13, x14, x15, x16, x17, x18, x19⟩ := b1.cells)
    | (go_at_call 20; refine (HB.out _ b1.bl).mono ?_; rintro e w2 ⟨rfl, hb⟩; have b2 := b1.step hb; clear hb b1; obtain ⟨y2, x20, x21, x22, x23, x24, x25, x26, x27, x28, x29⟩ := b2.cells)
    | (go_at_call 21; refine (HR.out _ b2.bl).mono ?_; rintro e w3 ⟨rfl, hb⟩; have b3 := b2.step hb; clear hb b2; obtain ⟨y3, x30, x31, x32, x33, x34, x35, x36, x37, x38, x39⟩ := b3.cells)
    | (go_at_call 22; refine (HW.out _).mono ?_; rintro e w4 ⟨rfl, hb⟩; have b4 := b3.step hb; clear hb b3; obtain ⟨y4, x40, x41, x42, x43, x44, x45, x46, x47, x48, x49⟩ := b4.cells))
  go_ret
  exact ⟨ret_int' HF.out, b4.bl⟩
theorem rchk_any (g1 : Int) (A1 : Option Addr) (n1 c1 : Nat) (S1 : Option Addr) (m1 d1 : Nat) (j1 : Bool) (B1 : Option Addr) (o1 e1 : Nat) (k1 s1 v1 : Int) (y1 : Bool) (t1 : Int) (L1 M1 : List Nd) (l1 : List Int) (w : World) (h : QA w A1 n1 S1 m1 B1 o1 L1 M1 l1) (x : Int) (hx : chkF ⟨g1, L1, l1, j1, M1, k1, s1, v1, y1, t1⟩ = x) :
    Calls Tryz.prog 6 #[.agg #[.int .u8 g1, .slice A1 n1 c1, .slice S1 m1 d1, .bool j1, .slice B1 o1 e1, .int .u8 k1, .int .i64 s1, .int .i64 v1, .bool y1, .int .u8 t1]] w fun e w' => e = .returned (.int .i64 x) ∧ Below w.heap.size w w' := by
  unfold chkF chkL at hx
  simp only at hx
  rcases Int.lt_or_le g1 1 with a1 | a1
  · exact rchk_a1 g1 A1 n1 c1 S1 m1 d1 j1 B1 o1 e1 k1 s1 v1 y1 t1 L1 M1 l1 w h a1 x hx
  rcases Int.lt_or_le 4 g1 with a2 | a2
  · exact rchk_a2 g1 A1 n1 c1 S1 m1 d1 j1 B1 o1 e1 k1 s1 v1 y1 t1 L1 M1 l1 w h a1 a2 x hx
  rcases Int.lt_or_le t1 1 with a3 | a3
  · exact rchk_a3 g1 A1 n1 c1 S1 m1 d1 j1 B1 o1 e1 k1 s1 v1 y1 t1 L1 M1 l1 w h a1 a2 a3 x hx
  rcases Int.lt_or_le 2 t1 with a4 | a4
  · exact rchk_a4 g1 A1 n1 c1 S1 m1 d1 j1 B1 o1 e1 k1 s1 v1 y1 t1 L1 M1 l1 w h a1 a2 a3 a4 x hx
  by_cases hg : g1 = 1
  · by_cases hn : n1 = 0
    · by_cases ho : o1 = 0
      · by_cases hs : srcF l1 j1 = 0
        · rcases Bool.eq_false_or_eq_true (fitsW k1 s1 v1) with hf | hf
          · rcases Bool.eq_false_or_eq_true j1 with hj | hj
            · by_cases hk : k1 = 1
              · exact rchk_fgok g1 A1 n1 c1 S1 m1 d1 j1 B1 o1 e1 k1 s1 v1 y1 t1 L1 M1 l1 w h a1 a2 a3 a4 hg hn ho hs hf hj hk x hx
              · exact rchk_fgoj g1 A1 n1 c1 S1 m1 d1 j1 B1 o1 e1 k1 s1 v1 y1 t1 L1 M1 l1 w h a1 a2 a3 a4 hg hn ho hs hf hj hk x hx
            · exact rchk_fgof g1 A1 n1 c1 S1 m1 d1 j1 B1 o1 e1 k1 s1 v1 y1 t1 L1 M1 l1 w h a1 a2 a3 a4 hg hn ho hs hf hj x hx
          · exact rchk_fgon g1 A1 n1 c1 S1 m1 d1 j1 B1 o1 e1 k1 s1 v1 y1 t1 L1 M1 l1 w h a1 a2 a3 a4 hg hn ho hs hf x hx
        · exact rchk_ego g1 A1 n1 c1 S1 m1 d1 j1 B1 o1 e1 k1 s1 v1 y1 t1 L1 M1 l1 w h a1 a2 a3 a4 hg hn ho hs x hx
      · by_cases hm : checkF M1 = 0
        · by_cases hs : srcF l1 j1 = 0
          · rcases Bool.eq_false_or_eq_true (fitsW k1 s1 v1) with hf | hf
            · rcases Bool.eq_false_or_eq_true j1 with hj | hj
              · by_cases hk : k1 = 1
                · exact rchk_fgmk g1 A1 n1 c1 S1 m1 d1 j1 B1 o1 e1 k1 s1 v1 y1 t1 L1 M1 l1 w h a1 a2 a3 a4 hg hn ho hm hs hf hj hk x hx
                · exact rchk_fgmj g1 A1 n1 c1 S1 m1 d1 j1 B1 o1 e1 k1 s1 v1 y1 t1 L1 M1 l1 w h a1 a2 a3 a4 hg hn ho hm hs hf hj hk x hx
              · exact rchk_fgmf g1 A1 n1 c1 S1 m1 d1 j1 B1 o1 e1 k1 s1 v1 y1 t1 L1 M1 l1 w h a1 a2 a3 a4 hg hn ho hm hs hf hj x hx
            · exact rchk_fgmn g1 A1 n1 c1 S1 m1 d1 j1 B1 o1 e1 k1 s1 v1 y1 t1 L1 M1 l1 w h a1 a2 a3 a4 hg hn ho hm hs hf x hx
          · exact rchk_egm g1 A1 n1 c1 S1 m1 d1 j1 B1 o1 e1 k1 s1 v1 y1 t1 L1 M1 l1 w h a1 a2 a3 a4 hg hn ho hm hs x hx
        · exact rchk_dg g1 A1 n1 c1 S1 m1 d1 j1 B1 o1 e1 k1 s1 v1 y1 t1 L1 M1 l1 w h a1 a2 a3 a4 hg hn ho hm x hx
    · exact rchk_b1 g1 A1 n1 c1 S1 m1 d1 j1 B1 o1 e1 k1 s1 v1 y1 t1 L1 M1 l1 w h a1 a2 a3 a4 hg hn x hx
  · by_cases hv : checkF L1 = 0
    · by_cases ho : o1 = 0
      · by_cases hs : srcF l1 j1 = 0
        · rcases Bool.eq_false_or_eq_true (fitsW k1 s1 v1) with hf | hf
          · rcases Bool.eq_false_or_eq_true j1 with hj | hj
            · by_cases hk : k1 = 1
              · exact rchk_fcok g1 A1 n1 c1 S1 m1 d1 j1 B1 o1 e1 k1 s1 v1 y1 t1 L1 M1 l1 w h a1 a2 a3 a4 hg hv ho hs hf hj hk x hx
              · exact rchk_fcoj g1 A1 n1 c1 S1 m1 d1 j1 B1 o1 e1 k1 s1 v1 y1 t1 L1 M1 l1 w h a1 a2 a3 a4 hg hv ho hs hf hj hk x hx
            · exact rchk_fcof g1 A1 n1 c1 S1 m1 d1 j1 B1 o1 e1 k1 s1 v1 y1 t1 L1 M1 l1 w h a1 a2 a3 a4 hg hv ho hs hf hj x hx
          · exact rchk_fcon g1 A1 n1 c1 S1 m1 d1 j1 B1 o1 e1 k1 s1 v1 y1 t1 L1 M1 l1 w h a1 a2 a3 a4 hg hv ho hs hf x hx
        · exact rchk_eco g1 A1 n1 c1 S1 m1 d1 j1 B1 o1 e1 k1 s1 v1 y1 t1 L1 M1 l1 w h a1 a2 a3 a4 hg hv ho hs x hx
      · by_cases hm : checkF M1 = 0
        · by_cases hs : srcF l1 j1 = 0
          · rcases Bool.eq_false_or_eq_true (fitsW k1 s1 v1) with hf | hf
            · rcases Bool.eq_false_or_eq_true j1 with hj | hj
              · by_cases hk : k1 = 1
                · exact rchk_fcmk g1 A1 n1 c1 S1 m1 d1 j1 B1 o1 e1 k1 s1 v1 y1 t1 L1 M1 l1 w h a1 a2 a3 a4 hg hv ho hm hs hf hj hk x hx
                · exact rchk_fcmj g1 A1 n1 c1 S1 m1 d1 j1 B1 o1 e1 k1 s1 v1 y1 t1 L1 M1 l1 w h a1 a2 a3 a4 hg hv ho hm hs hf hj hk x hx
              · exact rchk_fcmf g1 A1 n1 c1 S1 m1 d1 j1 B1 o1 e1 k1 s1 v1 y1 t1 L1 M1 l1 w h a1 a2 a3 a4 hg hv ho hm hs hf hj x hx
            · exact rchk_fcmn g1 A1 n1 c1 S1 m1 d1 j1 B1 o1 e1 k1 s1 v1 y1 t1 L1 M1 l1 w h a1 a2 a3 a4 hg hv ho hm hs hf x hx
          · exact rchk_ecm g1 A1 n1 c1 S1 m1 d1 j1 B1 o1 e1 k1 s1 v1 y1 t1 L1 M1 l1 w h a1 a2 a3 a4 hg hv ho hm hs x hx
        · exact rchk_dc g1 A1 n1 c1 S1 m1 d1 j1 B1 o1 e1 k1 s1 v1 y1 t1 L1 M1 l1 w h a1 a2 a3 a4 hg hv ho hm x hx
    · exact rchk_b2 g1 A1 n1 c1 S1 m1 d1 j1 B1 o1 e1 k1 s1 v1 y1 t1 L1 M1 l1 w h a1 a2 a3 a4 hg hv x hx
end Go.Proofs.YtlmamidodahgmaaGreatDoor.Q8
