/- Merged: QSame2, QSame3. -/
import Derived.Test.YtlmamidodahgmaaGreatDoorQB
import Derived.Test.YtlmamidodahgmaaGreatDoorQE
import Derived.Test.YtlmamidodahgmaaGreatDoorQC
import Derived.Deep.RegionHeld3
import Derived.Outline
import Derived.Tactics2
import Derived.Deep.DeepCutAuto
import Derived.Deep.CutBlock
import Derived.Test.YtlmamidodahgmaaGreatDoorNB
/- QSame2: Same of queries, the reference's Same, Equal, Great. -/
namespace Go.Proofs.YtlmamidodahgmaaGreatDoor.Q8
open Go.ChangeShapes Go.WideShapes Go.ChangeAt Go.RowKit N4
set_option linter.unusedVariables false
set_option linter.unusedSimpArgs false
set_option maxRecDepth 100000

theorem arg_ok {q : Qy} {n : Nat} (h : chkF q = 0) (hn : q.L.length = n) : n = 0 ∨ checkF q.L = 0 := by
  have := ((chk_zero _).1 h).2.1
  unfold argE at this
  split at this
  · left
    rw [badE_zero, decide_eq_true_eq] at this
    omega
  · exact .inr this
theorem whr_ok {q : Qy} {n : Nat} (h : chkF q = 0) (hn : q.M.length = n) : n = 0 ∨ checkF q.M = 0 := by
  have := ((chk_zero _).1 h).2.2.1
  unfold whrE at this
  split at this
  · left; omega
  · exact .inr this
set_option maxHeartbeats 4000000 in
theorem csame_bad (g1 : Int) (A1 : Option Addr) (n1 c1 : Nat) (S1 : Option Addr) (m1 d1 : Nat) (j1 : Bool) (B1 : Option Addr) (o1 e1 : Nat) (k1 s1 v1 : Int) (y1 : Bool) (t1 : Int) (g2 : Int) (A2 : Option Addr) (n2 c2 : Nat) (S2 : Option Addr) (m2 d2 : Nat) (j2 : Bool) (B2 : Option Addr) (o2 e2 : Nat) (k2 s2 v2 : Int) (y2 : Bool) (t2 : Int) (L1 M1 : List Nd) (l1 : List Int) (L2 M2 : List Nd) (l2 : List Int) (w : World) (h : QA w A1 n1 S1 m1 B1 o1 L1 M1 l1) (h2 : QA w A2 n2 S2 m2 B2 o2 L2 M2 l2) (hs1 : s1 ≤ 9223372036854775807) (hs2 : s2 ≤ 9223372036854775807) (u1 u2 x : Int) (hu1 : chkF ⟨g1, L1, l1, j1, M1, k1, s1, v1, y1, t1⟩ = u1) (hu2 : chkF ⟨g2, L2, l2, j2, M2, k2, s2, v2, y2, t2⟩ = u2) (hx : firstE [u1, u2] = x) (h0 : x ≠ 0) :
    Calls Tryz.prog 12 #[.agg #[.int .u8 g1, .slice A1 n1 c1, .slice S1 m1 d1, .bool j1, .slice B1 o1 e1, .int .u8 k1, .int .i64 s1, .int .i64 v1, .bool y1, .int .u8 t1], .agg #[.int .u8 g2, .slice A2 n2 c2, .slice S2 m2 d2, .bool j2, .slice B2 o2 e2, .int .u8 k2, .int .i64 s2, .int .i64 v2, .bool y2, .int .u8 t2]] w fun e w' => e = .returned (.tuple #[.bool false, .int .i64 x]) ∧ Below w.heap.size w w' := by
  have HC1 := Lib.hid (fun W (hb : Bl w W) => chk_any g1 A1 n1 c1 S1 m1 d1 j1 B1 o1 e1 k1 s1 v1 y1 t1 L1 M1 l1 W (h.step hb) hs1 _ hu1)
  have HC2 := Lib.hid (fun W (hb : Bl w W) => chk_any g2 A2 n2 c2 S2 m2 d2 j2 B2 o2 e2 k2 s2 v2 y2 t2 L2 M2 l2 W (h2.step hb) hs2 _ hu2)
  have HO := Lib.hid (fun A W ht => or_any A 2 2 [u1, u2] W rfl (by decide) ht _ hx)
  have HS := Lib.hid (QX2.step (QX2.new w g1 A1 n1 c1 S1 m1 d1 j1 B1 o1 e1 k1 s1 v1 y1 t1 g2 A2 n2 c2 S2 m2 d2 j2 B2 o2 e2 k2 s2 v2 y2 t2 27) (bd_drewN _ 1))
  have i0 := errno_ne h0
  clear h h2 hs1 hs2 hu1 hu2 hx h0
  go_enter Tryz.func12, Tryz.ntmps12
  go_upto_region 1 with fail
  refine wp_region_pre (S := QX2 w w.heap.size (w.heap.size + 1) g1 A1 n1 c1 S1 m1 d1 j1 B1 o1 e1 k1 s1 v1 y1 t1 g2 A2 n2 c2 S2 m2 d2 j2 B2 o2 e2 k2 s2 v2 y2 t2) 3 (by kernel_rfl) HS.out ?_
  refine Pre.pure (i := 0) (d := 8) (v := ?v0) rfl rfl (by rfl) ?y0 ?z0
  case y0 => (intro w' hSw; (try unfold QX2 QX at hSw); go_split_ands; go_simp; try with_reducible rfl)
  try simp only [Act.put, List.setIfInBounds_toArray, List.set_cons_zero, List.set_cons_succ]
  refine Pre.call (i := 1) (d := 9) (v := .int .i64 (u1)) (f := ?f1) (args := ?a1) rfl rfl (by rfl) ?y1 ?c1 ?z1
  case y1 => (intro w' hSw; (try unfold QX2 QX at hSw); go_split_ands; go_simp; refine ⟨?_, ?_⟩ <;> with_reducible rfl)
  case c1 => (intro w' hSw; exact (HC1.out _ hSw.bl).mono (fun e w2 hh => ⟨hh.1, hSw.step hh.2⟩))
  try simp only [Act.put, List.setIfInBounds_toArray, List.set_cons_zero, List.set_cons_succ]
  refine Pre.pure (i := 2) (d := 10) (v := ?v2) rfl rfl (by rfl) ?y2 ?z2
  case y2 => (intro w' hSw; (try unfold QX2 QX at hSw); go_split_ands; go_simp; try with_reducible rfl)
  try simp only [Act.put, List.setIfInBounds_toArray, List.set_cons_zero, List.set_cons_succ]
  refine Pre.call (i := 3) (d := 11) (v := .int .i64 (u2)) (f := ?f3) (args := ?a3) rfl rfl (by rfl) ?y3 ?c3 ?z3
  case y3 => (intro w' hSw; (try unfold QX2 QX at hSw); go_split_ands; go_simp; refine ⟨?_, ?_⟩ <;> with_reducible rfl)
  case c3 => (intro w' hSw; exact (HC2.out _ hSw.bl).mono (fun e w2 hh => ⟨hh.1, hSw.step hh.2⟩))
  try simp only [Act.put, List.setIfInBounds_toArray, List.set_cons_zero, List.set_cons_succ]
  refine Pre.done (by kernel_rfl) (by kernel_rfl) ?_
  intro W hS
  refine wpAnyH_ready (rs := [4]) (by kernel_rfl) (by simp) ?_
  refine AllReadyH.cons rfl (fun K hK => ?_) AllReadyH.nil
  go_simp
  have HL := Lib.hid (lies_vals W _ rfl #[.int .i64 (u1), .int .i64 (u2)] 34 (iC [u1, u2]) rfl)
  refine hK.out _ _ (hS.step ((Below.refl _ _).alloc (Nat.le_refl _) _)) (fun hS1 => ?_)
  clear hK K
  try simp only [Act.put, List.setIfInBounds_toArray, List.set_cons_zero, List.set_cons_succ]
  refine wpAnyH_ready (rs := [5]) (by kernel_rfl) (by simp) ?_
  refine AllReadyH.cons rfl (fun K hK => ?_) AllReadyH.nil
  go_simp
  (go_at_call 32; refine (HO.out _ _ HL.out).mono ?_; rintro e w3 ⟨rfl, rfl⟩)
  refine hK.out _ _ hS1 (fun hS2 => ?_)
  clear hK K
  try simp only [Act.put, List.setIfInBounds_toArray, List.set_cons_zero, List.set_cons_succ]
  refine wpAnyH_ready (rs := [6]) (by kernel_rfl) (by simp) ?_
  refine AllReadyH.cons rfl (fun K hK => ?_) AllReadyH.nil
  go_simp
  refine hK.out _ _ hS2 (fun b0 => ?_)
  clear hK K
  try simp only [Act.put, List.setIfInBounds_toArray, List.set_cons_zero, List.set_cons_succ]
  refine wpAnyH_done (by kernel_rfl) ?_ _
  clear hS1 hS2 HS
  go_wp2
  go_ret2
  exact ⟨rfl, b0.bl⟩
set_option maxHeartbeats 4000000 in
theorem csame_0 (g1 : Int) (A1 : Option Addr) (n1 c1 : Nat) (S1 : Option Addr) (m1 d1 : Nat) (j1 : Bool) (B1 : Option Addr) (o1 e1 : Nat) (k1 s1 v1 : Int) (y1 : Bool) (t1 : Int) (g2 : Int) (A2 : Option Addr) (n2 c2 : Nat) (S2 : Option Addr) (m2 d2 : Nat) (j2 : Bool) (B2 : Option Addr) (o2 e2 : Nat) (k2 s2 v2 : Int) (y2 : Bool) (t2 : Int) (L1 M1 : List Nd) (l1 : List Int) (L2 M2 : List Nd) (l2 : List Int) (w : World) (h : QA w A1 n1 S1 m1 B1 o1 L1 M1 l1) (h2 : QA w A2 n2 S2 m2 B2 o2 L2 M2 l2) (hs1 : s1 ≤ 9223372036854775807) (hs2 : s2 ≤ 9223372036854775807) (z1 : n1 ≤ 70) (z2 : n2 ≤ 70) (z3 : o1 ≤ 70) (z4 : o2 ≤ 70) (z5 : m1 ≤ 10) (z6 : m2 ≤ 10) (hu1 : chkF ⟨g1, L1, l1, j1, M1, k1, s1, v1, y1, t1⟩ = 0) (hu2 : chkF ⟨g2, L2, l2, j2, M2, k2, s2, v2, y2, t2⟩ = 0)  (cc0 : g1 ≠ g2) :
    Calls Tryz.prog 12 #[.agg #[.int .u8 g1, .slice A1 n1 c1, .slice S1 m1 d1, .bool j1, .slice B1 o1 e1, .int .u8 k1, .int .i64 s1, .int .i64 v1, .bool y1, .int .u8 t1], .agg #[.int .u8 g2, .slice A2 n2 c2, .slice S2 m2 d2, .bool j2, .slice B2 o2 e2, .int .u8 k2, .int .i64 s2, .int .i64 v2, .bool y2, .int .u8 t2]] w fun e w' => e = .returned (.tuple #[.bool false, .int .i64 0]) ∧ Below w.heap.size w w' := by
  have hx : firstE [0, 0] = 0 := rfl
  have HC1 := Lib.hid (fun W (hb : Bl w W) => chk_any g1 A1 n1 c1 S1 m1 d1 j1 B1 o1 e1 k1 s1 v1 y1 t1 L1 M1 l1 W (h.step hb) hs1 _ hu1)
  have HC2 := Lib.hid (fun W (hb : Bl w W) => chk_any g2 A2 n2 c2 S2 m2 d2 j2 B2 o2 e2 k2 s2 v2 y2 t2 L2 M2 l2 W (h2.step hb) hs2 _ hu2)
  have HO := Lib.hid (fun A W ht => or_any A 2 2 [0, 0] W rfl (by decide) ht _ hx)
  have HS := Lib.hid (QX2.step (QX2.new w g1 A1 n1 c1 S1 m1 d1 j1 B1 o1 e1 k1 s1 v1 y1 t1 g2 A2 n2 c2 S2 m2 d2 j2 B2 o2 e2 k2 s2 v2 y2 t2 27) (bd_drewN _ 1))
  clear h h2 hs1 hs2 hu1 hu2 hx z1 z2 z3 z4 z5 z6
  have i0 : (g1 == g2) = false := by simpa using cc0
  clear cc0
  go_enter Tryz.func12, Tryz.ntmps12
  go_upto_region 1 with fail
  refine wp_region_pre (S := QX2 w w.heap.size (w.heap.size + 1) g1 A1 n1 c1 S1 m1 d1 j1 B1 o1 e1 k1 s1 v1 y1 t1 g2 A2 n2 c2 S2 m2 d2 j2 B2 o2 e2 k2 s2 v2 y2 t2) 3 (by kernel_rfl) HS.out ?_
  refine Pre.pure (i := 0) (d := 8) (v := ?v0) rfl rfl (by rfl) ?y0 ?z0
  case y0 => (intro w' hSw; (try unfold QX2 QX at hSw); go_split_ands; go_simp; try with_reducible rfl)
  try simp only [Act.put, List.setIfInBounds_toArray, List.set_cons_zero, List.set_cons_succ]
  refine Pre.call (i := 1) (d := 9) (v := .int .i64 (0)) (f := ?f1) (args := ?a1) rfl rfl (by rfl) ?y1 ?c1 ?z1
  case y1 => (intro w' hSw; (try unfold QX2 QX at hSw); go_split_ands; go_simp; refine ⟨?_, ?_⟩ <;> with_reducible rfl)
  case c1 => (intro w' hSw; exact (HC1.out _ hSw.bl).mono (fun e w2 hh => ⟨hh.1, hSw.step hh.2⟩))
  try simp only [Act.put, List.setIfInBounds_toArray, List.set_cons_zero, List.set_cons_succ]
  refine Pre.pure (i := 2) (d := 10) (v := ?v2) rfl rfl (by rfl) ?y2 ?z2
  case y2 => (intro w' hSw; (try unfold QX2 QX at hSw); go_split_ands; go_simp; try with_reducible rfl)
  try simp only [Act.put, List.setIfInBounds_toArray, List.set_cons_zero, List.set_cons_succ]
  refine Pre.call (i := 3) (d := 11) (v := .int .i64 (0)) (f := ?f3) (args := ?a3) rfl rfl (by rfl) ?y3 ?c3 ?z3
  case y3 => (intro w' hSw; (try unfold QX2 QX at hSw); go_split_ands; go_simp; refine ⟨?_, ?_⟩ <;> with_reducible rfl)
  case c3 => (intro w' hSw; exact (HC2.out _ hSw.bl).mono (fun e w2 hh => ⟨hh.1, hSw.step hh.2⟩))
  try simp only [Act.put, List.setIfInBounds_toArray, List.set_cons_zero, List.set_cons_succ]
  refine Pre.done (by kernel_rfl) (by kernel_rfl) ?_
  intro W hS
  refine wpAnyH_ready (rs := [4]) (by kernel_rfl) (by simp) ?_
  refine AllReadyH.cons rfl (fun K hK => ?_) AllReadyH.nil
  go_simp
  have HL := Lib.hid (lies_vals W _ rfl #[.int .i64 (0), .int .i64 (0)] 34 (iC [0, 0]) rfl)
  refine hK.out _ _ (hS.step ((Below.refl _ _).alloc (Nat.le_refl _) _)) (fun hS1 => ?_)
  clear hK K
  try simp only [Act.put, List.setIfInBounds_toArray, List.set_cons_zero, List.set_cons_succ]
  refine wpAnyH_ready (rs := [5]) (by kernel_rfl) (by simp) ?_
  refine AllReadyH.cons rfl (fun K hK => ?_) AllReadyH.nil
  go_simp
  (go_at_call 32; refine (HO.out _ _ HL.out).mono ?_; rintro e w3 ⟨rfl, rfl⟩)
  refine hK.out _ _ hS1 (fun hS2 => ?_)
  clear hK K
  try simp only [Act.put, List.setIfInBounds_toArray, List.set_cons_zero, List.set_cons_succ]
  refine wpAnyH_ready (rs := [6]) (by kernel_rfl) (by simp) ?_
  refine AllReadyH.cons rfl (fun K hK => ?_) AllReadyH.nil
  go_simp
  refine hK.out _ _ hS2 (fun b0 => ?_)
  clear hK K
  try simp only [Act.put, List.setIfInBounds_toArray, List.set_cons_zero, List.set_cons_succ]
  refine wpAnyH_done (by kernel_rfl) ?_ _
  clear hS1 hS2 HS
  obtain ⟨y0, y00, y01, y02, y03, y04, y05, y06, y07, y08, y09⟩ := hS.1.cells; obtain ⟨z0, z00, z01, z02, z03, z04, z05, z06, z07, z08, z09⟩ := hS.2.cells
  go_wp2
  go_ret2
  exact ⟨rfl, b0.bl⟩
set_option maxHeartbeats 4000000 in
theorem csame_1 (g1 : Int) (A1 : Option Addr) (n1 c1 : Nat) (S1 : Option Addr) (m1 d1 : Nat) (j1 : Bool) (B1 : Option Addr) (o1 e1 : Nat) (k1 s1 v1 : Int) (y1 : Bool) (t1 : Int) (g2 : Int) (A2 : Option Addr) (n2 c2 : Nat) (S2 : Option Addr) (m2 d2 : Nat) (j2 : Bool) (B2 : Option Addr) (o2 e2 : Nat) (k2 s2 v2 : Int) (y2 : Bool) (t2 : Int) (L1 M1 : List Nd) (l1 : List Int) (L2 M2 : List Nd) (l2 : List Int) (w : World) (h : QA w A1 n1 S1 m1 B1 o1 L1 M1 l1) (h2 : QA w A2 n2 S2 m2 B2 o2 L2 M2 l2) (hs1 : s1 ≤ 9223372036854775807) (hs2 : s2 ≤ 9223372036854775807) (z1 : n1 ≤ 70) (z2 : n2 ≤ 70) (z3 : o1 ≤ 70) (z4 : o2 ≤ 70) (z5 : m1 ≤ 10) (z6 : m2 ≤ 10) (hu1 : chkF ⟨g1, L1, l1, j1, M1, k1, s1, v1, y1, t1⟩ = 0) (hu2 : chkF ⟨g2, L2, l2, j2, M2, k2, s2, v2, y2, t2⟩ = 0) (cc0 : g1 = g2) (cc1 : alikeF L1 L2 = false) :
    Calls Tryz.prog 12 #[.agg #[.int .u8 g1, .slice A1 n1 c1, .slice S1 m1 d1, .bool j1, .slice B1 o1 e1, .int .u8 k1, .int .i64 s1, .int .i64 v1, .bool y1, .int .u8 t1], .agg #[.int .u8 g2, .slice A2 n2 c2, .slice S2 m2 d2, .bool j2, .slice B2 o2 e2, .int .u8 k2, .int .i64 s2, .int .i64 v2, .bool y2, .int .u8 t2]] w fun e w' => e = .returned (.tuple #[.bool false, .int .i64 0]) ∧ Below w.heap.size w w' := by
  have hx : firstE [0, 0] = 0 := rfl
  have HC1 := Lib.hid (fun W (hb : Bl w W) => chk_any g1 A1 n1 c1 S1 m1 d1 j1 B1 o1 e1 k1 s1 v1 y1 t1 L1 M1 l1 W (h.step hb) hs1 _ hu1)
  have HC2 := Lib.hid (fun W (hb : Bl w W) => chk_any g2 A2 n2 c2 S2 m2 d2 j2 B2 o2 e2 k2 s2 v2 y2 t2 L2 M2 l2 W (h2.step hb) hs2 _ hu2)
  have HO := Lib.hid (fun A W ht => or_any A 2 2 [0, 0] W rfl (by decide) ht _ hx)
  have HS := Lib.hid (QX2.step (QX2.new w g1 A1 n1 c1 S1 m1 d1 j1 B1 o1 e1 k1 s1 v1 y1 t1 g2 A2 n2 c2 S2 m2 d2 j2 B2 o2 e2 k2 s2 v2 y2 t2 27) (bd_drewN _ 1))
  have HA := Lib.hid (fun W (hb : Bl w W) => alike_p A1 A2 n1 n2 c1 c2 L1 L2 W h.1.2.1 h2.1.2.1 (hb.lies h.1.1) (hb.lies h2.1.1) ⟨arg_ok hu1 h.1.2.1, arg_ok hu2 h2.1.2.1⟩ _ cc1)
  clear h h2 hs1 hs2 hu1 hu2 hx z1 z2 z3 z4 z5 z6
  clear cc1
  obtain rfl := cc0
  go_enter Tryz.func12, Tryz.ntmps12
  go_upto_region 1 with fail
  refine wp_region_pre (S := QX2 w w.heap.size (w.heap.size + 1) g1 A1 n1 c1 S1 m1 d1 j1 B1 o1 e1 k1 s1 v1 y1 t1 g1 A2 n2 c2 S2 m2 d2 j2 B2 o2 e2 k2 s2 v2 y2 t2) 3 (by kernel_rfl) HS.out ?_
  refine Pre.pure (i := 0) (d := 8) (v := ?v0) rfl rfl (by rfl) ?y0 ?z0
  case y0 => (intro w' hSw; (try unfold QX2 QX at hSw); go_split_ands; go_simp; try with_reducible rfl)
  try simp only [Act.put, List.setIfInBounds_toArray, List.set_cons_zero, List.set_cons_succ]
  refine Pre.call (i := 1) (d := 9) (v := .int .i64 (0)) (f := ?f1) (args := ?a1) rfl rfl (by rfl) ?y1 ?c1 ?z1
  case y1 => (intro w' hSw; (try unfold QX2 QX at hSw); go_split_ands; go_simp; refine ⟨?_, ?_⟩ <;> with_reducible rfl)
  case c1 => (intro w' hSw; exact (HC1.out _ hSw.bl).mono (fun e w2 hh => ⟨hh.1, hSw.step hh.2⟩))
  try simp only [Act.put, List.setIfInBounds_toArray, List.set_cons_zero, List.set_cons_succ]
  refine Pre.pure (i := 2) (d := 10) (v := ?v2) rfl rfl (by rfl) ?y2 ?z2
  case y2 => (intro w' hSw; (try unfold QX2 QX at hSw); go_split_ands; go_simp; try with_reducible rfl)
  try simp only [Act.put, List.setIfInBounds_toArray, List.set_cons_zero, List.set_cons_succ]
  refine Pre.call (i := 3) (d := 11) (v := .int .i64 (0)) (f := ?f3) (args := ?a3) rfl rfl (by rfl) ?y3 ?c3 ?z3
  case y3 => (intro w' hSw; (try unfold QX2 QX at hSw); go_split_ands; go_simp; refine ⟨?_, ?_⟩ <;> with_reducible rfl)
  case c3 => (intro w' hSw; exact (HC2.out _ hSw.bl).mono (fun e w2 hh => ⟨hh.1, hSw.step hh.2⟩))
  try simp only [Act.put, List.setIfInBounds_toArray, List.set_cons_zero, List.set_cons_succ]
  refine Pre.done (by kernel_rfl) (by kernel_rfl) ?_
  intro W hS
  refine wpAnyH_ready (rs := [4]) (by kernel_rfl) (by simp) ?_
  refine AllReadyH.cons rfl (fun K hK => ?_) AllReadyH.nil
  go_simp
  have HL := Lib.hid (lies_vals W _ rfl #[.int .i64 (0), .int .i64 (0)] 34 (iC [0, 0]) rfl)
  refine hK.out _ _ (hS.step ((Below.refl _ _).alloc (Nat.le_refl _) _)) (fun hS1 => ?_)
  clear hK K
  try simp only [Act.put, List.setIfInBounds_toArray, List.set_cons_zero, List.set_cons_succ]
  refine wpAnyH_ready (rs := [5]) (by kernel_rfl) (by simp) ?_
  refine AllReadyH.cons rfl (fun K hK => ?_) AllReadyH.nil
  go_simp
  (go_at_call 32; refine (HO.out _ _ HL.out).mono ?_; rintro e w3 ⟨rfl, rfl⟩)
  refine hK.out _ _ hS1 (fun hS2 => ?_)
  clear hK K
  try simp only [Act.put, List.setIfInBounds_toArray, List.set_cons_zero, List.set_cons_succ]
  refine wpAnyH_ready (rs := [6]) (by kernel_rfl) (by simp) ?_
  refine AllReadyH.cons rfl (fun K hK => ?_) AllReadyH.nil
  go_simp
  refine hK.out _ _ hS2 (fun b0 => ?_)
  clear hK K
  try simp only [Act.put, List.setIfInBounds_toArray, List.set_cons_zero, List.set_cons_succ]
  refine wpAnyH_done (by kernel_rfl) ?_ _
  clear hS1 hS2 HS
  obtain ⟨y0, y00, y01, y02, y03, y04, y05, y06, y07, y08, y09⟩ := hS.1.cells; obtain ⟨z0, z00, z01, z02, z03, z04, z05, z06, z07, z08, z09⟩ := hS.2.cells
  go_wp2_with (first
    | (go_at_call 34; ((with_reducible refine (HA.out _ b0.bl).mono ?_); rintro e w1 ⟨rfl, hb⟩; have b1 := b0.step hb; clear hb b0; obtain ⟨y1, y10, y11, y12, y13, y14, y15, y16, y17, y18, y19⟩ := b1.1.cells; obtain ⟨z1, z10, z11, z12, z13, z14, z15, z16, z17, z18, z19⟩ := b1.2.cells)))
  go_ret2
  exact ⟨rfl, b1.bl⟩
set_option maxHeartbeats 4000000 in
theorem csame_2 (g1 : Int) (A1 : Option Addr) (n1 c1 : Nat) (S1 : Option Addr) (m1 d1 : Nat) (j1 : Bool) (B1 : Option Addr) (o1 e1 : Nat) (k1 s1 v1 : Int) (y1 : Bool) (t1 : Int) (g2 : Int) (A2 : Option Addr) (n2 c2 : Nat) (S2 : Option Addr) (m2 d2 : Nat) (j2 : Bool) (B2 : Option Addr) (o2 e2 : Nat) (k2 s2 v2 : Int) (y2 : Bool) (t2 : Int) (L1 M1 : List Nd) (l1 : List Int) (L2 M2 : List Nd) (l2 : List Int) (w : World) (h : QA w A1 n1 S1 m1 B1 o1 L1 M1 l1) (h2 : QA w A2 n2 S2 m2 B2 o2 L2 M2 l2) (hs1 : s1 ≤ 9223372036854775807) (hs2 : s2 ≤ 9223372036854775807) (z1 : n1 ≤ 70) (z2 : n2 ≤ 70) (z3 : o1 ≤ 70) (z4 : o2 ≤ 70) (z5 : m1 ≤ 10) (z6 : m2 ≤ 10) (hu1 : chkF ⟨g1, L1, l1, j1, M1, k1, s1, v1, y1, t1⟩ = 0) (hu2 : chkF ⟨g2, L2, l2, j2, M2, k2, s2, v2, y2, t2⟩ = 0) (cc0 : g1 = g2) (cc1 : alikeF L1 L2 = true) (cc2 : l1 ≠ l2) :
    Calls Tryz.prog 12 #[.agg #[.int .u8 g1, .slice A1 n1 c1, .slice S1 m1 d1, .bool j1, .slice B1 o1 e1, .int .u8 k1, .int .i64 s1, .int .i64 v1, .bool y1, .int .u8 t1], .agg #[.int .u8 g2, .slice A2 n2 c2, .slice S2 m2 d2, .bool j2, .slice B2 o2 e2, .int .u8 k2, .int .i64 s2, .int .i64 v2, .bool y2, .int .u8 t2]] w fun e w' => e = .returned (.tuple #[.bool false, .int .i64 0]) ∧ Below w.heap.size w w' := by
  have hx : firstE [0, 0] = 0 := rfl
  have HC1 := Lib.hid (fun W (hb : Bl w W) => chk_any g1 A1 n1 c1 S1 m1 d1 j1 B1 o1 e1 k1 s1 v1 y1 t1 L1 M1 l1 W (h.step hb) hs1 _ hu1)
  have HC2 := Lib.hid (fun W (hb : Bl w W) => chk_any g2 A2 n2 c2 S2 m2 d2 j2 B2 o2 e2 k2 s2 v2 y2 t2 L2 M2 l2 W (h2.step hb) hs2 _ hu2)
  have HO := Lib.hid (fun A W ht => or_any A 2 2 [0, 0] W rfl (by decide) ht _ hx)
  have HS := Lib.hid (QX2.step (QX2.new w g1 A1 n1 c1 S1 m1 d1 j1 B1 o1 e1 k1 s1 v1 y1 t1 g2 A2 n2 c2 S2 m2 d2 j2 B2 o2 e2 k2 s2 v2 y2 t2 27) (bd_drewN _ 1))
  have HA := Lib.hid (fun W (hb : Bl w W) => alike_p A1 A2 n1 n2 c1 c2 L1 L2 W h.1.2.1 h2.1.2.1 (hb.lies h.1.1) (hb.lies h2.1.1) ⟨arg_ok hu1 h.1.2.1, arg_ok hu2 h2.1.2.1⟩ _ cc1)
  have HE := Lib.hid (fun W (hb : Bl w W) => eqint_any S1 S2 m1 m2 d1 d2 l1 l2 W h.2.1.2 h2.2.1.2 (by omega) (by omega) (hb.lies h.2.1.1) (hb.lies h2.2.1.1) false (decide_eq_false cc2))
  clear h h2 hs1 hs2 hu1 hu2 hx z1 z2 z3 z4 z5 z6
  clear cc1 cc2
  obtain rfl := cc0
  go_enter Tryz.func12, Tryz.ntmps12
  go_upto_region 1 with fail
  refine wp_region_pre (S := QX2 w w.heap.size (w.heap.size + 1) g1 A1 n1 c1 S1 m1 d1 j1 B1 o1 e1 k1 s1 v1 y1 t1 g1 A2 n2 c2 S2 m2 d2 j2 B2 o2 e2 k2 s2 v2 y2 t2) 3 (by kernel_rfl) HS.out ?_
  refine Pre.pure (i := 0) (d := 8) (v := ?v0) rfl rfl (by rfl) ?y0 ?z0
  case y0 => (intro w' hSw; (try unfold QX2 QX at hSw); go_split_ands; go_simp; try with_reducible rfl)
  try simp only [Act.put, List.setIfInBounds_toArray, List.set_cons_zero, List.set_cons_succ]
  refine Pre.call (i := 1) (d := 9) (v := .int .i64 (0)) (f := ?f1) (args := ?a1) rfl rfl (by rfl) ?y1 ?c1 ?z1
  case y1 => (intro w' hSw; (try unfold QX2 QX at hSw); go_split_ands; go_simp; refine ⟨?_, ?_⟩ <;> with_reducible rfl)
  case c1 => (intro w' hSw; exact (HC1.out _ hSw.bl).mono (fun e w2 hh => ⟨hh.1, hSw.step hh.2⟩))
  try simp only [Act.put, List.setIfInBounds_toArray, List.set_cons_zero, List.set_cons_succ]
  refine Pre.pure (i := 2) (d := 10) (v := ?v2) rfl rfl (by rfl) ?y2 ?z2
  case y2 => (intro w' hSw; (try unfold QX2 QX at hSw); go_split_ands; go_simp; try with_reducible rfl)
  try simp only [Act.put, List.setIfInBounds_toArray, List.set_cons_zero, List.set_cons_succ]
  refine Pre.call (i := 3) (d := 11) (v := .int .i64 (0)) (f := ?f3) (args := ?a3) rfl rfl (by rfl) ?y3 ?c3 ?z3
  case y3 => (intro w' hSw; (try unfold QX2 QX at hSw); go_split_ands; go_simp; refine ⟨?_, ?_⟩ <;> with_reducible rfl)
  case c3 => (intro w' hSw; exact (HC2.out _ hSw.bl).mono (fun e w2 hh => ⟨hh.1, hSw.step hh.2⟩))
  try simp only [Act.put, List.setIfInBounds_toArray, List.set_cons_zero, List.set_cons_succ]
  refine Pre.done (by kernel_rfl) (by kernel_rfl) ?_
  intro W hS
  refine wpAnyH_ready (rs := [4]) (by kernel_rfl) (by simp) ?_
  refine AllReadyH.cons rfl (fun K hK => ?_) AllReadyH.nil
  go_simp
  have HL := Lib.hid (lies_vals W _ rfl #[.int .i64 (0), .int .i64 (0)] 34 (iC [0, 0]) rfl)
  refine hK.out _ _ (hS.step ((Below.refl _ _).alloc (Nat.le_refl _) _)) (fun hS1 => ?_)
  clear hK K
  try simp only [Act.put, List.setIfInBounds_toArray, List.set_cons_zero, List.set_cons_succ]
  refine wpAnyH_ready (rs := [5]) (by kernel_rfl) (by simp) ?_
  refine AllReadyH.cons rfl (fun K hK => ?_) AllReadyH.nil
  go_simp
  (go_at_call 32; refine (HO.out _ _ HL.out).mono ?_; rintro e w3 ⟨rfl, rfl⟩)
  refine hK.out _ _ hS1 (fun hS2 => ?_)
  clear hK K
  try simp only [Act.put, List.setIfInBounds_toArray, List.set_cons_zero, List.set_cons_succ]
  refine wpAnyH_ready (rs := [6]) (by kernel_rfl) (by simp) ?_
  refine AllReadyH.cons rfl (fun K hK => ?_) AllReadyH.nil
  go_simp
  refine hK.out _ _ hS2 (fun b0 => ?_)
  clear hK K
  try simp only [Act.put, List.setIfInBounds_toArray, List.set_cons_zero, List.set_cons_succ]
  refine wpAnyH_done (by kernel_rfl) ?_ _
  clear hS1 hS2 HS
  obtain ⟨y0, y00, y01, y02, y03, y04, y05, y06, y07, y08, y09⟩ := hS.1.cells; obtain ⟨z0, z00, z01, z02, z03, z04, z05, z06, z07, z08, z09⟩ := hS.2.cells
  go_wp2_with (first
    | (go_at_call 34; ((with_reducible refine (HA.out _ b0.bl).mono ?_); rintro e w1 ⟨rfl, hb⟩; have b1 := b0.step hb; clear hb b0; obtain ⟨y1, y10, y11, y12, y13, y14, y15, y16, y17, y18, y19⟩ := b1.1.cells; obtain ⟨z1, z10, z11, z12, z13, z14, z15, z16, z17, z18, z19⟩ := b1.2.cells))
    | (go_at_call 35; ((with_reducible refine (HE.out _ b1.bl).mono ?_); rintro e w2 ⟨rfl, hb⟩; have b2 := b1.step hb; clear hb b1; obtain ⟨y2, y20, y21, y22, y23, y24, y25, y26, y27, y28, y29⟩ := b2.1.cells; obtain ⟨z2, z20, z21, z22, z23, z24, z25, z26, z27, z28, z29⟩ := b2.2.cells)))
  go_ret2
  exact ⟨rfl, b2.bl⟩
set_option maxHeartbeats 4000000 in
theorem csame_3 (g1 : Int) (A1 : Option Addr) (n1 c1 : Nat) (S1 : Option Addr) (m1 d1 : Nat) (j1 : Bool) (B1 : Option Addr) (o1 e1 : Nat) (k1 s1 v1 : Int) (y1 : Bool) (t1 : Int) (g2 : Int) (A2 : Option Addr) (n2 c2 : Nat) (S2 : Option Addr) (m2 d2 : Nat) (j2 : Bool) (B2 : Option Addr) (o2 e2 : Nat) (k2 s2 v2 : Int) (y2 : Bool) (t2 : Int) (L1 M1 : List Nd) (l1 : List Int) (L2 M2 : List Nd) (l2 : List Int) (w : World) (h : QA w A1 n1 S1 m1 B1 o1 L1 M1 l1) (h2 : QA w A2 n2 S2 m2 B2 o2 L2 M2 l2) (hs1 : s1 ≤ 9223372036854775807) (hs2 : s2 ≤ 9223372036854775807) (z1 : n1 ≤ 70) (z2 : n2 ≤ 70) (z3 : o1 ≤ 70) (z4 : o2 ≤ 70) (z5 : m1 ≤ 10) (z6 : m2 ≤ 10) (hu1 : chkF ⟨g1, L1, l1, j1, M1, k1, s1, v1, y1, t1⟩ = 0) (hu2 : chkF ⟨g2, L2, l2, j2, M2, k2, s2, v2, y2, t2⟩ = 0) (cc0 : g1 = g2) (cc1 : alikeF L1 L2 = true) (cc2 : l1 = l2) (cc3 : j1 ≠ j2) :
    Calls Tryz.prog 12 #[.agg #[.int .u8 g1, .slice A1 n1 c1, .slice S1 m1 d1, .bool j1, .slice B1 o1 e1, .int .u8 k1, .int .i64 s1, .int .i64 v1, .bool y1, .int .u8 t1], .agg #[.int .u8 g2, .slice A2 n2 c2, .slice S2 m2 d2, .bool j2, .slice B2 o2 e2, .int .u8 k2, .int .i64 s2, .int .i64 v2, .bool y2, .int .u8 t2]] w fun e w' => e = .returned (.tuple #[.bool false, .int .i64 0]) ∧ Below w.heap.size w w' := by
  have hx : firstE [0, 0] = 0 := rfl
  have HC1 := Lib.hid (fun W (hb : Bl w W) => chk_any g1 A1 n1 c1 S1 m1 d1 j1 B1 o1 e1 k1 s1 v1 y1 t1 L1 M1 l1 W (h.step hb) hs1 _ hu1)
  have HC2 := Lib.hid (fun W (hb : Bl w W) => chk_any g2 A2 n2 c2 S2 m2 d2 j2 B2 o2 e2 k2 s2 v2 y2 t2 L2 M2 l2 W (h2.step hb) hs2 _ hu2)
  have HO := Lib.hid (fun A W ht => or_any A 2 2 [0, 0] W rfl (by decide) ht _ hx)
  have HS := Lib.hid (QX2.step (QX2.new w g1 A1 n1 c1 S1 m1 d1 j1 B1 o1 e1 k1 s1 v1 y1 t1 g2 A2 n2 c2 S2 m2 d2 j2 B2 o2 e2 k2 s2 v2 y2 t2 27) (bd_drewN _ 1))
  have HA := Lib.hid (fun W (hb : Bl w W) => alike_p A1 A2 n1 n2 c1 c2 L1 L2 W h.1.2.1 h2.1.2.1 (hb.lies h.1.1) (hb.lies h2.1.1) ⟨arg_ok hu1 h.1.2.1, arg_ok hu2 h2.1.2.1⟩ _ cc1)
  have HE := Lib.hid (fun W (hb : Bl w W) => eqint_any S1 S2 m1 m2 d1 d2 l1 l2 W h.2.1.2 h2.2.1.2 (by omega) (by omega) (hb.lies h.2.1.1) (hb.lies h2.2.1.1) true (decide_eq_true cc2))
  clear h h2 hs1 hs2 hu1 hu2 hx z1 z2 z3 z4 z5 z6
  clear cc1 cc2
  obtain rfl := cc0
  have i3 : (j1 == j2) = false := by simpa using cc3
  clear cc3
  go_enter Tryz.func12, Tryz.ntmps12
  go_upto_region 1 with fail
  refine wp_region_pre (S := QX2 w w.heap.size (w.heap.size + 1) g1 A1 n1 c1 S1 m1 d1 j1 B1 o1 e1 k1 s1 v1 y1 t1 g1 A2 n2 c2 S2 m2 d2 j2 B2 o2 e2 k2 s2 v2 y2 t2) 3 (by kernel_rfl) HS.out ?_
  refine Pre.pure (i := 0) (d := 8) (v := ?v0) rfl rfl (by rfl) ?y0 ?z0
  case y0 => (intro w' hSw; (try unfold QX2 QX at hSw); go_split_ands; go_simp; try with_reducible rfl)
  try simp only [Act.put, List.setIfInBounds_toArray, List.set_cons_zero, List.set_cons_succ]
  refine Pre.call (i := 1) (d := 9) (v := .int .i64 (0)) (f := ?f1) (args := ?a1) rfl rfl (by rfl) ?y1 ?c1 ?z1
  case y1 => (intro w' hSw; (try unfold QX2 QX at hSw); go_split_ands; go_simp; refine ⟨?_, ?_⟩ <;> with_reducible rfl)
  case c1 => (intro w' hSw; exact (HC1.out _ hSw.bl).mono (fun e w2 hh => ⟨hh.1, hSw.step hh.2⟩))
  try simp only [Act.put, List.setIfInBounds_toArray, List.set_cons_zero, List.set_cons_succ]
  refine Pre.pure (i := 2) (d := 10) (v := ?v2) rfl rfl (by rfl) ?y2 ?z2
  case y2 => (intro w' hSw; (try unfold QX2 QX at hSw); go_split_ands; go_simp; try with_reducible rfl)
  try simp only [Act.put, List.setIfInBounds_toArray, List.set_cons_zero, List.set_cons_succ]
  refine Pre.call (i := 3) (d := 11) (v := .int .i64 (0)) (f := ?f3) (args := ?a3) rfl rfl (by rfl) ?y3 ?c3 ?z3
  case y3 => (intro w' hSw; (try unfold QX2 QX at hSw); go_split_ands; go_simp; refine ⟨?_, ?_⟩ <;> with_reducible rfl)
  case c3 => (intro w' hSw; exact (HC2.out _ hSw.bl).mono (fun e w2 hh => ⟨hh.1, hSw.step hh.2⟩))
  try simp only [Act.put, List.setIfInBounds_toArray, List.set_cons_zero, List.set_cons_succ]
  refine Pre.done (by kernel_rfl) (by kernel_rfl) ?_
  intro W hS
  refine wpAnyH_ready (rs := [4]) (by kernel_rfl) (by simp) ?_
  refine AllReadyH.cons rfl (fun K hK => ?_) AllReadyH.nil
  go_simp
  have HL := Lib.hid (lies_vals W _ rfl #[.int .i64 (0), .int .i64 (0)] 34 (iC [0, 0]) rfl)
  refine hK.out _ _ (hS.step ((Below.refl _ _).alloc (Nat.le_refl _) _)) (fun hS1 => ?_)
  clear hK K
  try simp only [Act.put, List.setIfInBounds_toArray, List.set_cons_zero, List.set_cons_succ]
  refine wpAnyH_ready (rs := [5]) (by kernel_rfl) (by simp) ?_
  refine AllReadyH.cons rfl (fun K hK => ?_) AllReadyH.nil
  go_simp
  (go_at_call 32; refine (HO.out _ _ HL.out).mono ?_; rintro e w3 ⟨rfl, rfl⟩)
  refine hK.out _ _ hS1 (fun hS2 => ?_)
  clear hK K
  try simp only [Act.put, List.setIfInBounds_toArray, List.set_cons_zero, List.set_cons_succ]
  refine wpAnyH_ready (rs := [6]) (by kernel_rfl) (by simp) ?_
  refine AllReadyH.cons rfl (fun K hK => ?_) AllReadyH.nil
  go_simp
  refine hK.out _ _ hS2 (fun b0 => ?_)
  clear hK K
  try simp only [Act.put, List.setIfInBounds_toArray, List.set_cons_zero, List.set_cons_succ]
  refine wpAnyH_done (by kernel_rfl) ?_ _
  clear hS1 hS2 HS
  obtain ⟨y0, y00, y01, y02, y03, y04, y05, y06, y07, y08, y09⟩ := hS.1.cells; obtain ⟨z0, z00, z01, z02, z03, z04, z05, z06, z07, z08, z09⟩ := hS.2.cells
  go_wp2_with (first
    | (go_at_call 34; ((with_reducible refine (HA.out _ b0.bl).mono ?_); rintro e w1 ⟨rfl, hb⟩; have b1 := b0.step hb; clear hb b0; obtain ⟨y1, y10, y11, y12, y13, y14, y15, y16, y17, y18, y19⟩ := b1.1.cells; obtain ⟨z1, z10, z11, z12, z13, z14, z15, z16, z17, z18, z19⟩ := b1.2.cells))
    | (go_at_call 35; ((with_reducible refine (HE.out _ b1.bl).mono ?_); rintro e w2 ⟨rfl, hb⟩; have b2 := b1.step hb; clear hb b1; obtain ⟨y2, y20, y21, y22, y23, y24, y25, y26, y27, y28, y29⟩ := b2.1.cells; obtain ⟨z2, z20, z21, z22, z23, z24, z25, z26, z27, z28, z29⟩ := b2.2.cells)))
  go_ret2
  exact ⟨rfl, b2.bl⟩
set_option maxHeartbeats 4000000 in
theorem csame_4 (g1 : Int) (A1 : Option Addr) (n1 c1 : Nat) (S1 : Option Addr) (m1 d1 : Nat) (j1 : Bool) (B1 : Option Addr) (o1 e1 : Nat) (k1 s1 v1 : Int) (y1 : Bool) (t1 : Int) (g2 : Int) (A2 : Option Addr) (n2 c2 : Nat) (S2 : Option Addr) (m2 d2 : Nat) (j2 : Bool) (B2 : Option Addr) (o2 e2 : Nat) (k2 s2 v2 : Int) (y2 : Bool) (t2 : Int) (L1 M1 : List Nd) (l1 : List Int) (L2 M2 : List Nd) (l2 : List Int) (w : World) (h : QA w A1 n1 S1 m1 B1 o1 L1 M1 l1) (h2 : QA w A2 n2 S2 m2 B2 o2 L2 M2 l2) (hs1 : s1 ≤ 9223372036854775807) (hs2 : s2 ≤ 9223372036854775807) (z1 : n1 ≤ 70) (z2 : n2 ≤ 70) (z3 : o1 ≤ 70) (z4 : o2 ≤ 70) (z5 : m1 ≤ 10) (z6 : m2 ≤ 10) (hu1 : chkF ⟨g1, L1, l1, j1, M1, k1, s1, v1, y1, t1⟩ = 0) (hu2 : chkF ⟨g2, L2, l2, j2, M2, k2, s2, v2, y2, t2⟩ = 0) (cc0 : g1 = g2) (cc1 : alikeF L1 L2 = true) (cc2 : l1 = l2) (cc3 : j1 = j2) (cc4 : alikeF M1 M2 = false) :
    Calls Tryz.prog 12 #[.agg #[.int .u8 g1, .slice A1 n1 c1, .slice S1 m1 d1, .bool j1, .slice B1 o1 e1, .int .u8 k1, .int .i64 s1, .int .i64 v1, .bool y1, .int .u8 t1], .agg #[.int .u8 g2, .slice A2 n2 c2, .slice S2 m2 d2, .bool j2, .slice B2 o2 e2, .int .u8 k2, .int .i64 s2, .int .i64 v2, .bool y2, .int .u8 t2]] w fun e w' => e = .returned (.tuple #[.bool false, .int .i64 0]) ∧ Below w.heap.size w w' := by
  have hx : firstE [0, 0] = 0 := rfl
  have HC1 := Lib.hid (fun W (hb : Bl w W) => chk_any g1 A1 n1 c1 S1 m1 d1 j1 B1 o1 e1 k1 s1 v1 y1 t1 L1 M1 l1 W (h.step hb) hs1 _ hu1)
  have HC2 := Lib.hid (fun W (hb : Bl w W) => chk_any g2 A2 n2 c2 S2 m2 d2 j2 B2 o2 e2 k2 s2 v2 y2 t2 L2 M2 l2 W (h2.step hb) hs2 _ hu2)
  have HO := Lib.hid (fun A W ht => or_any A 2 2 [0, 0] W rfl (by decide) ht _ hx)
  have HS := Lib.hid (QX2.step (QX2.new w g1 A1 n1 c1 S1 m1 d1 j1 B1 o1 e1 k1 s1 v1 y1 t1 g2 A2 n2 c2 S2 m2 d2 j2 B2 o2 e2 k2 s2 v2 y2 t2 27) (bd_drewN _ 1))
  have HA := Lib.hid (fun W (hb : Bl w W) => alike_p A1 A2 n1 n2 c1 c2 L1 L2 W h.1.2.1 h2.1.2.1 (hb.lies h.1.1) (hb.lies h2.1.1) ⟨arg_ok hu1 h.1.2.1, arg_ok hu2 h2.1.2.1⟩ _ cc1)
  have HE := Lib.hid (fun W (hb : Bl w W) => eqint_any S1 S2 m1 m2 d1 d2 l1 l2 W h.2.1.2 h2.2.1.2 (by omega) (by omega) (hb.lies h.2.1.1) (hb.lies h2.2.1.1) true (decide_eq_true cc2))
  have HB := Lib.hid (fun W (hb : Bl w W) => alike_p B1 B2 o1 o2 e1 e2 M1 M2 W h.2.2.2.1 h2.2.2.2.1 (hb.lies h.2.2.1) (hb.lies h2.2.2.1) ⟨whr_ok hu1 h.2.2.2.1, whr_ok hu2 h2.2.2.2.1⟩ _ cc4)
  clear h h2 hs1 hs2 hu1 hu2 hx z1 z2 z3 z4 z5 z6
  clear cc1 cc2 cc4
  obtain rfl := cc0
  obtain rfl := cc3
  go_enter Tryz.func12, Tryz.ntmps12
  go_upto_region 1 with fail
  refine wp_region_pre (S := QX2 w w.heap.size (w.heap.size + 1) g1 A1 n1 c1 S1 m1 d1 j1 B1 o1 e1 k1 s1 v1 y1 t1 g1 A2 n2 c2 S2 m2 d2 j1 B2 o2 e2 k2 s2 v2 y2 t2) 3 (by kernel_rfl) HS.out ?_
  refine Pre.pure (i := 0) (d := 8) (v := ?v0) rfl rfl (by rfl) ?y0 ?z0
  case y0 => (intro w' hSw; (try unfold QX2 QX at hSw); go_split_ands; go_simp; try with_reducible rfl)
  try simp only [Act.put, List.setIfInBounds_toArray, List.set_cons_zero, List.set_cons_succ]
  refine Pre.call (i := 1) (d := 9) (v := .int .i64 (0)) (f := ?f1) (args := ?a1) rfl rfl (by rfl) ?y1 ?c1 ?z1
  case y1 => (intro w' hSw; (try unfold QX2 QX at hSw); go_split_ands; go_simp; refine ⟨?_, ?_⟩ <;> with_reducible rfl)
  case c1 => (intro w' hSw; exact (HC1.out _ hSw.bl).mono (fun e w2 hh => ⟨hh.1, hSw.step hh.2⟩))
  try simp only [Act.put, List.setIfInBounds_toArray, List.set_cons_zero, List.set_cons_succ]
  refine Pre.pure (i := 2) (d := 10) (v := ?v2) rfl rfl (by rfl) ?y2 ?z2
  case y2 => (intro w' hSw; (try unfold QX2 QX at hSw); go_split_ands; go_simp; try with_reducible rfl)
  try simp only [Act.put, List.setIfInBounds_toArray, List.set_cons_zero, List.set_cons_succ]
  refine Pre.call (i := 3) (d := 11) (v := .int .i64 (0)) (f := ?f3) (args := ?a3) rfl rfl (by rfl) ?y3 ?c3 ?z3
  case y3 => (intro w' hSw; (try unfold QX2 QX at hSw); go_split_ands; go_simp; refine ⟨?_, ?_⟩ <;> with_reducible rfl)
  case c3 => (intro w' hSw; exact (HC2.out _ hSw.bl).mono (fun e w2 hh => ⟨hh.1, hSw.step hh.2⟩))
  try simp only [Act.put, List.setIfInBounds_toArray, List.set_cons_zero, List.set_cons_succ]
  refine Pre.done (by kernel_rfl) (by kernel_rfl) ?_
  intro W hS
  refine wpAnyH_ready (rs := [4]) (by kernel_rfl) (by simp) ?_
  refine AllReadyH.cons rfl (fun K hK => ?_) AllReadyH.nil
  go_simp
  have HL := Lib.hid (lies_vals W _ rfl #[.int .i64 (0), .int .i64 (0)] 34 (iC [0, 0]) rfl)
  refine hK.out _ _ (hS.step ((Below.refl _ _).alloc (Nat.le_refl _) _)) (fun hS1 => ?_)
  clear hK K
  try simp only [Act.put, List.setIfInBounds_toArray, List.set_cons_zero, List.set_cons_succ]
  refine wpAnyH_ready (rs := [5]) (by kernel_rfl) (by simp) ?_
  refine AllReadyH.cons rfl (fun K hK => ?_) AllReadyH.nil
  go_simp
  (go_at_call 32; refine (HO.out _ _ HL.out).mono ?_; rintro e w3 ⟨rfl, rfl⟩)
  refine hK.out _ _ hS1 (fun hS2 => ?_)
  clear hK K
  try simp only [Act.put, List.setIfInBounds_toArray, List.set_cons_zero, List.set_cons_succ]
  refine wpAnyH_ready (rs := [6]) (by kernel_rfl) (by simp) ?_
  refine AllReadyH.cons rfl (fun K hK => ?_) AllReadyH.nil
  go_simp
  refine hK.out _ _ hS2 (fun b0 => ?_)
  clear hK K
  try simp only [Act.put, List.setIfInBounds_toArray, List.set_cons_zero, List.set_cons_succ]
  refine wpAnyH_done (by kernel_rfl) ?_ _
  clear hS1 hS2 HS
  obtain ⟨y0, y00, y01, y02, y03, y04, y05, y06, y07, y08, y09⟩ := hS.1.cells; obtain ⟨z0, z00, z01, z02, z03, z04, z05, z06, z07, z08, z09⟩ := hS.2.cells
  go_wp2_with (first
    | (go_at_call 34; ((with_reducible refine (HA.out _ b0.bl).mono ?_); rintro e w1 ⟨rfl, hb⟩; have b1 := b0.step hb; clear hb b0; obtain ⟨y1, y10, y11, y12, y13, y14, y15, y16, y17, y18, y19⟩ := b1.1.cells; obtain ⟨z1, z10, z11, z12, z13, z14, z15, z16, z17, z18, z19⟩ := b1.2.cells))
    | (go_at_call 35; ((with_reducible refine (HE.out _ b1.bl).mono ?_); rintro e w2 ⟨rfl, hb⟩; have b2 := b1.step hb; clear hb b1; obtain ⟨y2, y20, y21, y22, y23, y24, y25, y26, y27, y28, y29⟩ := b2.1.cells; obtain ⟨z2, z20, z21, z22, z23, z24, z25, z26, z27, z28, z29⟩ := b2.2.cells))
    | (go_at_call 34; ((with_reducible refine (HB.out _ b2.bl).mono ?_); rintro e w3 ⟨rfl, hb⟩; have b3 := b2.step hb; clear hb b2; obtain ⟨y3, y30, y31, y32, y33, y34, y35, y36, y37, y38, y39⟩ := b3.1.cells; obtain ⟨z3, z30, z31, z32, z33, z34, z35, z36, z37, z38, z39⟩ := b3.2.cells)))
  go_ret2
  exact ⟨rfl, b3.bl⟩
set_option maxHeartbeats 4000000 in
theorem csame_5 (g1 : Int) (A1 : Option Addr) (n1 c1 : Nat) (S1 : Option Addr) (m1 d1 : Nat) (j1 : Bool) (B1 : Option Addr) (o1 e1 : Nat) (k1 s1 v1 : Int) (y1 : Bool) (t1 : Int) (g2 : Int) (A2 : Option Addr) (n2 c2 : Nat) (S2 : Option Addr) (m2 d2 : Nat) (j2 : Bool) (B2 : Option Addr) (o2 e2 : Nat) (k2 s2 v2 : Int) (y2 : Bool) (t2 : Int) (L1 M1 : List Nd) (l1 : List Int) (L2 M2 : List Nd) (l2 : List Int) (w : World) (h : QA w A1 n1 S1 m1 B1 o1 L1 M1 l1) (h2 : QA w A2 n2 S2 m2 B2 o2 L2 M2 l2) (hs1 : s1 ≤ 9223372036854775807) (hs2 : s2 ≤ 9223372036854775807) (z1 : n1 ≤ 70) (z2 : n2 ≤ 70) (z3 : o1 ≤ 70) (z4 : o2 ≤ 70) (z5 : m1 ≤ 10) (z6 : m2 ≤ 10) (hu1 : chkF ⟨g1, L1, l1, j1, M1, k1, s1, v1, y1, t1⟩ = 0) (hu2 : chkF ⟨g2, L2, l2, j2, M2, k2, s2, v2, y2, t2⟩ = 0) (cc0 : g1 = g2) (cc1 : alikeF L1 L2 = true) (cc2 : l1 = l2) (cc3 : j1 = j2) (cc4 : alikeF M1 M2 = true) (cc5 : (decide (k1 = k2) && decide (s1 = s2) && decide (v1 = v2)) = false) :
    Calls Tryz.prog 12 #[.agg #[.int .u8 g1, .slice A1 n1 c1, .slice S1 m1 d1, .bool j1, .slice B1 o1 e1, .int .u8 k1, .int .i64 s1, .int .i64 v1, .bool y1, .int .u8 t1], .agg #[.int .u8 g2, .slice A2 n2 c2, .slice S2 m2 d2, .bool j2, .slice B2 o2 e2, .int .u8 k2, .int .i64 s2, .int .i64 v2, .bool y2, .int .u8 t2]] w fun e w' => e = .returned (.tuple #[.bool false, .int .i64 0]) ∧ Below w.heap.size w w' := by
  have hx : firstE [0, 0] = 0 := rfl
  have HC1 := Lib.hid (fun W (hb : Bl w W) => chk_any g1 A1 n1 c1 S1 m1 d1 j1 B1 o1 e1 k1 s1 v1 y1 t1 L1 M1 l1 W (h.step hb) hs1 _ hu1)
  have HC2 := Lib.hid (fun W (hb : Bl w W) => chk_any g2 A2 n2 c2 S2 m2 d2 j2 B2 o2 e2 k2 s2 v2 y2 t2 L2 M2 l2 W (h2.step hb) hs2 _ hu2)
  have HO := Lib.hid (fun A W ht => or_any A 2 2 [0, 0] W rfl (by decide) ht _ hx)
  have HS := Lib.hid (QX2.step (QX2.new w g1 A1 n1 c1 S1 m1 d1 j1 B1 o1 e1 k1 s1 v1 y1 t1 g2 A2 n2 c2 S2 m2 d2 j2 B2 o2 e2 k2 s2 v2 y2 t2 27) (bd_drewN _ 1))
  have HA := Lib.hid (fun W (hb : Bl w W) => alike_p A1 A2 n1 n2 c1 c2 L1 L2 W h.1.2.1 h2.1.2.1 (hb.lies h.1.1) (hb.lies h2.1.1) ⟨arg_ok hu1 h.1.2.1, arg_ok hu2 h2.1.2.1⟩ _ cc1)
  have HE := Lib.hid (fun W (hb : Bl w W) => eqint_any S1 S2 m1 m2 d1 d2 l1 l2 W h.2.1.2 h2.2.1.2 (by omega) (by omega) (hb.lies h.2.1.1) (hb.lies h2.2.1.1) true (decide_eq_true cc2))
  have HB := Lib.hid (fun W (hb : Bl w W) => alike_p B1 B2 o1 o2 e1 e2 M1 M2 W h.2.2.2.1 h2.2.2.2.1 (hb.lies h.2.2.1) (hb.lies h2.2.2.1) ⟨whr_ok hu1 h.2.2.2.1, whr_ok hu2 h2.2.2.2.1⟩ _ cc4)
  have HW := eq_win k1 s1 v1 k2 s2 v2 _ cc5
  clear h h2 hs1 hs2 hu1 hu2 hx z1 z2 z3 z4 z5 z6
  clear cc1 cc2 cc4 cc5
  obtain rfl := cc0
  obtain rfl := cc3
  go_enter Tryz.func12, Tryz.ntmps12
  go_upto_region 1 with fail
  refine wp_region_pre (S := QX2 w w.heap.size (w.heap.size + 1) g1 A1 n1 c1 S1 m1 d1 j1 B1 o1 e1 k1 s1 v1 y1 t1 g1 A2 n2 c2 S2 m2 d2 j1 B2 o2 e2 k2 s2 v2 y2 t2) 3 (by kernel_rfl) HS.out ?_
  refine Pre.pure (i := 0) (d := 8) (v := ?v0) rfl rfl (by rfl) ?y0 ?z0
  case y0 => (intro w' hSw; (try unfold QX2 QX at hSw); go_split_ands; go_simp; try with_reducible rfl)
  try simp only [Act.put, List.setIfInBounds_toArray, List.set_cons_zero, List.set_cons_succ]
  refine Pre.call (i := 1) (d := 9) (v := .int .i64 (0)) (f := ?f1) (args := ?a1) rfl rfl (by rfl) ?y1 ?c1 ?z1
  case y1 => (intro w' hSw; (try unfold QX2 QX at hSw); go_split_ands; go_simp; refine ⟨?_, ?_⟩ <;> with_reducible rfl)
  case c1 => (intro w' hSw; exact (HC1.out _ hSw.bl).mono (fun e w2 hh => ⟨hh.1, hSw.step hh.2⟩))
  try simp only [Act.put, List.setIfInBounds_toArray, List.set_cons_zero, List.set_cons_succ]
  refine Pre.pure (i := 2) (d := 10) (v := ?v2) rfl rfl (by rfl) ?y2 ?z2
  case y2 => (intro w' hSw; (try unfold QX2 QX at hSw); go_split_ands; go_simp; try with_reducible rfl)
  try simp only [Act.put, List.setIfInBounds_toArray, List.set_cons_zero, List.set_cons_succ]
  refine Pre.call (i := 3) (d := 11) (v := .int .i64 (0)) (f := ?f3) (args := ?a3) rfl rfl (by rfl) ?y3 ?c3 ?z3
  case y3 => (intro w' hSw; (try unfold QX2 QX at hSw); go_split_ands; go_simp; refine ⟨?_, ?_⟩ <;> with_reducible rfl)
  case c3 => (intro w' hSw; exact (HC2.out _ hSw.bl).mono (fun e w2 hh => ⟨hh.1, hSw.step hh.2⟩))
  try simp only [Act.put, List.setIfInBounds_toArray, List.set_cons_zero, List.set_cons_succ]
  refine Pre.done (by kernel_rfl) (by kernel_rfl) ?_
  intro W hS
  refine wpAnyH_ready (rs := [4]) (by kernel_rfl) (by simp) ?_
  refine AllReadyH.cons rfl (fun K hK => ?_) AllReadyH.nil
  go_simp
  have HL := Lib.hid (lies_vals W _ rfl #[.int .i64 (0), .int .i64 (0)] 34 (iC [0, 0]) rfl)
  refine hK.out _ _ (hS.step ((Below.refl _ _).alloc (Nat.le_refl _) _)) (fun hS1 => ?_)
  clear hK K
  try simp only [Act.put, List.setIfInBounds_toArray, List.set_cons_zero, List.set_cons_succ]
  refine wpAnyH_ready (rs := [5]) (by kernel_rfl) (by simp) ?_
  refine AllReadyH.cons rfl (fun K hK => ?_) AllReadyH.nil
  go_simp
  (go_at_call 32; refine (HO.out _ _ HL.out).mono ?_; rintro e w3 ⟨rfl, rfl⟩)
  refine hK.out _ _ hS1 (fun hS2 => ?_)
  clear hK K
  try simp only [Act.put, List.setIfInBounds_toArray, List.set_cons_zero, List.set_cons_succ]
  refine wpAnyH_ready (rs := [6]) (by kernel_rfl) (by simp) ?_
  refine AllReadyH.cons rfl (fun K hK => ?_) AllReadyH.nil
  go_simp
  refine hK.out _ _ hS2 (fun b0 => ?_)
  clear hK K
  try simp only [Act.put, List.setIfInBounds_toArray, List.set_cons_zero, List.set_cons_succ]
  refine wpAnyH_done (by kernel_rfl) ?_ _
  clear hS1 hS2 HS
  obtain ⟨y0, y00, y01, y02, y03, y04, y05, y06, y07, y08, y09⟩ := hS.1.cells; obtain ⟨z0, z00, z01, z02, z03, z04, z05, z06, z07, z08, z09⟩ := hS.2.cells
  go_wp2_with (first
    | (go_at_call 34; ((with_reducible refine (HA.out _ b0.bl).mono ?_); rintro e w1 ⟨rfl, hb⟩; have b1 := b0.step hb; clear hb b0; obtain ⟨y1, y10, y11, y12, y13, y14, y15, y16, y17, y18, y19⟩ := b1.1.cells; obtain ⟨z1, z10, z11, z12, z13, z14, z15, z16, z17, z18, z19⟩ := b1.2.cells))
    | (go_at_call 35; ((with_reducible refine (HE.out _ b1.bl).mono ?_); rintro e w2 ⟨rfl, hb⟩; have b2 := b1.step hb; clear hb b1; obtain ⟨y2, y20, y21, y22, y23, y24, y25, y26, y27, y28, y29⟩ := b2.1.cells; obtain ⟨z2, z20, z21, z22, z23, z24, z25, z26, z27, z28, z29⟩ := b2.2.cells))
    | (go_at_call 34; ((with_reducible refine (HB.out _ b2.bl).mono ?_); rintro e w3 ⟨rfl, hb⟩; have b3 := b2.step hb; clear hb b2; obtain ⟨y3, y30, y31, y32, y33, y34, y35, y36, y37, y38, y39⟩ := b3.1.cells; obtain ⟨z3, z30, z31, z32, z33, z34, z35, z36, z37, z38, z39⟩ := b3.2.cells)))
  go_ret2
  exact ⟨rfl, b3.bl⟩
set_option maxHeartbeats 4000000 in
theorem csame_6 (g1 : Int) (A1 : Option Addr) (n1 c1 : Nat) (S1 : Option Addr) (m1 d1 : Nat) (j1 : Bool) (B1 : Option Addr) (o1 e1 : Nat) (k1 s1 v1 : Int) (y1 : Bool) (t1 : Int) (g2 : Int) (A2 : Option Addr) (n2 c2 : Nat) (S2 : Option Addr) (m2 d2 : Nat) (j2 : Bool) (B2 : Option Addr) (o2 e2 : Nat) (k2 s2 v2 : Int) (y2 : Bool) (t2 : Int) (L1 M1 : List Nd) (l1 : List Int) (L2 M2 : List Nd) (l2 : List Int) (w : World) (h : QA w A1 n1 S1 m1 B1 o1 L1 M1 l1) (h2 : QA w A2 n2 S2 m2 B2 o2 L2 M2 l2) (hs1 : s1 ≤ 9223372036854775807) (hs2 : s2 ≤ 9223372036854775807) (z1 : n1 ≤ 70) (z2 : n2 ≤ 70) (z3 : o1 ≤ 70) (z4 : o2 ≤ 70) (z5 : m1 ≤ 10) (z6 : m2 ≤ 10) (hu1 : chkF ⟨g1, L1, l1, j1, M1, k1, s1, v1, y1, t1⟩ = 0) (hu2 : chkF ⟨g2, L2, l2, j2, M2, k2, s2, v2, y2, t2⟩ = 0) (cc0 : g1 = g2) (cc1 : alikeF L1 L2 = true) (cc2 : l1 = l2) (cc3 : j1 = j2) (cc4 : alikeF M1 M2 = true) (cc5 : (decide (k1 = k2) && decide (s1 = s2) && decide (v1 = v2)) = true) (cc6 : y1 ≠ y2) :
    Calls Tryz.prog 12 #[.agg #[.int .u8 g1, .slice A1 n1 c1, .slice S1 m1 d1, .bool j1, .slice B1 o1 e1, .int .u8 k1, .int .i64 s1, .int .i64 v1, .bool y1, .int .u8 t1], .agg #[.int .u8 g2, .slice A2 n2 c2, .slice S2 m2 d2, .bool j2, .slice B2 o2 e2, .int .u8 k2, .int .i64 s2, .int .i64 v2, .bool y2, .int .u8 t2]] w fun e w' => e = .returned (.tuple #[.bool false, .int .i64 0]) ∧ Below w.heap.size w w' := by
  have hx : firstE [0, 0] = 0 := rfl
  have HC1 := Lib.hid (fun W (hb : Bl w W) => chk_any g1 A1 n1 c1 S1 m1 d1 j1 B1 o1 e1 k1 s1 v1 y1 t1 L1 M1 l1 W (h.step hb) hs1 _ hu1)
  have HC2 := Lib.hid (fun W (hb : Bl w W) => chk_any g2 A2 n2 c2 S2 m2 d2 j2 B2 o2 e2 k2 s2 v2 y2 t2 L2 M2 l2 W (h2.step hb) hs2 _ hu2)
  have HO := Lib.hid (fun A W ht => or_any A 2 2 [0, 0] W rfl (by decide) ht _ hx)
  have HS := Lib.hid (QX2.step (QX2.new w g1 A1 n1 c1 S1 m1 d1 j1 B1 o1 e1 k1 s1 v1 y1 t1 g2 A2 n2 c2 S2 m2 d2 j2 B2 o2 e2 k2 s2 v2 y2 t2 27) (bd_drewN _ 1))
  have HA := Lib.hid (fun W (hb : Bl w W) => alike_p A1 A2 n1 n2 c1 c2 L1 L2 W h.1.2.1 h2.1.2.1 (hb.lies h.1.1) (hb.lies h2.1.1) ⟨arg_ok hu1 h.1.2.1, arg_ok hu2 h2.1.2.1⟩ _ cc1)
  have HE := Lib.hid (fun W (hb : Bl w W) => eqint_any S1 S2 m1 m2 d1 d2 l1 l2 W h.2.1.2 h2.2.1.2 (by omega) (by omega) (hb.lies h.2.1.1) (hb.lies h2.2.1.1) true (decide_eq_true cc2))
  have HB := Lib.hid (fun W (hb : Bl w W) => alike_p B1 B2 o1 o2 e1 e2 M1 M2 W h.2.2.2.1 h2.2.2.2.1 (hb.lies h.2.2.1) (hb.lies h2.2.2.1) ⟨whr_ok hu1 h.2.2.2.1, whr_ok hu2 h2.2.2.2.1⟩ _ cc4)
  have HW := eq_win k1 s1 v1 k2 s2 v2 _ cc5
  clear h h2 hs1 hs2 hu1 hu2 hx z1 z2 z3 z4 z5 z6
  clear cc1 cc2 cc4 cc5
  obtain rfl := cc0
  obtain rfl := cc3
  have i6 : (y1 == y2) = false := by simpa using cc6
  clear cc6
  go_enter Tryz.func12, Tryz.ntmps12
  go_upto_region 1 with fail
  refine wp_region_pre (S := QX2 w w.heap.size (w.heap.size + 1) g1 A1 n1 c1 S1 m1 d1 j1 B1 o1 e1 k1 s1 v1 y1 t1 g1 A2 n2 c2 S2 m2 d2 j1 B2 o2 e2 k2 s2 v2 y2 t2) 3 (by kernel_rfl) HS.out ?_
  refine Pre.pure (i := 0) (d := 8) (v := ?v0) rfl rfl (by rfl) ?y0 ?z0
  case y0 => (intro w' hSw; (try unfold QX2 QX at hSw); go_split_ands; go_simp; try with_reducible rfl)
  try simp only [Act.put, List.setIfInBounds_toArray, List.set_cons_zero, List.set_cons_succ]
  refine Pre.call (i := 1) (d := 9) (v := .int .i64 (0)) (f := ?f1) (args := ?a1) rfl rfl (by rfl) ?y1 ?c1 ?z1
  case y1 => (intro w' hSw; (try unfold QX2 QX at hSw); go_split_ands; go_simp; refine ⟨?_, ?_⟩ <;> with_reducible rfl)
  case c1 => (intro w' hSw; exact (HC1.out _ hSw.bl).mono (fun e w2 hh => ⟨hh.1, hSw.step hh.2⟩))
  try simp only [Act.put, List.setIfInBounds_toArray, List.set_cons_zero, List.set_cons_succ]
  refine Pre.pure (i := 2) (d := 10) (v := ?v2) rfl rfl (by rfl) ?y2 ?z2
  case y2 => (intro w' hSw; (try unfold QX2 QX at hSw); go_split_ands; go_simp; try with_reducible rfl)
  try simp only [Act.put, List.setIfInBounds_toArray, List.set_cons_zero, List.set_cons_succ]
  refine Pre.call (i := 3) (d := 11) (v := .int .i64 (0)) (f := ?f3) (args := ?a3) rfl rfl (by rfl) ?y3 ?c3 ?z3
  case y3 => (intro w' hSw; (try unfold QX2 QX at hSw); go_split_ands; go_simp; refine ⟨?_, ?_⟩ <;> with_reducible rfl)
  case c3 => (intro w' hSw; exact (HC2.out _ hSw.bl).mono (fun e w2 hh => ⟨hh.1, hSw.step hh.2⟩))
  try simp only [Act.put, List.setIfInBounds_toArray, List.set_cons_zero, List.set_cons_succ]
  refine Pre.done (by kernel_rfl) (by kernel_rfl) ?_
  intro W hS
  refine wpAnyH_ready (rs := [4]) (by kernel_rfl) (by simp) ?_
  refine AllReadyH.cons rfl (fun K hK => ?_) AllReadyH.nil
  go_simp
  have HL := Lib.hid (lies_vals W _ rfl #[.int .i64 (0), .int .i64 (0)] 34 (iC [0, 0]) rfl)
  refine hK.out _ _ (hS.step ((Below.refl _ _).alloc (Nat.le_refl _) _)) (fun hS1 => ?_)
  clear hK K
  try simp only [Act.put, List.setIfInBounds_toArray, List.set_cons_zero, List.set_cons_succ]
  refine wpAnyH_ready (rs := [5]) (by kernel_rfl) (by simp) ?_
  refine AllReadyH.cons rfl (fun K hK => ?_) AllReadyH.nil
  go_simp
  (go_at_call 32; refine (HO.out _ _ HL.out).mono ?_; rintro e w3 ⟨rfl, rfl⟩)
  refine hK.out _ _ hS1 (fun hS2 => ?_)
  clear hK K
  try simp only [Act.put, List.setIfInBounds_toArray, List.set_cons_zero, List.set_cons_succ]
  refine wpAnyH_ready (rs := [6]) (by kernel_rfl) (by simp) ?_
  refine AllReadyH.cons rfl (fun K hK => ?_) AllReadyH.nil
  go_simp
  refine hK.out _ _ hS2 (fun b0 => ?_)
  clear hK K
  try simp only [Act.put, List.setIfInBounds_toArray, List.set_cons_zero, List.set_cons_succ]
  refine wpAnyH_done (by kernel_rfl) ?_ _
  clear hS1 hS2 HS
  obtain ⟨y0, y00, y01, y02, y03, y04, y05, y06, y07, y08, y09⟩ := hS.1.cells; obtain ⟨z0, z00, z01, z02, z03, z04, z05, z06, z07, z08, z09⟩ := hS.2.cells
  go_wp2_with (first
    | (go_at_call 34; ((with_reducible refine (HA.out _ b0.bl).mono ?_); rintro e w1 ⟨rfl, hb⟩; have b1 := b0.step hb; clear hb b0; obtain ⟨y1, y10, y11, y12, y13, y14, y15, y16, y17, y18, y19⟩ := b1.1.cells; obtain ⟨z1, z10, z11, z12, z13, z14, z15, z16, z17, z18, z19⟩ := b1.2.cells))
    | (go_at_call 35; ((with_reducible refine (HE.out _ b1.bl).mono ?_); rintro e w2 ⟨rfl, hb⟩; have b2 := b1.step hb; clear hb b1; obtain ⟨y2, y20, y21, y22, y23, y24, y25, y26, y27, y28, y29⟩ := b2.1.cells; obtain ⟨z2, z20, z21, z22, z23, z24, z25, z26, z27, z28, z29⟩ := b2.2.cells))
    | (go_at_call 34; ((with_reducible refine (HB.out _ b2.bl).mono ?_); rintro e w3 ⟨rfl, hb⟩; have b3 := b2.step hb; clear hb b2; obtain ⟨y3, y30, y31, y32, y33, y34, y35, y36, y37, y38, y39⟩ := b3.1.cells; obtain ⟨z3, z30, z31, z32, z33, z34, z35, z36, z37, z38, z39⟩ := b3.2.cells)))
  go_ret2
  exact ⟨rfl, b3.bl⟩
set_option maxHeartbeats 4000000 in
theorem csame_7 (g1 : Int) (A1 : Option Addr) (n1 c1 : Nat) (S1 : Option Addr) (m1 d1 : Nat) (j1 : Bool) (B1 : Option Addr) (o1 e1 : Nat) (k1 s1 v1 : Int) (y1 : Bool) (t1 : Int) (g2 : Int) (A2 : Option Addr) (n2 c2 : Nat) (S2 : Option Addr) (m2 d2 : Nat) (j2 : Bool) (B2 : Option Addr) (o2 e2 : Nat) (k2 s2 v2 : Int) (y2 : Bool) (t2 : Int) (L1 M1 : List Nd) (l1 : List Int) (L2 M2 : List Nd) (l2 : List Int) (w : World) (h : QA w A1 n1 S1 m1 B1 o1 L1 M1 l1) (h2 : QA w A2 n2 S2 m2 B2 o2 L2 M2 l2) (hs1 : s1 ≤ 9223372036854775807) (hs2 : s2 ≤ 9223372036854775807) (z1 : n1 ≤ 70) (z2 : n2 ≤ 70) (z3 : o1 ≤ 70) (z4 : o2 ≤ 70) (z5 : m1 ≤ 10) (z6 : m2 ≤ 10) (hu1 : chkF ⟨g1, L1, l1, j1, M1, k1, s1, v1, y1, t1⟩ = 0) (hu2 : chkF ⟨g2, L2, l2, j2, M2, k2, s2, v2, y2, t2⟩ = 0) (cc0 : g1 = g2) (cc1 : alikeF L1 L2 = true) (cc2 : l1 = l2) (cc3 : j1 = j2) (cc4 : alikeF M1 M2 = true) (cc5 : (decide (k1 = k2) && decide (s1 = s2) && decide (v1 = v2)) = true) (cc6 : y1 = y2) (cc7 : t1 ≠ t2) :
    Calls Tryz.prog 12 #[.agg #[.int .u8 g1, .slice A1 n1 c1, .slice S1 m1 d1, .bool j1, .slice B1 o1 e1, .int .u8 k1, .int .i64 s1, .int .i64 v1, .bool y1, .int .u8 t1], .agg #[.int .u8 g2, .slice A2 n2 c2, .slice S2 m2 d2, .bool j2, .slice B2 o2 e2, .int .u8 k2, .int .i64 s2, .int .i64 v2, .bool y2, .int .u8 t2]] w fun e w' => e = .returned (.tuple #[.bool false, .int .i64 0]) ∧ Below w.heap.size w w' := by
  have hx : firstE [0, 0] = 0 := rfl
  have HC1 := Lib.hid (fun W (hb : Bl w W) => chk_any g1 A1 n1 c1 S1 m1 d1 j1 B1 o1 e1 k1 s1 v1 y1 t1 L1 M1 l1 W (h.step hb) hs1 _ hu1)
  have HC2 := Lib.hid (fun W (hb : Bl w W) => chk_any g2 A2 n2 c2 S2 m2 d2 j2 B2 o2 e2 k2 s2 v2 y2 t2 L2 M2 l2 W (h2.step hb) hs2 _ hu2)
  have HO := Lib.hid (fun A W ht => or_any A 2 2 [0, 0] W rfl (by decide) ht _ hx)
  have HS := Lib.hid (QX2.step (QX2.new w g1 A1 n1 c1 S1 m1 d1 j1 B1 o1 e1 k1 s1 v1 y1 t1 g2 A2 n2 c2 S2 m2 d2 j2 B2 o2 e2 k2 s2 v2 y2 t2 27) (bd_drewN _ 1))
  have HA := Lib.hid (fun W (hb : Bl w W) => alike_p A1 A2 n1 n2 c1 c2 L1 L2 W h.1.2.1 h2.1.2.1 (hb.lies h.1.1) (hb.lies h2.1.1) ⟨arg_ok hu1 h.1.2.1, arg_ok hu2 h2.1.2.1⟩ _ cc1)
  have HE := Lib.hid (fun W (hb : Bl w W) => eqint_any S1 S2 m1 m2 d1 d2 l1 l2 W h.2.1.2 h2.2.1.2 (by omega) (by omega) (hb.lies h.2.1.1) (hb.lies h2.2.1.1) true (decide_eq_true cc2))
  have HB := Lib.hid (fun W (hb : Bl w W) => alike_p B1 B2 o1 o2 e1 e2 M1 M2 W h.2.2.2.1 h2.2.2.2.1 (hb.lies h.2.2.1) (hb.lies h2.2.2.1) ⟨whr_ok hu1 h.2.2.2.1, whr_ok hu2 h2.2.2.2.1⟩ _ cc4)
  have HW := eq_win k1 s1 v1 k2 s2 v2 _ cc5
  clear h h2 hs1 hs2 hu1 hu2 hx z1 z2 z3 z4 z5 z6
  clear cc1 cc2 cc4 cc5
  obtain rfl := cc0
  obtain rfl := cc3
  obtain rfl := cc6
  have i7 : (t1 == t2) = false := by simpa using cc7
  clear cc7
  go_enter Tryz.func12, Tryz.ntmps12
  go_upto_region 1 with fail
  refine wp_region_pre (S := QX2 w w.heap.size (w.heap.size + 1) g1 A1 n1 c1 S1 m1 d1 j1 B1 o1 e1 k1 s1 v1 y1 t1 g1 A2 n2 c2 S2 m2 d2 j1 B2 o2 e2 k2 s2 v2 y1 t2) 3 (by kernel_rfl) HS.out ?_
  refine Pre.pure (i := 0) (d := 8) (v := ?v0) rfl rfl (by rfl) ?y0 ?z0
  case y0 => (intro w' hSw; (try unfold QX2 QX at hSw); go_split_ands; go_simp; try with_reducible rfl)
  try simp only [Act.put, List.setIfInBounds_toArray, List.set_cons_zero, List.set_cons_succ]
  refine Pre.call (i := 1) (d := 9) (v := .int .i64 (0)) (f := ?f1) (args := ?a1) rfl rfl (by rfl) ?y1 ?c1 ?z1
  case y1 => (intro w' hSw; (try unfold QX2 QX at hSw); go_split_ands; go_simp; refine ⟨?_, ?_⟩ <;> with_reducible rfl)
  case c1 => (intro w' hSw; exact (HC1.out _ hSw.bl).mono (fun e w2 hh => ⟨hh.1, hSw.step hh.2⟩))
  try simp only [Act.put, List.setIfInBounds_toArray, List.set_cons_zero, List.set_cons_succ]
  refine Pre.pure (i := 2) (d := 10) (v := ?v2) rfl rfl (by rfl) ?y2 ?z2
  case y2 => (intro w' hSw; (try unfold QX2 QX at hSw); go_split_ands; go_simp; try with_reducible rfl)
  try simp only [Act.put, List.setIfInBounds_toArray, List.set_cons_zero, List.set_cons_succ]
  refine Pre.call (i := 3) (d := 11) (v := .int .i64 (0)) (f := ?f3) (args := ?a3) rfl rfl (by rfl) ?y3 ?c3 ?z3
  case y3 => (intro w' hSw; (try unfold QX2 QX at hSw); go_split_ands; go_simp; refine ⟨?_, ?_⟩ <;> with_reducible rfl)
  case c3 => (intro w' hSw; exact (HC2.out _ hSw.bl).mono (fun e w2 hh => ⟨hh.1, hSw.step hh.2⟩))
  try simp only [Act.put, List.setIfInBounds_toArray, List.set_cons_zero, List.set_cons_succ]
  refine Pre.done (by kernel_rfl) (by kernel_rfl) ?_
  intro W hS
  refine wpAnyH_ready (rs := [4]) (by kernel_rfl) (by simp) ?_
  refine AllReadyH.cons rfl (fun K hK => ?_) AllReadyH.nil
  go_simp
  have HL := Lib.hid (lies_vals W _ rfl #[.int .i64 (0), .int .i64 (0)] 34 (iC [0, 0]) rfl)
  refine hK.out _ _ (hS.step ((Below.refl _ _).alloc (Nat.le_refl _) _)) (fun hS1 => ?_)
  clear hK K
  try simp only [Act.put, List.setIfInBounds_toArray, List.set_cons_zero, List.set_cons_succ]
  refine wpAnyH_ready (rs := [5]) (by kernel_rfl) (by simp) ?_
  refine AllReadyH.cons rfl (fun K hK => ?_) AllReadyH.nil
  go_simp
  (go_at_call 32; refine (HO.out _ _ HL.out).mono ?_; rintro e w3 ⟨rfl, rfl⟩)
  refine hK.out _ _ hS1 (fun hS2 => ?_)
  clear hK K
  try simp only [Act.put, List.setIfInBounds_toArray, List.set_cons_zero, List.set_cons_succ]
  refine wpAnyH_ready (rs := [6]) (by kernel_rfl) (by simp) ?_
  refine AllReadyH.cons rfl (fun K hK => ?_) AllReadyH.nil
  go_simp
  refine hK.out _ _ hS2 (fun b0 => ?_)
  clear hK K
  try simp only [Act.put, List.setIfInBounds_toArray, List.set_cons_zero, List.set_cons_succ]
  refine wpAnyH_done (by kernel_rfl) ?_ _
  clear hS1 hS2 HS
  obtain ⟨y0, y00, y01, y02, y03, y04, y05, y06, y07, y08, y09⟩ := hS.1.cells; obtain ⟨z0, z00, z01, z02, z03, z04, z05, z06, z07, z08, z09⟩ := hS.2.cells
  go_wp2_with (first
    | (go_at_call 34; ((with_reducible refine (HA.out _ b0.bl).mono ?_); rintro e w1 ⟨rfl, hb⟩; have b1 := b0.step hb; clear hb b0; obtain ⟨y1, y10, y11, y12, y13, y14, y15, y16, y17, y18, y19⟩ := b1.1.cells; obtain ⟨z1, z10, z11, z12, z13, z14, z15, z16, z17, z18, z19⟩ := b1.2.cells))
    | (go_at_call 35; ((with_reducible refine (HE.out _ b1.bl).mono ?_); rintro e w2 ⟨rfl, hb⟩; have b2 := b1.step hb; clear hb b1; obtain ⟨y2, y20, y21, y22, y23, y24, y25, y26, y27, y28, y29⟩ := b2.1.cells; obtain ⟨z2, z20, z21, z22, z23, z24, z25, z26, z27, z28, z29⟩ := b2.2.cells))
    | (go_at_call 34; ((with_reducible refine (HB.out _ b2.bl).mono ?_); rintro e w3 ⟨rfl, hb⟩; have b3 := b2.step hb; clear hb b2; obtain ⟨y3, y30, y31, y32, y33, y34, y35, y36, y37, y38, y39⟩ := b3.1.cells; obtain ⟨z3, z30, z31, z32, z33, z34, z35, z36, z37, z38, z39⟩ := b3.2.cells)))
  go_ret2
  exact ⟨rfl, b3.bl⟩
set_option maxHeartbeats 4000000 in
theorem csame_8 (g1 : Int) (A1 : Option Addr) (n1 c1 : Nat) (S1 : Option Addr) (m1 d1 : Nat) (j1 : Bool) (B1 : Option Addr) (o1 e1 : Nat) (k1 s1 v1 : Int) (y1 : Bool) (t1 : Int) (g2 : Int) (A2 : Option Addr) (n2 c2 : Nat) (S2 : Option Addr) (m2 d2 : Nat) (j2 : Bool) (B2 : Option Addr) (o2 e2 : Nat) (k2 s2 v2 : Int) (y2 : Bool) (t2 : Int) (L1 M1 : List Nd) (l1 : List Int) (L2 M2 : List Nd) (l2 : List Int) (w : World) (h : QA w A1 n1 S1 m1 B1 o1 L1 M1 l1) (h2 : QA w A2 n2 S2 m2 B2 o2 L2 M2 l2) (hs1 : s1 ≤ 9223372036854775807) (hs2 : s2 ≤ 9223372036854775807) (z1 : n1 ≤ 70) (z2 : n2 ≤ 70) (z3 : o1 ≤ 70) (z4 : o2 ≤ 70) (z5 : m1 ≤ 10) (z6 : m2 ≤ 10) (hu1 : chkF ⟨g1, L1, l1, j1, M1, k1, s1, v1, y1, t1⟩ = 0) (hu2 : chkF ⟨g2, L2, l2, j2, M2, k2, s2, v2, y2, t2⟩ = 0) (cc0 : g1 = g2) (cc1 : alikeF L1 L2 = true) (cc2 : l1 = l2) (cc3 : j1 = j2) (cc4 : alikeF M1 M2 = true) (cc5 : (decide (k1 = k2) && decide (s1 = s2) && decide (v1 = v2)) = true) (cc6 : y1 = y2) (cc7 : t1 = t2) :
    Calls Tryz.prog 12 #[.agg #[.int .u8 g1, .slice A1 n1 c1, .slice S1 m1 d1, .bool j1, .slice B1 o1 e1, .int .u8 k1, .int .i64 s1, .int .i64 v1, .bool y1, .int .u8 t1], .agg #[.int .u8 g2, .slice A2 n2 c2, .slice S2 m2 d2, .bool j2, .slice B2 o2 e2, .int .u8 k2, .int .i64 s2, .int .i64 v2, .bool y2, .int .u8 t2]] w fun e w' => e = .returned (.tuple #[.bool true, .int .i64 0]) ∧ Below w.heap.size w w' := by
  have hx : firstE [0, 0] = 0 := rfl
  have HC1 := Lib.hid (fun W (hb : Bl w W) => chk_any g1 A1 n1 c1 S1 m1 d1 j1 B1 o1 e1 k1 s1 v1 y1 t1 L1 M1 l1 W (h.step hb) hs1 _ hu1)
  have HC2 := Lib.hid (fun W (hb : Bl w W) => chk_any g2 A2 n2 c2 S2 m2 d2 j2 B2 o2 e2 k2 s2 v2 y2 t2 L2 M2 l2 W (h2.step hb) hs2 _ hu2)
  have HO := Lib.hid (fun A W ht => or_any A 2 2 [0, 0] W rfl (by decide) ht _ hx)
  have HS := Lib.hid (QX2.step (QX2.new w g1 A1 n1 c1 S1 m1 d1 j1 B1 o1 e1 k1 s1 v1 y1 t1 g2 A2 n2 c2 S2 m2 d2 j2 B2 o2 e2 k2 s2 v2 y2 t2 27) (bd_drewN _ 1))
  have HA := Lib.hid (fun W (hb : Bl w W) => alike_p A1 A2 n1 n2 c1 c2 L1 L2 W h.1.2.1 h2.1.2.1 (hb.lies h.1.1) (hb.lies h2.1.1) ⟨arg_ok hu1 h.1.2.1, arg_ok hu2 h2.1.2.1⟩ _ cc1)
  have HE := Lib.hid (fun W (hb : Bl w W) => eqint_any S1 S2 m1 m2 d1 d2 l1 l2 W h.2.1.2 h2.2.1.2 (by omega) (by omega) (hb.lies h.2.1.1) (hb.lies h2.2.1.1) true (decide_eq_true cc2))
  have HB := Lib.hid (fun W (hb : Bl w W) => alike_p B1 B2 o1 o2 e1 e2 M1 M2 W h.2.2.2.1 h2.2.2.2.1 (hb.lies h.2.2.1) (hb.lies h2.2.2.1) ⟨whr_ok hu1 h.2.2.2.1, whr_ok hu2 h2.2.2.2.1⟩ _ cc4)
  have HW := eq_win k1 s1 v1 k2 s2 v2 _ cc5
  clear h h2 hs1 hs2 hu1 hu2 hx z1 z2 z3 z4 z5 z6
  clear cc1 cc2 cc4 cc5
  obtain rfl := cc0
  obtain rfl := cc3
  obtain rfl := cc6
  obtain rfl := cc7
  go_enter Tryz.func12, Tryz.ntmps12
  go_upto_region 1 with fail
  refine wp_region_pre (S := QX2 w w.heap.size (w.heap.size + 1) g1 A1 n1 c1 S1 m1 d1 j1 B1 o1 e1 k1 s1 v1 y1 t1 g1 A2 n2 c2 S2 m2 d2 j1 B2 o2 e2 k2 s2 v2 y1 t1) 3 (by kernel_rfl) HS.out ?_
  refine Pre.pure (i := 0) (d := 8) (v := ?v0) rfl rfl (by rfl) ?y0 ?z0
  case y0 => (intro w' hSw; (try unfold QX2 QX at hSw); go_split_ands; go_simp; try with_reducible rfl)
  try simp only [Act.put, List.setIfInBounds_toArray, List.set_cons_zero, List.set_cons_succ]
  refine Pre.call (i := 1) (d := 9) (v := .int .i64 (0)) (f := ?f1) (args := ?a1) rfl rfl (by rfl) ?y1 ?c1 ?z1
  case y1 => (intro w' hSw; (try unfold QX2 QX at hSw); go_split_ands; go_simp; refine ⟨?_, ?_⟩ <;> with_reducible rfl)
  case c1 => (intro w' hSw; exact (HC1.out _ hSw.bl).mono (fun e w2 hh => ⟨hh.1, hSw.step hh.2⟩))
  try simp only [Act.put, List.setIfInBounds_toArray, List.set_cons_zero, List.set_cons_succ]
  refine Pre.pure (i := 2) (d := 10) (v := ?v2) rfl rfl (by rfl) ?y2 ?z2
  case y2 => (intro w' hSw; (try unfold QX2 QX at hSw); go_split_ands; go_simp; try with_reducible rfl)
  try simp only [Act.put, List.setIfInBounds_toArray, List.set_cons_zero, List.set_cons_succ]
  refine Pre.call (i := 3) (d := 11) (v := .int .i64 (0)) (f := ?f3) (args := ?a3) rfl rfl (by rfl) ?y3 ?c3 ?z3
  case y3 => (intro w' hSw; (try unfold QX2 QX at hSw); go_split_ands; go_simp; refine ⟨?_, ?_⟩ <;> with_reducible rfl)
  case c3 => (intro w' hSw; exact (HC2.out _ hSw.bl).mono (fun e w2 hh => ⟨hh.1, hSw.step hh.2⟩))
  try simp only [Act.put, List.setIfInBounds_toArray, List.set_cons_zero, List.set_cons_succ]
  refine Pre.done (by kernel_rfl) (by kernel_rfl) ?_
  intro W hS
  refine wpAnyH_ready (rs := [4]) (by kernel_rfl) (by simp) ?_
  refine AllReadyH.cons rfl (fun K hK => ?_) AllReadyH.nil
  go_simp
  have HL := Lib.hid (lies_vals W _ rfl #[.int .i64 (0), .int .i64 (0)] 34 (iC [0, 0]) rfl)
  refine hK.out _ _ (hS.step ((Below.refl _ _).alloc (Nat.le_refl _) _)) (fun hS1 => ?_)
  clear hK K
  try simp only [Act.put, List.setIfInBounds_toArray, List.set_cons_zero, List.set_cons_succ]
  refine wpAnyH_ready (rs := [5]) (by kernel_rfl) (by simp) ?_
  refine AllReadyH.cons rfl (fun K hK => ?_) AllReadyH.nil
  go_simp
  (go_at_call 32; refine (HO.out _ _ HL.out).mono ?_; rintro e w3 ⟨rfl, rfl⟩)
  refine hK.out _ _ hS1 (fun hS2 => ?_)
  clear hK K
  try simp only [Act.put, List.setIfInBounds_toArray, List.set_cons_zero, List.set_cons_succ]
  refine wpAnyH_ready (rs := [6]) (by kernel_rfl) (by simp) ?_
  refine AllReadyH.cons rfl (fun K hK => ?_) AllReadyH.nil
  go_simp
  refine hK.out _ _ hS2 (fun b0 => ?_)
  clear hK K
  try simp only [Act.put, List.setIfInBounds_toArray, List.set_cons_zero, List.set_cons_succ]
  refine wpAnyH_done (by kernel_rfl) ?_ _
  clear hS1 hS2 HS
  obtain ⟨y0, y00, y01, y02, y03, y04, y05, y06, y07, y08, y09⟩ := hS.1.cells; obtain ⟨z0, z00, z01, z02, z03, z04, z05, z06, z07, z08, z09⟩ := hS.2.cells
  go_wp2_with (first
    | (go_at_call 34; ((with_reducible refine (HA.out _ b0.bl).mono ?_); rintro e w1 ⟨rfl, hb⟩; have b1 := b0.step hb; clear hb b0; obtain ⟨y1, y10, y11, y12, y13, y14, y15, y16, y17, y18, y19⟩ := b1.1.cells; obtain ⟨z1, z10, z11, z12, z13, z14, z15, z16, z17, z18, z19⟩ := b1.2.cells))
    | (go_at_call 35; ((with_reducible refine (HE.out _ b1.bl).mono ?_); rintro e w2 ⟨rfl, hb⟩; have b2 := b1.step hb; clear hb b1; obtain ⟨y2, y20, y21, y22, y23, y24, y25, y26, y27, y28, y29⟩ := b2.1.cells; obtain ⟨z2, z20, z21, z22, z23, z24, z25, z26, z27, z28, z29⟩ := b2.2.cells))
    | (go_at_call 34; ((with_reducible refine (HB.out _ b2.bl).mono ?_); rintro e w3 ⟨rfl, hb⟩; have b3 := b2.step hb; clear hb b2; obtain ⟨y3, y30, y31, y32, y33, y34, y35, y36, y37, y38, y39⟩ := b3.1.cells; obtain ⟨z3, z30, z31, z32, z33, z34, z35, z36, z37, z38, z39⟩ := b3.2.cells)))
  go_ret2
  exact ⟨rfl, b3.bl⟩
theorem csame_ok (g1 : Int) (A1 : Option Addr) (n1 c1 : Nat) (S1 : Option Addr) (m1 d1 : Nat) (j1 : Bool) (B1 : Option Addr) (o1 e1 : Nat) (k1 s1 v1 : Int) (y1 : Bool) (t1 : Int) (g2 : Int) (A2 : Option Addr) (n2 c2 : Nat) (S2 : Option Addr) (m2 d2 : Nat) (j2 : Bool) (B2 : Option Addr) (o2 e2 : Nat) (k2 s2 v2 : Int) (y2 : Bool) (t2 : Int) (L1 M1 : List Nd) (l1 : List Int) (L2 M2 : List Nd) (l2 : List Int) (w : World) (h : QA w A1 n1 S1 m1 B1 o1 L1 M1 l1) (h2 : QA w A2 n2 S2 m2 B2 o2 L2 M2 l2) (hs1 : s1 ≤ 9223372036854775807) (hs2 : s2 ≤ 9223372036854775807) (z1 : n1 ≤ 70) (z2 : n2 ≤ 70) (z3 : o1 ≤ 70) (z4 : o2 ≤ 70) (z5 : m1 ≤ 10) (z6 : m2 ≤ 10) (hu1 : chkF ⟨g1, L1, l1, j1, M1, k1, s1, v1, y1, t1⟩ = 0) (hu2 : chkF ⟨g2, L2, l2, j2, M2, k2, s2, v2, y2, t2⟩ = 0) (v : Bool) (hv : sameQ ⟨g1, L1, l1, j1, M1, k1, s1, v1, y1, t1⟩ ⟨g2, L2, l2, j2, M2, k2, s2, v2, y2, t2⟩ = v) :
    Calls Tryz.prog 12 #[.agg #[.int .u8 g1, .slice A1 n1 c1, .slice S1 m1 d1, .bool j1, .slice B1 o1 e1, .int .u8 k1, .int .i64 s1, .int .i64 v1, .bool y1, .int .u8 t1], .agg #[.int .u8 g2, .slice A2 n2 c2, .slice S2 m2 d2, .bool j2, .slice B2 o2 e2, .int .u8 k2, .int .i64 s2, .int .i64 v2, .bool y2, .int .u8 t2]] w fun e w' => e = .returned (.tuple #[.bool v, .int .i64 0]) ∧ Below w.heap.size w w' := by
  by_cases cc0 : g1 = g2
  case neg =>
    obtain rfl : false = v := by rw [← hv]; exact (sameQ_false g1 A1 n1 c1 S1 m1 d1 j1 B1 o1 e1 k1 s1 v1 y1 t1 g2 A2 n2 c2 S2 m2 d2 j2 B2 o2 e2 k2 s2 v2 y2 t2 L1 M1 l1 L2 M2 l2 (fun hh => cc0 hh.1)).symm
    exact csame_0 g1 A1 n1 c1 S1 m1 d1 j1 B1 o1 e1 k1 s1 v1 y1 t1 g2 A2 n2 c2 S2 m2 d2 j2 B2 o2 e2 k2 s2 v2 y2 t2 L1 M1 l1 L2 M2 l2 w h h2 hs1 hs2 z1 z2 z3 z4 z5 z6 hu1 hu2  cc0
  rcases Bool.eq_false_or_eq_true (alikeF L1 L2) with cc1 | cc1
  case inr =>
    obtain rfl : false = v := by rw [← hv]; exact (sameQ_false g1 A1 n1 c1 S1 m1 d1 j1 B1 o1 e1 k1 s1 v1 y1 t1 g2 A2 n2 c2 S2 m2 d2 j2 B2 o2 e2 k2 s2 v2 y2 t2 L1 M1 l1 L2 M2 l2 (fun hh => by have := hh.2.1; rw [cc1] at this; cases this)).symm
    exact csame_1 g1 A1 n1 c1 S1 m1 d1 j1 B1 o1 e1 k1 s1 v1 y1 t1 g2 A2 n2 c2 S2 m2 d2 j2 B2 o2 e2 k2 s2 v2 y2 t2 L1 M1 l1 L2 M2 l2 w h h2 hs1 hs2 z1 z2 z3 z4 z5 z6 hu1 hu2 cc0 cc1
  by_cases cc2 : l1 = l2
  case neg =>
    obtain rfl : false = v := by rw [← hv]; exact (sameQ_false g1 A1 n1 c1 S1 m1 d1 j1 B1 o1 e1 k1 s1 v1 y1 t1 g2 A2 n2 c2 S2 m2 d2 j2 B2 o2 e2 k2 s2 v2 y2 t2 L1 M1 l1 L2 M2 l2 (fun hh => cc2 hh.2.2.1)).symm
    exact csame_2 g1 A1 n1 c1 S1 m1 d1 j1 B1 o1 e1 k1 s1 v1 y1 t1 g2 A2 n2 c2 S2 m2 d2 j2 B2 o2 e2 k2 s2 v2 y2 t2 L1 M1 l1 L2 M2 l2 w h h2 hs1 hs2 z1 z2 z3 z4 z5 z6 hu1 hu2 cc0 cc1 cc2
  by_cases cc3 : j1 = j2
  case neg =>
    obtain rfl : false = v := by rw [← hv]; exact (sameQ_false g1 A1 n1 c1 S1 m1 d1 j1 B1 o1 e1 k1 s1 v1 y1 t1 g2 A2 n2 c2 S2 m2 d2 j2 B2 o2 e2 k2 s2 v2 y2 t2 L1 M1 l1 L2 M2 l2 (fun hh => cc3 hh.2.2.2.1)).symm
    exact csame_3 g1 A1 n1 c1 S1 m1 d1 j1 B1 o1 e1 k1 s1 v1 y1 t1 g2 A2 n2 c2 S2 m2 d2 j2 B2 o2 e2 k2 s2 v2 y2 t2 L1 M1 l1 L2 M2 l2 w h h2 hs1 hs2 z1 z2 z3 z4 z5 z6 hu1 hu2 cc0 cc1 cc2 cc3
  rcases Bool.eq_false_or_eq_true (alikeF M1 M2) with cc4 | cc4
  case inr =>
    obtain rfl : false = v := by rw [← hv]; exact (sameQ_false g1 A1 n1 c1 S1 m1 d1 j1 B1 o1 e1 k1 s1 v1 y1 t1 g2 A2 n2 c2 S2 m2 d2 j2 B2 o2 e2 k2 s2 v2 y2 t2 L1 M1 l1 L2 M2 l2 (fun hh => by have := hh.2.2.2.2.1; rw [cc4] at this; cases this)).symm
    exact csame_4 g1 A1 n1 c1 S1 m1 d1 j1 B1 o1 e1 k1 s1 v1 y1 t1 g2 A2 n2 c2 S2 m2 d2 j2 B2 o2 e2 k2 s2 v2 y2 t2 L1 M1 l1 L2 M2 l2 w h h2 hs1 hs2 z1 z2 z3 z4 z5 z6 hu1 hu2 cc0 cc1 cc2 cc3 cc4
  rcases Bool.eq_false_or_eq_true (decide (k1 = k2) && decide (s1 = s2) && decide (v1 = v2)) with cc5 | cc5
  case inr =>
    obtain rfl : false = v := by rw [← hv]; exact (sameQ_false g1 A1 n1 c1 S1 m1 d1 j1 B1 o1 e1 k1 s1 v1 y1 t1 g2 A2 n2 c2 S2 m2 d2 j2 B2 o2 e2 k2 s2 v2 y2 t2 L1 M1 l1 L2 M2 l2 (fun hh => by have := hh.2.2.2.2.2.1; rw [cc5] at this; cases this)).symm
    exact csame_5 g1 A1 n1 c1 S1 m1 d1 j1 B1 o1 e1 k1 s1 v1 y1 t1 g2 A2 n2 c2 S2 m2 d2 j2 B2 o2 e2 k2 s2 v2 y2 t2 L1 M1 l1 L2 M2 l2 w h h2 hs1 hs2 z1 z2 z3 z4 z5 z6 hu1 hu2 cc0 cc1 cc2 cc3 cc4 cc5
  by_cases cc6 : y1 = y2
  case neg =>
    obtain rfl : false = v := by rw [← hv]; exact (sameQ_false g1 A1 n1 c1 S1 m1 d1 j1 B1 o1 e1 k1 s1 v1 y1 t1 g2 A2 n2 c2 S2 m2 d2 j2 B2 o2 e2 k2 s2 v2 y2 t2 L1 M1 l1 L2 M2 l2 (fun hh => cc6 hh.2.2.2.2.2.2.1)).symm
    exact csame_6 g1 A1 n1 c1 S1 m1 d1 j1 B1 o1 e1 k1 s1 v1 y1 t1 g2 A2 n2 c2 S2 m2 d2 j2 B2 o2 e2 k2 s2 v2 y2 t2 L1 M1 l1 L2 M2 l2 w h h2 hs1 hs2 z1 z2 z3 z4 z5 z6 hu1 hu2 cc0 cc1 cc2 cc3 cc4 cc5 cc6
  by_cases cc7 : t1 = t2
  case neg =>
    obtain rfl : false = v := by rw [← hv]; exact (sameQ_false g1 A1 n1 c1 S1 m1 d1 j1 B1 o1 e1 k1 s1 v1 y1 t1 g2 A2 n2 c2 S2 m2 d2 j2 B2 o2 e2 k2 s2 v2 y2 t2 L1 M1 l1 L2 M2 l2 (fun hh => cc7 hh.2.2.2.2.2.2.2)).symm
    exact csame_7 g1 A1 n1 c1 S1 m1 d1 j1 B1 o1 e1 k1 s1 v1 y1 t1 g2 A2 n2 c2 S2 m2 d2 j2 B2 o2 e2 k2 s2 v2 y2 t2 L1 M1 l1 L2 M2 l2 w h h2 hs1 hs2 z1 z2 z3 z4 z5 z6 hu1 hu2 cc0 cc1 cc2 cc3 cc4 cc5 cc6 cc7
  obtain rfl : true = v := by rw [← hv]; exact (sameQ_true g1 A1 n1 c1 S1 m1 d1 j1 B1 o1 e1 k1 s1 v1 y1 t1 g2 A2 n2 c2 S2 m2 d2 j2 B2 o2 e2 k2 s2 v2 y2 t2 L1 M1 l1 L2 M2 l2 ⟨cc0, cc1, cc2, cc3, cc4, cc5, cc6, cc7⟩).symm
  exact csame_8 g1 A1 n1 c1 S1 m1 d1 j1 B1 o1 e1 k1 s1 v1 y1 t1 g2 A2 n2 c2 S2 m2 d2 j2 B2 o2 e2 k2 s2 v2 y2 t2 L1 M1 l1 L2 M2 l2 w h h2 hs1 hs2 z1 z2 z3 z4 z5 z6 hu1 hu2 cc0 cc1 cc2 cc3 cc4 cc5 cc6 cc7
end Go.Proofs.YtlmamidodahgmaaGreatDoor.Q8

/- QSame3: The reference's Same, Equal and Great of queries; slide, alive. -/
namespace Go.Proofs.YtlmamidodahgmaaGreatDoor.Q8
open Go.ChangeShapes Go.WideShapes Go.ChangeAt Go.RowKit N4
set_option linter.unusedVariables false
set_option linter.unusedSimpArgs false
set_option maxRecDepth 100000

/-- The reference's Equal: the same places, too. -/
theorem reqq_any (g1 : Int) (A1 : Option Addr) (n1 c1 : Nat) (S1 : Option Addr) (m1 d1 : Nat) (j1 : Bool) (B1 : Option Addr) (o1 e1 : Nat) (k1 s1 v1 : Int) (y1 : Bool) (t1 : Int) (g2 : Int) (A2 : Option Addr) (n2 c2 : Nat) (S2 : Option Addr) (m2 d2 : Nat) (j2 : Bool) (B2 : Option Addr) (o2 e2 : Nat) (k2 s2 v2 : Int) (y2 : Bool) (t2 : Int) (L1 M1 : List Nd) (l1 : List Int) (L2 M2 : List Nd) (l2 : List Int) (w : World) (h : QA w A1 n1 S1 m1 B1 o1 L1 M1 l1) (h2 : QA w A2 n2 S2 m2 B2 o2 L2 M2 l2) (z1 : n1 ≤ 70) (z2 : n2 ≤ 70) (z3 : o1 ≤ 70) (z4 : o2 ≤ 70) (z5 : m1 ≤ 10) (z6 : m2 ≤ 10) (v : Bool) (hv : (sameQ ⟨g1, L1, l1, j1, M1, k1, s1, v1, y1, t1⟩ ⟨g2, L2, l2, j2, M2, k2, s2, v2, y2, t2⟩ && (decide (L1 = L2) && decide (M1 = M2))) = v) :
    Calls Tryz.prog 23 #[.agg #[.int .u8 g1, .slice A1 n1 c1, .slice S1 m1 d1, .bool j1, .slice B1 o1 e1, .int .u8 k1, .int .i64 s1, .int .i64 v1, .bool y1, .int .u8 t1], .agg #[.int .u8 g2, .slice A2 n2 c2, .slice S2 m2 d2, .bool j2, .slice B2 o2 e2, .int .u8 k2, .int .i64 s2, .int .i64 v2, .bool y2, .int .u8 t2]] w fun e w' => e = .returned (.bool v) ∧ Below w.heap.size w w' := by
  have HC := Lib.hid (fun W (hb : Bl w W) => ralk_any g1 A1 n1 c1 S1 m1 d1 j1 B1 o1 e1 k1 s1 v1 y1 t1 g2 A2 n2 c2 S2 m2 d2 j2 B2 o2 e2 k2 s2 v2 y2 t2 L1 M1 l1 L2 M2 l2 W (h.step hb) (h2.step hb) z1 z2 z3 z4 z5 z6 _ rfl)
  have HL := Lib.hid (fun W (hb : Bl w W) => requal_any A1 A2 n1 n2 c1 c2 L1 L2 W h.1.2.1 h2.1.2.1 (by omega) (by omega) (hb.lies h.1.1) (hb.lies h2.1.1) _ rfl)
  have HM := Lib.hid (fun W (hb : Bl w W) => requal_any B1 B2 o1 o2 e1 e2 M1 M2 W h.2.2.2.1 h2.2.2.2.1 (by omega) (by omega) (hb.lies h.2.2.1) (hb.lies h2.2.2.1) _ rfl)
  have b0 := fun t => QX2.new w g1 A1 n1 c1 S1 m1 d1 j1 B1 o1 e1 k1 s1 v1 y1 t1 g2 A2 n2 c2 S2 m2 d2 j2 B2 o2 e2 k2 s2 v2 y2 t2 t
  generalize sameQ ⟨g1, L1, l1, j1, M1, k1, s1, v1, y1, t1⟩ ⟨g2, L2, l2, j2, M2, k2, s2, v2, y2, t2⟩ = u1 at HC hv
  generalize decide (L1 = L2) = u2 at HL hv
  generalize decide (M1 = M2) = u3 at HM hv
  clear h h2 z1 z2 z3 z4 z5 z6
  cases u1
  · obtain rfl : false = v := hv
    go_enter Tryz.func23, Tryz.ntmps23
    go_wp2_with (go_at_call 14; ((with_reducible refine (HC.out _ (b0 _).bl).mono ?_); rintro e w1 ⟨rfl, hb⟩; have b1 := (b0 _).step hb; clear hb b0))
    go_ret
    exact ⟨rfl, b1.bl⟩
  cases u2
  · obtain rfl : false = v := hv
    go_enter Tryz.func23, Tryz.ntmps23
    go_wp2_with (first
      | (go_at_call 14; ((with_reducible refine (HC.out _ (b0 _).bl).mono ?_); rintro e w1 ⟨rfl, hb⟩; have b1 := (b0 _).step hb; clear hb b0; obtain ⟨z, z0, z1, z2, z3, z4, z5, z6, z7, z8, z9⟩ := b1.2.cells; obtain ⟨q, q0, q1, q2, q3, q4, q5, q6, q7, q8, q9⟩ := b1.1.cells))
      | (go_at_call 17; ((with_reducible refine (HL.out _ b1.bl).mono ?_); rintro e w2 ⟨rfl, hb⟩; have b2 := b1.step hb; clear hb b1)))
    go_ret
    exact ⟨rfl, b2.bl⟩
  · obtain rfl : u3 = v := hv
    go_enter Tryz.func23, Tryz.ntmps23
    go_wp2_with (first
      | (go_at_call 14; ((with_reducible refine (HC.out _ (b0 _).bl).mono ?_); rintro e w1 ⟨rfl, hb⟩; have b1 := (b0 _).step hb; clear hb b0; obtain ⟨z, z0, z1, z2, z3, z4, z5, z6, z7, z8, z9⟩ := b1.2.cells; obtain ⟨q, q0, q1, q2, q3, q4, q5, q6, q7, q8, q9⟩ := b1.1.cells))
      | (go_at_call 17; ((with_reducible refine (HL.out _ b1.bl).mono ?_); rintro e w2 ⟨rfl, hb⟩; have b2 := b1.step hb; clear hb b1 HL; obtain ⟨r, r0, r1, r2, r3, r4, r5, r6, r7, r8, r9⟩ := b2.2.cells; obtain ⟨p, p0, p1, p2, p3, p4, p5, p6, p7, p8, p9⟩ := b2.1.cells))
      | (go_at_call 17; ((with_reducible refine (HM.out _ b2.bl).mono ?_); rintro e w3 ⟨rfl, hb⟩; have b3 := b2.step hb; clear hb b2)))
    go_ret
    exact ⟨rfl, b3.bl⟩
/-- Great. -/
def greatQ (n o m : Nat) : Bool := decide (70 < n) || (decide (70 < o) || decide (10 < m))
theorem rgreat_any (g1 : Int) (A1 : Option Addr) (n1 c1 : Nat) (S1 : Option Addr) (m1 d1 : Nat) (j1 : Bool) (B1 : Option Addr) (o1 e1 : Nat) (k1 s1 v1 : Int) (y1 : Bool) (t1 : Int) (w : World) (v : Bool) (hv : greatQ n1 o1 m1 = v) :
    Calls Tryz.prog 5 #[.agg #[.int .u8 g1, .slice A1 n1 c1, .slice S1 m1 d1, .bool j1, .slice B1 o1 e1, .int .u8 k1, .int .i64 s1, .int .i64 v1, .bool y1, .int .u8 t1]] w fun e w' => e = .returned (.bool v) ∧ Below w.heap.size w w' := by
  have HX := Lib.hid hv
  clear hv
  by_cases h1 : 70 < n1
  · have HA := Lib.hid (fun W => great_any A1 n1 c1 W true (decide_eq_true h1))
    obtain rfl : true = v := by rw [← HX.out]; simp [greatQ, h1]
    clear h1
    go_enter Tryz.func5, Tryz.ntmps5
    go_wp2_with (go_at_call 19; ((with_reducible refine (HA.out _).mono ?_); rintro e w1 ⟨rfl, rfl⟩))
    go_ret
    exact ⟨rfl, (Below.refl _ _).alloc (Nat.le_refl _) _⟩
  · have HA := Lib.hid (fun W => great_any A1 n1 c1 W false (decide_eq_false h1))
    by_cases h2 : 70 < o1
    · have HB := Lib.hid (fun W => great_any B1 o1 e1 W true (decide_eq_true h2))
      obtain rfl : true = v := by rw [← HX.out]; simp [greatQ, h2]
      clear h1 h2
      go_enter Tryz.func5, Tryz.ntmps5
      go_wp2_with (first
        | (go_at_call 19; ((with_reducible refine (HA.out _).mono ?_); rintro e w1 ⟨rfl, rfl⟩; clear HA))
        | (go_at_call 19; ((with_reducible refine (HB.out _).mono ?_); rintro e w1 ⟨rfl, rfl⟩)))
      go_ret
      exact ⟨rfl, (Below.refl _ _).alloc (Nat.le_refl _) _⟩
    · have HB := Lib.hid (fun W => great_any B1 o1 e1 W false (decide_eq_false h2))
      have HF := Lib.hid (show decide (10 < m1) = v by rw [← HX.out]; simp [greatQ, h1, h2])
      clear h1 h2
      by_cases h3 : 10 < m1
      all_goals
        have i1 : decide ((10 : Int) < m1) = decide (10 < m1) := by simp; omega
        simp only [h3, decide_true, decide_false] at i1 HF
        clear h3
        go_enter Tryz.func5, Tryz.ntmps5
        go_wp2_with (first
          | (go_at_call 19; ((with_reducible refine (HA.out _).mono ?_); rintro e w1 ⟨rfl, rfl⟩; clear HA))
          | (go_at_call 19; ((with_reducible refine (HB.out _).mono ?_); rintro e w1 ⟨rfl, rfl⟩)))
        go_ret
        exact ⟨ret_bool' HF.out, (Below.refl _ _).alloc (Nat.le_refl _) _⟩

/-! ### the law's own -/
end Go.Proofs.YtlmamidodahgmaaGreatDoor.Q8
