/- Check: the region that draws. -/
import Derived.Test.YtaijhkfbfkdepaaQChk
import Derived.Test.YtaijhkfbfkdepaaQBox
import Derived.Deep.RegionHeld3
import Derived.Outline
import Derived.Tactics2
import Derived.Deep.DeepCutAuto
import Derived.Deep.CutBlock
namespace Go.Proofs.Ytaijhkfbfkdepaa.Q8
open Go.ChangeShapes Go.WideShapes Go.ChangeAt Go.RowKit N4
set_option linter.unusedVariables false
set_option linter.unusedSimpArgs false
set_option maxRecDepth 100000

set_option maxHeartbeats 4000000 in
theorem chk_tt (g1 : Int) (A1 : Option Addr) (n1 c1 : Nat) (S1 : Option Addr) (m1 d1 : Nat) (j1 : Bool) (B1 : Option Addr) (o1 e1 : Nat) (k1 s1 v1 : Int) (y1 : Bool) (t1 : Int) (L1 M1 : List Nd) (l1 : List Int) (w : World) (h : QA w A1 n1 S1 m1 B1 o1 L1 M1 l1) (hs : s1 ≤ 9223372036854775807) (hg : inB g1 1 4 = true) (hj : j1 = true) (x : Int) (hx : firstE [badE (inB t1 1 2), argE g1 L1, whrE M1, srcF l1 j1, winE k1 s1 v1, badE (k1 == 1)] = x) :
    Calls Try.prog 11 #[.agg #[.int .u8 g1, .slice A1 n1 c1, .slice S1 m1 d1, .bool j1, .slice B1 o1 e1, .int .u8 k1, .int .i64 s1, .int .i64 v1, .bool y1, .int .u8 t1]] w fun e w' => e = .returned (.int .i64 x) ∧ Below w.heap.size w w' := by
  subst hj
  have HS := Lib.hid (QX.step (QX.new (Bl.start w) g1 A1 n1 c1 S1 m1 d1 true B1 o1 e1 k1 s1 v1 y1 t1 27) (bd_drewN _ 1))
  have HW1 := Lib.hid (fun W => within_u8 g1 1 4 W _ hg)
  have HW2 := Lib.hid (fun W => within_u8 t1 1 2 W _ rfl)
  have HB1 := Lib.hid (fun W => bad_any (inB t1 1 2) W _ rfl)
  have HA := Lib.hid (fun W (hb : Bl w W) => arg_any g1 A1 n1 c1 S1 m1 d1 true B1 o1 e1 k1 s1 v1 y1 t1 L1 M1 l1 W (h.step hb) _ rfl)
  have HC := Lib.hid (fun W (hb : Bl w W) => cond_any g1 A1 n1 c1 S1 m1 d1 true B1 o1 e1 k1 s1 v1 y1 t1 L1 M1 l1 W (h.step hb) _ rfl)
  have HR := Lib.hid (fun W (hb : Bl w W) => src_any S1 d1 m1 l1 true W h.2.1.2 (hb.lies h.2.1.1) _ rfl)
  have HN := Lib.hid (fun W => win_any k1 s1 v1 W hs _ rfl)
  have HB2 := Lib.hid (fun W => bad_any (k1 == 1) W _ rfl)
  have HO := Lib.hid (fun A W ht => or_any A 6 6 [badE (inB t1 1 2), argE g1 L1, whrE M1, srcF l1 true, winE k1 s1 v1, badE (k1 == 1)] W rfl (by decide) ht x hx)
  clear hx h hs hg
  generalize badE (inB t1 1 2) = z1 at HB1 HO
  generalize argE g1 L1 = z2 at HA HO
  generalize whrE M1 = z3 at HC HO
  generalize srcF l1 true = z4 at HR HO
  generalize winE k1 s1 v1 = z5 at HN HO
  generalize badE (k1 == 1) = z6 at HB2 HO
  generalize inB t1 1 2 = p2 at HB1 HW2
  go_enter Try.func11, Try.ntmps11
  go_upto_region 1 with fail
  refine wp_region_pre (S := QX w w.heap.size g1 A1 n1 c1 S1 m1 d1 true B1 o1 e1 k1 s1 v1 y1 t1) 3 (by kernel_rfl) HS.out ?_
  refine Pre.pure (i := 0) (d := 3) (v := ?v0) rfl rfl (by rfl) ?y0 ?z0
  case y0 => (intro w' hSw; (try unfold QX at hSw); go_split_ands; go_simp; try with_reducible rfl)
  try simp only [Act.put, List.setIfInBounds_toArray, List.set_cons_zero, List.set_cons_succ]
  refine Pre.pure (i := 1) (d := 4) (v := ?v1) rfl rfl (by rfl) ?y1 ?z1
  case y1 => (intro w' hSw; (try unfold QX at hSw); go_split_ands; go_simp; try with_reducible rfl)
  try simp only [Act.put, List.setIfInBounds_toArray, List.set_cons_zero, List.set_cons_succ]
  refine Pre.call (i := 2) (d := 5) (v := .bool true) (f := ?f2) (args := ?a2) rfl rfl (by rfl) ?y2 ?c2 ?z2
  case y2 => (intro w' hSw; (try unfold QX at hSw); go_split_ands; go_simp; refine ⟨?_, ?_⟩ <;> with_reducible rfl)
  case c2 => (intro w' hSw; exact (HW1.out _).mono (fun e w2 hh => ⟨hh.1, hh.2 ▸ hSw⟩))
  try simp only [Act.put, List.setIfInBounds_toArray, List.set_cons_zero, List.set_cons_succ]
  refine Pre.pure (i := 3) (d := 6) (v := ?v3) rfl rfl (by rfl) ?y3 ?z3
  case y3 => (intro w' hSw; (try unfold QX at hSw); go_split_ands; go_simp; try with_reducible rfl)
  try simp only [Act.put, List.setIfInBounds_toArray, List.set_cons_zero, List.set_cons_succ]
  refine Pre.pure (i := 4) (d := 7) (v := ?v4) rfl rfl (by rfl) ?y4 ?z4
  case y4 => (intro w' hSw; (try unfold QX at hSw); go_split_ands; go_simp; try with_reducible rfl)
  try simp only [Act.put, List.setIfInBounds_toArray, List.set_cons_zero, List.set_cons_succ]
  refine Pre.pure (i := 5) (d := 8) (v := ?v5) rfl rfl (by rfl) ?y5 ?z5
  case y5 => (intro w' hSw; (try unfold QX at hSw); go_split_ands; go_simp; try with_reducible rfl)
  try simp only [Act.put, List.setIfInBounds_toArray, List.set_cons_zero, List.set_cons_succ]
  refine Pre.call (i := 6) (d := 9) (v := .bool p2) (f := ?f6) (args := ?a6) rfl rfl (by rfl) ?y6 ?c6 ?z6
  case y6 => (intro w' hSw; (try unfold QX at hSw); go_split_ands; go_simp; refine ⟨?_, ?_⟩ <;> with_reducible rfl)
  case c6 => (intro w' hSw; exact (HW2.out _).mono (fun e w2 hh => ⟨hh.1, hh.2 ▸ hSw⟩))
  try simp only [Act.put, List.setIfInBounds_toArray, List.set_cons_zero, List.set_cons_succ]
  refine Pre.pure (i := 7) (d := 10) (v := ?v7) rfl rfl (by rfl) ?y7 ?z7
  case y7 => (intro w' hSw; (try unfold QX at hSw); go_split_ands; go_simp; try with_reducible rfl)
  try simp only [Act.put, List.setIfInBounds_toArray, List.set_cons_zero, List.set_cons_succ]
  refine Pre.call (i := 8) (d := 11) (v := .int .i64 z1) (f := ?f8) (args := ?a8) rfl rfl (by rfl) ?y8 ?c8 ?z8
  case y8 => (intro w' hSw; (try unfold QX at hSw); go_split_ands; go_simp; refine ⟨?_, ?_⟩ <;> with_reducible rfl)
  case c8 => (intro w' hSw; exact (HB1.out _).mono (fun e w2 hh => ⟨hh.1, hh.2 ▸ hSw⟩))
  try simp only [Act.put, List.setIfInBounds_toArray, List.set_cons_zero, List.set_cons_succ]
  refine Pre.pure (i := 9) (d := 12) (v := ?v9) rfl rfl (by rfl) ?y9 ?z9
  case y9 => (intro w' hSw; (try unfold QX at hSw); go_split_ands; go_simp; try with_reducible rfl)
  try simp only [Act.put, List.setIfInBounds_toArray, List.set_cons_zero, List.set_cons_succ]
  refine Pre.call (i := 10) (d := 13) (v := .int .i64 z2) (f := ?f10) (args := ?a10) rfl rfl (by rfl) ?y10 ?c10 ?z10
  case y10 => (intro w' hSw; (try unfold QX at hSw); go_split_ands; go_simp; refine ⟨?_, ?_⟩ <;> with_reducible rfl)
  case c10 => (intro w' hSw; exact (HA.out _ hSw.bl).mono (fun e w2 hh => ⟨hh.1, hSw.step hh.2⟩))
  try simp only [Act.put, List.setIfInBounds_toArray, List.set_cons_zero, List.set_cons_succ]
  refine Pre.pure (i := 11) (d := 14) (v := ?v11) rfl rfl (by rfl) ?y11 ?z11
  case y11 => (intro w' hSw; (try unfold QX at hSw); go_split_ands; go_simp; try with_reducible rfl)
  try simp only [Act.put, List.setIfInBounds_toArray, List.set_cons_zero, List.set_cons_succ]
  refine Pre.call (i := 12) (d := 15) (v := .int .i64 z3) (f := ?f12) (args := ?a12) rfl rfl (by rfl) ?y12 ?c12 ?z12
  case y12 => (intro w' hSw; (try unfold QX at hSw); go_split_ands; go_simp; refine ⟨?_, ?_⟩ <;> with_reducible rfl)
  case c12 => (intro w' hSw; exact (HC.out _ hSw.bl).mono (fun e w2 hh => ⟨hh.1, hSw.step hh.2⟩))
  try simp only [Act.put, List.setIfInBounds_toArray, List.set_cons_zero, List.set_cons_succ]
  refine Pre.pure (i := 13) (d := 16) (v := ?v13) rfl rfl (by rfl) ?y13 ?z13
  case y13 => (intro w' hSw; (try unfold QX at hSw); go_split_ands; go_simp; try with_reducible rfl)
  try simp only [Act.put, List.setIfInBounds_toArray, List.set_cons_zero, List.set_cons_succ]
  refine Pre.pure (i := 14) (d := 17) (v := ?v14) rfl rfl (by rfl) ?y14 ?z14
  case y14 => (intro w' hSw; (try unfold QX at hSw); go_split_ands; go_simp; try with_reducible rfl)
  try simp only [Act.put, List.setIfInBounds_toArray, List.set_cons_zero, List.set_cons_succ]
  refine Pre.pure (i := 15) (d := 18) (v := ?v15) rfl rfl (by rfl) ?y15 ?z15
  case y15 => (intro w' hSw; (try unfold QX at hSw); go_split_ands; go_simp; try with_reducible rfl)
  try simp only [Act.put, List.setIfInBounds_toArray, List.set_cons_zero, List.set_cons_succ]
  refine Pre.pure (i := 16) (d := 19) (v := ?v16) rfl rfl (by rfl) ?y16 ?z16
  case y16 => (intro w' hSw; (try unfold QX at hSw); go_split_ands; go_simp; try with_reducible rfl)
  try simp only [Act.put, List.setIfInBounds_toArray, List.set_cons_zero, List.set_cons_succ]
  refine Pre.call (i := 17) (d := 20) (v := .int .i64 z4) (f := ?f17) (args := ?a17) rfl rfl (by rfl) ?y17 ?c17 ?z17
  case y17 => (intro w' hSw; (try unfold QX at hSw); go_split_ands; go_simp; refine ⟨?_, ?_⟩ <;> with_reducible rfl)
  case c17 => (intro w' hSw; exact (HR.out _ hSw.bl).mono (fun e w2 hh => ⟨hh.1, hSw.step hh.2⟩))
  try simp only [Act.put, List.setIfInBounds_toArray, List.set_cons_zero, List.set_cons_succ]
  refine Pre.pure (i := 18) (d := 21) (v := ?v18) rfl rfl (by rfl) ?y18 ?z18
  case y18 => (intro w' hSw; (try unfold QX at hSw); go_split_ands; go_simp; try with_reducible rfl)
  try simp only [Act.put, List.setIfInBounds_toArray, List.set_cons_zero, List.set_cons_succ]
  refine Pre.pure (i := 19) (d := 22) (v := ?v19) rfl rfl (by rfl) ?y19 ?z19
  case y19 => (intro w' hSw; (try unfold QX at hSw); go_split_ands; go_simp; try with_reducible rfl)
  try simp only [Act.put, List.setIfInBounds_toArray, List.set_cons_zero, List.set_cons_succ]
  refine Pre.call (i := 20) (d := 23) (v := .int .i64 z5) (f := ?f20) (args := ?a20) rfl rfl (by rfl) ?y20 ?c20 ?z20
  case y20 => (intro w' hSw; (try unfold QX at hSw); go_split_ands; go_simp; refine ⟨?_, ?_⟩ <;> with_reducible rfl)
  case c20 => (intro w' hSw; exact (HN.out _).mono (fun e w2 hh => ⟨hh.1, hSw.step hh.2⟩))
  try simp only [Act.put, List.setIfInBounds_toArray, List.set_cons_zero, List.set_cons_succ]
  refine Pre.pure (i := 21) (d := 24) (v := ?v21) rfl rfl (by rfl) ?y21 ?z21
  case y21 => (intro w' hSw; (try unfold QX at hSw); go_split_ands; go_simp; try with_reducible rfl)
  try simp only [Act.put, List.setIfInBounds_toArray, List.set_cons_zero, List.set_cons_succ]
  refine Pre.pure (i := 22) (d := 25) (v := ?v22) rfl rfl (by rfl) ?y22 ?z22
  case y22 => (intro w' hSw; (try unfold QX at hSw); go_split_ands; go_simp; try with_reducible rfl)
  try simp only [Act.put, List.setIfInBounds_toArray, List.set_cons_zero, List.set_cons_succ]
  refine Pre.pure (i := 23) (d := 26) (v := ?v23) rfl rfl (by rfl) ?y23 ?z23
  case y23 => (intro w' hSw; (try unfold QX at hSw); go_split_ands; go_simp; try with_reducible rfl)
  try simp only [Act.put, List.setIfInBounds_toArray, List.set_cons_zero, List.set_cons_succ]
  refine Pre.pure (i := 24) (d := 27) (v := ?v24) rfl rfl (by rfl) ?y24 ?z24
  case y24 => (intro w' hSw; (try unfold QX at hSw); go_split_ands; go_simp; try with_reducible rfl)
  try simp only [Act.put, List.setIfInBounds_toArray, List.set_cons_zero, List.set_cons_succ]
  refine Pre.pure (i := 25) (d := 28) (v := ?v25) rfl rfl (by rfl) ?y25 ?z25
  case y25 => (intro w' hSw; (try unfold QX at hSw); go_split_ands; go_simp; try with_reducible rfl)
  try simp only [Act.put, List.setIfInBounds_toArray, List.set_cons_zero, List.set_cons_succ]
  refine Pre.pure (i := 26) (d := 29) (v := ?v26) rfl rfl (by rfl) ?y26 ?z26
  case y26 => (intro w' hSw; (try unfold QX at hSw); go_split_ands; go_simp; try with_reducible rfl)
  try simp only [Act.put, List.setIfInBounds_toArray, List.set_cons_zero, List.set_cons_succ]
  refine Pre.pure (i := 27) (d := 30) (v := ?v27) rfl rfl (by rfl) ?y27 ?z27
  case y27 => (intro w' hSw; (try unfold QX at hSw); go_split_ands; go_simp; try with_reducible rfl)
  try simp only [Act.put, List.setIfInBounds_toArray, List.set_cons_zero, List.set_cons_succ]
  refine Pre.pure (i := 28) (d := 31) (v := ?v28) rfl rfl (by rfl) ?y28 ?z28
  case y28 => (intro w' hSw; (try unfold QX at hSw); go_split_ands; go_simp; try with_reducible rfl)
  try simp only [Act.put, List.setIfInBounds_toArray, List.set_cons_zero, List.set_cons_succ]
  refine Pre.pure (i := 29) (d := 32) (v := ?v29) rfl rfl (by rfl) ?y29 ?z29
  case y29 => (intro w' hSw; (try unfold QX at hSw); go_split_ands; go_simp; try with_reducible rfl)
  try simp only [Act.put, List.setIfInBounds_toArray, List.set_cons_zero, List.set_cons_succ]
  refine Pre.call (i := 30) (d := 33) (v := .int .i64 z6) (f := ?f30) (args := ?a30) rfl rfl (by rfl) ?y30 ?c30 ?z30
  case y30 => (intro w' hSw; (try unfold QX at hSw); go_split_ands; go_simp; refine ⟨?_, ?_⟩ <;> with_reducible rfl)
  case c30 => (intro w' hSw; exact (HB2.out _).mono (fun e w2 hh => ⟨hh.1, hh.2 ▸ hSw⟩))
  try simp only [Act.put, List.setIfInBounds_toArray, List.set_cons_zero, List.set_cons_succ]
  refine Pre.done (by kernel_rfl) (by kernel_rfl) ?_
  intro W hS
  refine wpAnyH_ready (rs := [31]) (by kernel_rfl) (by simp) ?_
  refine AllReadyH.cons rfl (fun K hK => ?_) AllReadyH.nil
  go_simp
  have HL := Lib.hid (lies_vals W _ rfl #[.int .i64 z1, .int .i64 z2, .int .i64 z3, .int .i64 z4, .int .i64 z5, .int .i64 z6] 30 (iC [z1, z2, z3, z4, z5, z6]) rfl)
  refine hK.out _ _ (hS.step ((Below.refl _ _).alloc (Nat.le_refl _) _)) (fun hS1 => ?_)
  clear hK K
  try simp only [Act.put, List.setIfInBounds_toArray, List.set_cons_zero, List.set_cons_succ]
  refine wpAnyH_ready (rs := [32]) (by kernel_rfl) (by simp) ?_
  refine AllReadyH.cons rfl (fun K hK => ?_) AllReadyH.nil
  go_simp
  (go_at_call 19; refine (HO.out _ _ HL.out).mono ?_; rintro e w3 ⟨rfl, rfl⟩)
  refine hK.out _ _ hS1 (fun hS2 => ?_)
  clear hK K
  try simp only [Act.put, List.setIfInBounds_toArray, List.set_cons_zero, List.set_cons_succ]
  refine wpAnyH_ready (rs := [33]) (by kernel_rfl) (by simp) ?_
  refine AllReadyH.cons rfl (fun K hK => ?_) AllReadyH.nil
  go_simp
  refine hK.out _ _ hS2 (fun hS3 => ?_)
  clear hK K
  try simp only [Act.put, List.setIfInBounds_toArray, List.set_cons_zero, List.set_cons_succ]
  refine wpAnyH_done (by kernel_rfl) ?_ _
  go_wp2
  go_ret
  exact ⟨rfl, hS3.bl⟩
set_option maxHeartbeats 4000000 in
theorem chk_tf (g1 : Int) (A1 : Option Addr) (n1 c1 : Nat) (S1 : Option Addr) (m1 d1 : Nat) (j1 : Bool) (B1 : Option Addr) (o1 e1 : Nat) (k1 s1 v1 : Int) (y1 : Bool) (t1 : Int) (L1 M1 : List Nd) (l1 : List Int) (w : World) (h : QA w A1 n1 S1 m1 B1 o1 L1 M1 l1) (hs : s1 ≤ 9223372036854775807) (hg : inB g1 1 4 = true) (hj : j1 = false) (x : Int) (hx : firstE [badE (inB t1 1 2), argE g1 L1, whrE M1, srcF l1 j1, winE k1 s1 v1, badE (true)] = x) :
    Calls Try.prog 11 #[.agg #[.int .u8 g1, .slice A1 n1 c1, .slice S1 m1 d1, .bool j1, .slice B1 o1 e1, .int .u8 k1, .int .i64 s1, .int .i64 v1, .bool y1, .int .u8 t1]] w fun e w' => e = .returned (.int .i64 x) ∧ Below w.heap.size w w' := by
  subst hj
  have HS := Lib.hid (QX.step (QX.new (Bl.start w) g1 A1 n1 c1 S1 m1 d1 false B1 o1 e1 k1 s1 v1 y1 t1 27) (bd_drewN _ 1))
  have HW1 := Lib.hid (fun W => within_u8 g1 1 4 W _ hg)
  have HW2 := Lib.hid (fun W => within_u8 t1 1 2 W _ rfl)
  have HB1 := Lib.hid (fun W => bad_any (inB t1 1 2) W _ rfl)
  have HA := Lib.hid (fun W (hb : Bl w W) => arg_any g1 A1 n1 c1 S1 m1 d1 false B1 o1 e1 k1 s1 v1 y1 t1 L1 M1 l1 W (h.step hb) _ rfl)
  have HC := Lib.hid (fun W (hb : Bl w W) => cond_any g1 A1 n1 c1 S1 m1 d1 false B1 o1 e1 k1 s1 v1 y1 t1 L1 M1 l1 W (h.step hb) _ rfl)
  have HR := Lib.hid (fun W (hb : Bl w W) => src_any S1 d1 m1 l1 false W h.2.1.2 (hb.lies h.2.1.1) _ rfl)
  have HN := Lib.hid (fun W => win_any k1 s1 v1 W hs _ rfl)
  have HB2 := Lib.hid (fun W => bad_any (true) W _ rfl)
  have HO := Lib.hid (fun A W ht => or_any A 6 6 [badE (inB t1 1 2), argE g1 L1, whrE M1, srcF l1 false, winE k1 s1 v1, badE (true)] W rfl (by decide) ht x hx)
  clear hx h hs hg
  generalize badE (inB t1 1 2) = z1 at HB1 HO
  generalize argE g1 L1 = z2 at HA HO
  generalize whrE M1 = z3 at HC HO
  generalize srcF l1 false = z4 at HR HO
  generalize winE k1 s1 v1 = z5 at HN HO
  generalize badE (true) = z6 at HB2 HO
  generalize inB t1 1 2 = p2 at HB1 HW2
  go_enter Try.func11, Try.ntmps11
  go_upto_region 1 with fail
  refine wp_region_pre (S := QX w w.heap.size g1 A1 n1 c1 S1 m1 d1 false B1 o1 e1 k1 s1 v1 y1 t1) 3 (by kernel_rfl) HS.out ?_
  refine Pre.pure (i := 0) (d := 3) (v := ?v0) rfl rfl (by rfl) ?y0 ?z0
  case y0 => (intro w' hSw; (try unfold QX at hSw); go_split_ands; go_simp; try with_reducible rfl)
  try simp only [Act.put, List.setIfInBounds_toArray, List.set_cons_zero, List.set_cons_succ]
  refine Pre.pure (i := 1) (d := 4) (v := ?v1) rfl rfl (by rfl) ?y1 ?z1
  case y1 => (intro w' hSw; (try unfold QX at hSw); go_split_ands; go_simp; try with_reducible rfl)
  try simp only [Act.put, List.setIfInBounds_toArray, List.set_cons_zero, List.set_cons_succ]
  refine Pre.call (i := 2) (d := 5) (v := .bool true) (f := ?f2) (args := ?a2) rfl rfl (by rfl) ?y2 ?c2 ?z2
  case y2 => (intro w' hSw; (try unfold QX at hSw); go_split_ands; go_simp; refine ⟨?_, ?_⟩ <;> with_reducible rfl)
  case c2 => (intro w' hSw; exact (HW1.out _).mono (fun e w2 hh => ⟨hh.1, hh.2 ▸ hSw⟩))
  try simp only [Act.put, List.setIfInBounds_toArray, List.set_cons_zero, List.set_cons_succ]
  refine Pre.pure (i := 3) (d := 6) (v := ?v3) rfl rfl (by rfl) ?y3 ?z3
  case y3 => (intro w' hSw; (try unfold QX at hSw); go_split_ands; go_simp; try with_reducible rfl)
  try simp only [Act.put, List.setIfInBounds_toArray, List.set_cons_zero, List.set_cons_succ]
  refine Pre.pure (i := 4) (d := 7) (v := ?v4) rfl rfl (by rfl) ?y4 ?z4
  case y4 => (intro w' hSw; (try unfold QX at hSw); go_split_ands; go_simp; try with_reducible rfl)
  try simp only [Act.put, List.setIfInBounds_toArray, List.set_cons_zero, List.set_cons_succ]
  refine Pre.pure (i := 5) (d := 8) (v := ?v5) rfl rfl (by rfl) ?y5 ?z5
  case y5 => (intro w' hSw; (try unfold QX at hSw); go_split_ands; go_simp; try with_reducible rfl)
  try simp only [Act.put, List.setIfInBounds_toArray, List.set_cons_zero, List.set_cons_succ]
  refine Pre.call (i := 6) (d := 9) (v := .bool p2) (f := ?f6) (args := ?a6) rfl rfl (by rfl) ?y6 ?c6 ?z6
  case y6 => (intro w' hSw; (try unfold QX at hSw); go_split_ands; go_simp; refine ⟨?_, ?_⟩ <;> with_reducible rfl)
  case c6 => (intro w' hSw; exact (HW2.out _).mono (fun e w2 hh => ⟨hh.1, hh.2 ▸ hSw⟩))
  try simp only [Act.put, List.setIfInBounds_toArray, List.set_cons_zero, List.set_cons_succ]
  refine Pre.pure (i := 7) (d := 10) (v := ?v7) rfl rfl (by rfl) ?y7 ?z7
  case y7 => (intro w' hSw; (try unfold QX at hSw); go_split_ands; go_simp; try with_reducible rfl)
  try simp only [Act.put, List.setIfInBounds_toArray, List.set_cons_zero, List.set_cons_succ]
  refine Pre.call (i := 8) (d := 11) (v := .int .i64 z1) (f := ?f8) (args := ?a8) rfl rfl (by rfl) ?y8 ?c8 ?z8
  case y8 => (intro w' hSw; (try unfold QX at hSw); go_split_ands; go_simp; refine ⟨?_, ?_⟩ <;> with_reducible rfl)
  case c8 => (intro w' hSw; exact (HB1.out _).mono (fun e w2 hh => ⟨hh.1, hh.2 ▸ hSw⟩))
  try simp only [Act.put, List.setIfInBounds_toArray, List.set_cons_zero, List.set_cons_succ]
  refine Pre.pure (i := 9) (d := 12) (v := ?v9) rfl rfl (by rfl) ?y9 ?z9
  case y9 => (intro w' hSw; (try unfold QX at hSw); go_split_ands; go_simp; try with_reducible rfl)
  try simp only [Act.put, List.setIfInBounds_toArray, List.set_cons_zero, List.set_cons_succ]
  refine Pre.call (i := 10) (d := 13) (v := .int .i64 z2) (f := ?f10) (args := ?a10) rfl rfl (by rfl) ?y10 ?c10 ?z10
  case y10 => (intro w' hSw; (try unfold QX at hSw); go_split_ands; go_simp; refine ⟨?_, ?_⟩ <;> with_reducible rfl)
  case c10 => (intro w' hSw; exact (HA.out _ hSw.bl).mono (fun e w2 hh => ⟨hh.1, hSw.step hh.2⟩))
  try simp only [Act.put, List.setIfInBounds_toArray, List.set_cons_zero, List.set_cons_succ]
  refine Pre.pure (i := 11) (d := 14) (v := ?v11) rfl rfl (by rfl) ?y11 ?z11
  case y11 => (intro w' hSw; (try unfold QX at hSw); go_split_ands; go_simp; try with_reducible rfl)
  try simp only [Act.put, List.setIfInBounds_toArray, List.set_cons_zero, List.set_cons_succ]
  refine Pre.call (i := 12) (d := 15) (v := .int .i64 z3) (f := ?f12) (args := ?a12) rfl rfl (by rfl) ?y12 ?c12 ?z12
  case y12 => (intro w' hSw; (try unfold QX at hSw); go_split_ands; go_simp; refine ⟨?_, ?_⟩ <;> with_reducible rfl)
  case c12 => (intro w' hSw; exact (HC.out _ hSw.bl).mono (fun e w2 hh => ⟨hh.1, hSw.step hh.2⟩))
  try simp only [Act.put, List.setIfInBounds_toArray, List.set_cons_zero, List.set_cons_succ]
  refine Pre.pure (i := 13) (d := 16) (v := ?v13) rfl rfl (by rfl) ?y13 ?z13
  case y13 => (intro w' hSw; (try unfold QX at hSw); go_split_ands; go_simp; try with_reducible rfl)
  try simp only [Act.put, List.setIfInBounds_toArray, List.set_cons_zero, List.set_cons_succ]
  refine Pre.pure (i := 14) (d := 17) (v := ?v14) rfl rfl (by rfl) ?y14 ?z14
  case y14 => (intro w' hSw; (try unfold QX at hSw); go_split_ands; go_simp; try with_reducible rfl)
  try simp only [Act.put, List.setIfInBounds_toArray, List.set_cons_zero, List.set_cons_succ]
  refine Pre.pure (i := 15) (d := 18) (v := ?v15) rfl rfl (by rfl) ?y15 ?z15
  case y15 => (intro w' hSw; (try unfold QX at hSw); go_split_ands; go_simp; try with_reducible rfl)
  try simp only [Act.put, List.setIfInBounds_toArray, List.set_cons_zero, List.set_cons_succ]
  refine Pre.pure (i := 16) (d := 19) (v := ?v16) rfl rfl (by rfl) ?y16 ?z16
  case y16 => (intro w' hSw; (try unfold QX at hSw); go_split_ands; go_simp; try with_reducible rfl)
  try simp only [Act.put, List.setIfInBounds_toArray, List.set_cons_zero, List.set_cons_succ]
  refine Pre.call (i := 17) (d := 20) (v := .int .i64 z4) (f := ?f17) (args := ?a17) rfl rfl (by rfl) ?y17 ?c17 ?z17
  case y17 => (intro w' hSw; (try unfold QX at hSw); go_split_ands; go_simp; refine ⟨?_, ?_⟩ <;> with_reducible rfl)
  case c17 => (intro w' hSw; exact (HR.out _ hSw.bl).mono (fun e w2 hh => ⟨hh.1, hSw.step hh.2⟩))
  try simp only [Act.put, List.setIfInBounds_toArray, List.set_cons_zero, List.set_cons_succ]
  refine Pre.pure (i := 18) (d := 21) (v := ?v18) rfl rfl (by rfl) ?y18 ?z18
  case y18 => (intro w' hSw; (try unfold QX at hSw); go_split_ands; go_simp; try with_reducible rfl)
  try simp only [Act.put, List.setIfInBounds_toArray, List.set_cons_zero, List.set_cons_succ]
  refine Pre.pure (i := 19) (d := 22) (v := ?v19) rfl rfl (by rfl) ?y19 ?z19
  case y19 => (intro w' hSw; (try unfold QX at hSw); go_split_ands; go_simp; try with_reducible rfl)
  try simp only [Act.put, List.setIfInBounds_toArray, List.set_cons_zero, List.set_cons_succ]
  refine Pre.call (i := 20) (d := 23) (v := .int .i64 z5) (f := ?f20) (args := ?a20) rfl rfl (by rfl) ?y20 ?c20 ?z20
  case y20 => (intro w' hSw; (try unfold QX at hSw); go_split_ands; go_simp; refine ⟨?_, ?_⟩ <;> with_reducible rfl)
  case c20 => (intro w' hSw; exact (HN.out _).mono (fun e w2 hh => ⟨hh.1, hSw.step hh.2⟩))
  try simp only [Act.put, List.setIfInBounds_toArray, List.set_cons_zero, List.set_cons_succ]
  refine Pre.pure (i := 21) (d := 24) (v := ?v21) rfl rfl (by rfl) ?y21 ?z21
  case y21 => (intro w' hSw; (try unfold QX at hSw); go_split_ands; go_simp; try with_reducible rfl)
  try simp only [Act.put, List.setIfInBounds_toArray, List.set_cons_zero, List.set_cons_succ]
  refine Pre.pure (i := 22) (d := 25) (v := ?v22) rfl rfl (by rfl) ?y22 ?z22
  case y22 => (intro w' hSw; (try unfold QX at hSw); go_split_ands; go_simp; try with_reducible rfl)
  try simp only [Act.put, List.setIfInBounds_toArray, List.set_cons_zero, List.set_cons_succ]
  refine Pre.pure (i := 23) (d := 26) (v := ?v23) rfl rfl (by rfl) ?y23 ?z23
  case y23 => (intro w' hSw; (try unfold QX at hSw); go_split_ands; go_simp; try with_reducible rfl)
  try simp only [Act.put, List.setIfInBounds_toArray, List.set_cons_zero, List.set_cons_succ]
  refine Pre.pure (i := 24) (d := 27) (v := ?v24) rfl rfl (by rfl) ?y24 ?z24
  case y24 => (intro w' hSw; (try unfold QX at hSw); go_split_ands; go_simp; try with_reducible rfl)
  try simp only [Act.put, List.setIfInBounds_toArray, List.set_cons_zero, List.set_cons_succ]
  refine Pre.skip (i := 25) (d := 28) rfl rfl (by rfl) ?_
  try simp only [Act.put, List.setIfInBounds_toArray, List.set_cons_zero, List.set_cons_succ]
  refine Pre.skip (i := 26) (d := 29) rfl rfl (by rfl) ?_
  try simp only [Act.put, List.setIfInBounds_toArray, List.set_cons_zero, List.set_cons_succ]
  refine Pre.skip (i := 27) (d := 30) rfl rfl (by rfl) ?_
  try simp only [Act.put, List.setIfInBounds_toArray, List.set_cons_zero, List.set_cons_succ]
  refine Pre.skip (i := 28) (d := 31) rfl rfl (by rfl) ?_
  try simp only [Act.put, List.setIfInBounds_toArray, List.set_cons_zero, List.set_cons_succ]
  refine Pre.pure (i := 29) (d := 32) (v := ?v29) rfl rfl (by rfl) ?y29 ?z29
  case y29 => (intro w' hSw; (try unfold QX at hSw); go_split_ands; go_simp; try with_reducible rfl)
  try simp only [Act.put, List.setIfInBounds_toArray, List.set_cons_zero, List.set_cons_succ]
  refine Pre.call (i := 30) (d := 33) (v := .int .i64 z6) (f := ?f30) (args := ?a30) rfl rfl (by rfl) ?y30 ?c30 ?z30
  case y30 => (intro w' hSw; (try unfold QX at hSw); go_split_ands; go_simp; refine ⟨?_, ?_⟩ <;> with_reducible rfl)
  case c30 => (intro w' hSw; exact (HB2.out _).mono (fun e w2 hh => ⟨hh.1, hh.2 ▸ hSw⟩))
  try simp only [Act.put, List.setIfInBounds_toArray, List.set_cons_zero, List.set_cons_succ]
  refine Pre.done (by kernel_rfl) (by kernel_rfl) ?_
  intro W hS
  refine wpAnyH_ready (rs := [31]) (by kernel_rfl) (by simp) ?_
  refine AllReadyH.cons rfl (fun K hK => ?_) AllReadyH.nil
  go_simp
  have HL := Lib.hid (lies_vals W _ rfl #[.int .i64 z1, .int .i64 z2, .int .i64 z3, .int .i64 z4, .int .i64 z5, .int .i64 z6] 30 (iC [z1, z2, z3, z4, z5, z6]) rfl)
  refine hK.out _ _ (hS.step ((Below.refl _ _).alloc (Nat.le_refl _) _)) (fun hS1 => ?_)
  clear hK K
  try simp only [Act.put, List.setIfInBounds_toArray, List.set_cons_zero, List.set_cons_succ]
  refine wpAnyH_ready (rs := [32]) (by kernel_rfl) (by simp) ?_
  refine AllReadyH.cons rfl (fun K hK => ?_) AllReadyH.nil
  go_simp
  (go_at_call 19; refine (HO.out _ _ HL.out).mono ?_; rintro e w3 ⟨rfl, rfl⟩)
  refine hK.out _ _ hS1 (fun hS2 => ?_)
  clear hK K
  try simp only [Act.put, List.setIfInBounds_toArray, List.set_cons_zero, List.set_cons_succ]
  refine wpAnyH_ready (rs := [33]) (by kernel_rfl) (by simp) ?_
  refine AllReadyH.cons rfl (fun K hK => ?_) AllReadyH.nil
  go_simp
  refine hK.out _ _ hS2 (fun hS3 => ?_)
  clear hK K
  try simp only [Act.put, List.setIfInBounds_toArray, List.set_cons_zero, List.set_cons_succ]
  refine wpAnyH_done (by kernel_rfl) ?_ _
  go_wp2
  go_ret
  exact ⟨rfl, hS3.bl⟩
set_option maxHeartbeats 4000000 in
theorem chk_ft (g1 : Int) (A1 : Option Addr) (n1 c1 : Nat) (S1 : Option Addr) (m1 d1 : Nat) (j1 : Bool) (B1 : Option Addr) (o1 e1 : Nat) (k1 s1 v1 : Int) (y1 : Bool) (t1 : Int) (L1 M1 : List Nd) (l1 : List Int) (w : World) (h : QA w A1 n1 S1 m1 B1 o1 L1 M1 l1) (hs : s1 ≤ 9223372036854775807) (hg : inB g1 1 4 = false) (hj : j1 = true) (x : Int) (hx : firstE [badE (false), argE g1 L1, whrE M1, srcF l1 j1, winE k1 s1 v1, badE (k1 == 1)] = x) :
    Calls Try.prog 11 #[.agg #[.int .u8 g1, .slice A1 n1 c1, .slice S1 m1 d1, .bool j1, .slice B1 o1 e1, .int .u8 k1, .int .i64 s1, .int .i64 v1, .bool y1, .int .u8 t1]] w fun e w' => e = .returned (.int .i64 x) ∧ Below w.heap.size w w' := by
  subst hj
  have HS := Lib.hid (QX.step (QX.new (Bl.start w) g1 A1 n1 c1 S1 m1 d1 true B1 o1 e1 k1 s1 v1 y1 t1 27) (bd_drewN _ 1))
  have HW1 := Lib.hid (fun W => within_u8 g1 1 4 W _ hg)
  have HW2 := Lib.hid (fun W => within_u8 t1 1 2 W _ rfl)
  have HB1 := Lib.hid (fun W => bad_any (false) W _ rfl)
  have HA := Lib.hid (fun W (hb : Bl w W) => arg_any g1 A1 n1 c1 S1 m1 d1 true B1 o1 e1 k1 s1 v1 y1 t1 L1 M1 l1 W (h.step hb) _ rfl)
  have HC := Lib.hid (fun W (hb : Bl w W) => cond_any g1 A1 n1 c1 S1 m1 d1 true B1 o1 e1 k1 s1 v1 y1 t1 L1 M1 l1 W (h.step hb) _ rfl)
  have HR := Lib.hid (fun W (hb : Bl w W) => src_any S1 d1 m1 l1 true W h.2.1.2 (hb.lies h.2.1.1) _ rfl)
  have HN := Lib.hid (fun W => win_any k1 s1 v1 W hs _ rfl)
  have HB2 := Lib.hid (fun W => bad_any (k1 == 1) W _ rfl)
  have HO := Lib.hid (fun A W ht => or_any A 6 6 [badE (false), argE g1 L1, whrE M1, srcF l1 true, winE k1 s1 v1, badE (k1 == 1)] W rfl (by decide) ht x hx)
  clear hx h hs hg
  generalize badE (false) = z1 at HB1 HO
  generalize argE g1 L1 = z2 at HA HO
  generalize whrE M1 = z3 at HC HO
  generalize srcF l1 true = z4 at HR HO
  generalize winE k1 s1 v1 = z5 at HN HO
  generalize badE (k1 == 1) = z6 at HB2 HO
  go_enter Try.func11, Try.ntmps11
  go_upto_region 1 with fail
  refine wp_region_pre (S := QX w w.heap.size g1 A1 n1 c1 S1 m1 d1 true B1 o1 e1 k1 s1 v1 y1 t1) 3 (by kernel_rfl) HS.out ?_
  refine Pre.pure (i := 0) (d := 3) (v := ?v0) rfl rfl (by rfl) ?y0 ?z0
  case y0 => (intro w' hSw; (try unfold QX at hSw); go_split_ands; go_simp; try with_reducible rfl)
  try simp only [Act.put, List.setIfInBounds_toArray, List.set_cons_zero, List.set_cons_succ]
  refine Pre.pure (i := 1) (d := 4) (v := ?v1) rfl rfl (by rfl) ?y1 ?z1
  case y1 => (intro w' hSw; (try unfold QX at hSw); go_split_ands; go_simp; try with_reducible rfl)
  try simp only [Act.put, List.setIfInBounds_toArray, List.set_cons_zero, List.set_cons_succ]
  refine Pre.call (i := 2) (d := 5) (v := .bool false) (f := ?f2) (args := ?a2) rfl rfl (by rfl) ?y2 ?c2 ?z2
  case y2 => (intro w' hSw; (try unfold QX at hSw); go_split_ands; go_simp; refine ⟨?_, ?_⟩ <;> with_reducible rfl)
  case c2 => (intro w' hSw; exact (HW1.out _).mono (fun e w2 hh => ⟨hh.1, hh.2 ▸ hSw⟩))
  try simp only [Act.put, List.setIfInBounds_toArray, List.set_cons_zero, List.set_cons_succ]
  refine Pre.pure (i := 3) (d := 6) (v := ?v3) rfl rfl (by rfl) ?y3 ?z3
  case y3 => (intro w' hSw; (try unfold QX at hSw); go_split_ands; go_simp; try with_reducible rfl)
  try simp only [Act.put, List.setIfInBounds_toArray, List.set_cons_zero, List.set_cons_succ]
  refine Pre.skip (i := 4) (d := 7) rfl rfl (by rfl) ?_
  try simp only [Act.put, List.setIfInBounds_toArray, List.set_cons_zero, List.set_cons_succ]
  refine Pre.skip (i := 5) (d := 8) rfl rfl (by rfl) ?_
  try simp only [Act.put, List.setIfInBounds_toArray, List.set_cons_zero, List.set_cons_succ]
  refine Pre.skip (i := 6) (d := 9) rfl rfl (by rfl) ?_
  try simp only [Act.put, List.setIfInBounds_toArray, List.set_cons_zero, List.set_cons_succ]
  refine Pre.pure (i := 7) (d := 10) (v := ?v7) rfl rfl (by rfl) ?y7 ?z7
  case y7 => (intro w' hSw; (try unfold QX at hSw); go_split_ands; go_simp; try with_reducible rfl)
  try simp only [Act.put, List.setIfInBounds_toArray, List.set_cons_zero, List.set_cons_succ]
  refine Pre.call (i := 8) (d := 11) (v := .int .i64 z1) (f := ?f8) (args := ?a8) rfl rfl (by rfl) ?y8 ?c8 ?z8
  case y8 => (intro w' hSw; (try unfold QX at hSw); go_split_ands; go_simp; refine ⟨?_, ?_⟩ <;> with_reducible rfl)
  case c8 => (intro w' hSw; exact (HB1.out _).mono (fun e w2 hh => ⟨hh.1, hh.2 ▸ hSw⟩))
  try simp only [Act.put, List.setIfInBounds_toArray, List.set_cons_zero, List.set_cons_succ]
  refine Pre.pure (i := 9) (d := 12) (v := ?v9) rfl rfl (by rfl) ?y9 ?z9
  case y9 => (intro w' hSw; (try unfold QX at hSw); go_split_ands; go_simp; try with_reducible rfl)
  try simp only [Act.put, List.setIfInBounds_toArray, List.set_cons_zero, List.set_cons_succ]
  refine Pre.call (i := 10) (d := 13) (v := .int .i64 z2) (f := ?f10) (args := ?a10) rfl rfl (by rfl) ?y10 ?c10 ?z10
  case y10 => (intro w' hSw; (try unfold QX at hSw); go_split_ands; go_simp; refine ⟨?_, ?_⟩ <;> with_reducible rfl)
  case c10 => (intro w' hSw; exact (HA.out _ hSw.bl).mono (fun e w2 hh => ⟨hh.1, hSw.step hh.2⟩))
  try simp only [Act.put, List.setIfInBounds_toArray, List.set_cons_zero, List.set_cons_succ]
  refine Pre.pure (i := 11) (d := 14) (v := ?v11) rfl rfl (by rfl) ?y11 ?z11
  case y11 => (intro w' hSw; (try unfold QX at hSw); go_split_ands; go_simp; try with_reducible rfl)
  try simp only [Act.put, List.setIfInBounds_toArray, List.set_cons_zero, List.set_cons_succ]
  refine Pre.call (i := 12) (d := 15) (v := .int .i64 z3) (f := ?f12) (args := ?a12) rfl rfl (by rfl) ?y12 ?c12 ?z12
  case y12 => (intro w' hSw; (try unfold QX at hSw); go_split_ands; go_simp; refine ⟨?_, ?_⟩ <;> with_reducible rfl)
  case c12 => (intro w' hSw; exact (HC.out _ hSw.bl).mono (fun e w2 hh => ⟨hh.1, hSw.step hh.2⟩))
  try simp only [Act.put, List.setIfInBounds_toArray, List.set_cons_zero, List.set_cons_succ]
  refine Pre.pure (i := 13) (d := 16) (v := ?v13) rfl rfl (by rfl) ?y13 ?z13
  case y13 => (intro w' hSw; (try unfold QX at hSw); go_split_ands; go_simp; try with_reducible rfl)
  try simp only [Act.put, List.setIfInBounds_toArray, List.set_cons_zero, List.set_cons_succ]
  refine Pre.pure (i := 14) (d := 17) (v := ?v14) rfl rfl (by rfl) ?y14 ?z14
  case y14 => (intro w' hSw; (try unfold QX at hSw); go_split_ands; go_simp; try with_reducible rfl)
  try simp only [Act.put, List.setIfInBounds_toArray, List.set_cons_zero, List.set_cons_succ]
  refine Pre.pure (i := 15) (d := 18) (v := ?v15) rfl rfl (by rfl) ?y15 ?z15
  case y15 => (intro w' hSw; (try unfold QX at hSw); go_split_ands; go_simp; try with_reducible rfl)
  try simp only [Act.put, List.setIfInBounds_toArray, List.set_cons_zero, List.set_cons_succ]
  refine Pre.pure (i := 16) (d := 19) (v := ?v16) rfl rfl (by rfl) ?y16 ?z16
  case y16 => (intro w' hSw; (try unfold QX at hSw); go_split_ands; go_simp; try with_reducible rfl)
  try simp only [Act.put, List.setIfInBounds_toArray, List.set_cons_zero, List.set_cons_succ]
  refine Pre.call (i := 17) (d := 20) (v := .int .i64 z4) (f := ?f17) (args := ?a17) rfl rfl (by rfl) ?y17 ?c17 ?z17
  case y17 => (intro w' hSw; (try unfold QX at hSw); go_split_ands; go_simp; refine ⟨?_, ?_⟩ <;> with_reducible rfl)
  case c17 => (intro w' hSw; exact (HR.out _ hSw.bl).mono (fun e w2 hh => ⟨hh.1, hSw.step hh.2⟩))
  try simp only [Act.put, List.setIfInBounds_toArray, List.set_cons_zero, List.set_cons_succ]
  refine Pre.pure (i := 18) (d := 21) (v := ?v18) rfl rfl (by rfl) ?y18 ?z18
  case y18 => (intro w' hSw; (try unfold QX at hSw); go_split_ands; go_simp; try with_reducible rfl)
  try simp only [Act.put, List.setIfInBounds_toArray, List.set_cons_zero, List.set_cons_succ]
  refine Pre.pure (i := 19) (d := 22) (v := ?v19) rfl rfl (by rfl) ?y19 ?z19
  case y19 => (intro w' hSw; (try unfold QX at hSw); go_split_ands; go_simp; try with_reducible rfl)
  try simp only [Act.put, List.setIfInBounds_toArray, List.set_cons_zero, List.set_cons_succ]
  refine Pre.call (i := 20) (d := 23) (v := .int .i64 z5) (f := ?f20) (args := ?a20) rfl rfl (by rfl) ?y20 ?c20 ?z20
  case y20 => (intro w' hSw; (try unfold QX at hSw); go_split_ands; go_simp; refine ⟨?_, ?_⟩ <;> with_reducible rfl)
  case c20 => (intro w' hSw; exact (HN.out _).mono (fun e w2 hh => ⟨hh.1, hSw.step hh.2⟩))
  try simp only [Act.put, List.setIfInBounds_toArray, List.set_cons_zero, List.set_cons_succ]
  refine Pre.pure (i := 21) (d := 24) (v := ?v21) rfl rfl (by rfl) ?y21 ?z21
  case y21 => (intro w' hSw; (try unfold QX at hSw); go_split_ands; go_simp; try with_reducible rfl)
  try simp only [Act.put, List.setIfInBounds_toArray, List.set_cons_zero, List.set_cons_succ]
  refine Pre.pure (i := 22) (d := 25) (v := ?v22) rfl rfl (by rfl) ?y22 ?z22
  case y22 => (intro w' hSw; (try unfold QX at hSw); go_split_ands; go_simp; try with_reducible rfl)
  try simp only [Act.put, List.setIfInBounds_toArray, List.set_cons_zero, List.set_cons_succ]
  refine Pre.pure (i := 23) (d := 26) (v := ?v23) rfl rfl (by rfl) ?y23 ?z23
  case y23 => (intro w' hSw; (try unfold QX at hSw); go_split_ands; go_simp; try with_reducible rfl)
  try simp only [Act.put, List.setIfInBounds_toArray, List.set_cons_zero, List.set_cons_succ]
  refine Pre.pure (i := 24) (d := 27) (v := ?v24) rfl rfl (by rfl) ?y24 ?z24
  case y24 => (intro w' hSw; (try unfold QX at hSw); go_split_ands; go_simp; try with_reducible rfl)
  try simp only [Act.put, List.setIfInBounds_toArray, List.set_cons_zero, List.set_cons_succ]
  refine Pre.pure (i := 25) (d := 28) (v := ?v25) rfl rfl (by rfl) ?y25 ?z25
  case y25 => (intro w' hSw; (try unfold QX at hSw); go_split_ands; go_simp; try with_reducible rfl)
  try simp only [Act.put, List.setIfInBounds_toArray, List.set_cons_zero, List.set_cons_succ]
  refine Pre.pure (i := 26) (d := 29) (v := ?v26) rfl rfl (by rfl) ?y26 ?z26
  case y26 => (intro w' hSw; (try unfold QX at hSw); go_split_ands; go_simp; try with_reducible rfl)
  try simp only [Act.put, List.setIfInBounds_toArray, List.set_cons_zero, List.set_cons_succ]
  refine Pre.pure (i := 27) (d := 30) (v := ?v27) rfl rfl (by rfl) ?y27 ?z27
  case y27 => (intro w' hSw; (try unfold QX at hSw); go_split_ands; go_simp; try with_reducible rfl)
  try simp only [Act.put, List.setIfInBounds_toArray, List.set_cons_zero, List.set_cons_succ]
  refine Pre.pure (i := 28) (d := 31) (v := ?v28) rfl rfl (by rfl) ?y28 ?z28
  case y28 => (intro w' hSw; (try unfold QX at hSw); go_split_ands; go_simp; try with_reducible rfl)
  try simp only [Act.put, List.setIfInBounds_toArray, List.set_cons_zero, List.set_cons_succ]
  refine Pre.pure (i := 29) (d := 32) (v := ?v29) rfl rfl (by rfl) ?y29 ?z29
  case y29 => (intro w' hSw; (try unfold QX at hSw); go_split_ands; go_simp; try with_reducible rfl)
  try simp only [Act.put, List.setIfInBounds_toArray, List.set_cons_zero, List.set_cons_succ]
  refine Pre.call (i := 30) (d := 33) (v := .int .i64 z6) (f := ?f30) (args := ?a30) rfl rfl (by rfl) ?y30 ?c30 ?z30
  case y30 => (intro w' hSw; (try unfold QX at hSw); go_split_ands; go_simp; refine ⟨?_, ?_⟩ <;> with_reducible rfl)
  case c30 => (intro w' hSw; exact (HB2.out _).mono (fun e w2 hh => ⟨hh.1, hh.2 ▸ hSw⟩))
  try simp only [Act.put, List.setIfInBounds_toArray, List.set_cons_zero, List.set_cons_succ]
  refine Pre.done (by kernel_rfl) (by kernel_rfl) ?_
  intro W hS
  refine wpAnyH_ready (rs := [31]) (by kernel_rfl) (by simp) ?_
  refine AllReadyH.cons rfl (fun K hK => ?_) AllReadyH.nil
  go_simp
  have HL := Lib.hid (lies_vals W _ rfl #[.int .i64 z1, .int .i64 z2, .int .i64 z3, .int .i64 z4, .int .i64 z5, .int .i64 z6] 30 (iC [z1, z2, z3, z4, z5, z6]) rfl)
  refine hK.out _ _ (hS.step ((Below.refl _ _).alloc (Nat.le_refl _) _)) (fun hS1 => ?_)
  clear hK K
  try simp only [Act.put, List.setIfInBounds_toArray, List.set_cons_zero, List.set_cons_succ]
  refine wpAnyH_ready (rs := [32]) (by kernel_rfl) (by simp) ?_
  refine AllReadyH.cons rfl (fun K hK => ?_) AllReadyH.nil
  go_simp
  (go_at_call 19; refine (HO.out _ _ HL.out).mono ?_; rintro e w3 ⟨rfl, rfl⟩)
  refine hK.out _ _ hS1 (fun hS2 => ?_)
  clear hK K
  try simp only [Act.put, List.setIfInBounds_toArray, List.set_cons_zero, List.set_cons_succ]
  refine wpAnyH_ready (rs := [33]) (by kernel_rfl) (by simp) ?_
  refine AllReadyH.cons rfl (fun K hK => ?_) AllReadyH.nil
  go_simp
  refine hK.out _ _ hS2 (fun hS3 => ?_)
  clear hK K
  try simp only [Act.put, List.setIfInBounds_toArray, List.set_cons_zero, List.set_cons_succ]
  refine wpAnyH_done (by kernel_rfl) ?_ _
  go_wp2
  go_ret
  exact ⟨rfl, hS3.bl⟩
set_option maxHeartbeats 4000000 in
theorem chk_ff (g1 : Int) (A1 : Option Addr) (n1 c1 : Nat) (S1 : Option Addr) (m1 d1 : Nat) (j1 : Bool) (B1 : Option Addr) (o1 e1 : Nat) (k1 s1 v1 : Int) (y1 : Bool) (t1 : Int) (L1 M1 : List Nd) (l1 : List Int) (w : World) (h : QA w A1 n1 S1 m1 B1 o1 L1 M1 l1) (hs : s1 ≤ 9223372036854775807) (hg : inB g1 1 4 = false) (hj : j1 = false) (x : Int) (hx : firstE [badE (false), argE g1 L1, whrE M1, srcF l1 j1, winE k1 s1 v1, badE (true)] = x) :
    Calls Try.prog 11 #[.agg #[.int .u8 g1, .slice A1 n1 c1, .slice S1 m1 d1, .bool j1, .slice B1 o1 e1, .int .u8 k1, .int .i64 s1, .int .i64 v1, .bool y1, .int .u8 t1]] w fun e w' => e = .returned (.int .i64 x) ∧ Below w.heap.size w w' := by
  subst hj
  have HS := Lib.hid (QX.step (QX.new (Bl.start w) g1 A1 n1 c1 S1 m1 d1 false B1 o1 e1 k1 s1 v1 y1 t1 27) (bd_drewN _ 1))
  have HW1 := Lib.hid (fun W => within_u8 g1 1 4 W _ hg)
  have HW2 := Lib.hid (fun W => within_u8 t1 1 2 W _ rfl)
  have HB1 := Lib.hid (fun W => bad_any (false) W _ rfl)
  have HA := Lib.hid (fun W (hb : Bl w W) => arg_any g1 A1 n1 c1 S1 m1 d1 false B1 o1 e1 k1 s1 v1 y1 t1 L1 M1 l1 W (h.step hb) _ rfl)
  have HC := Lib.hid (fun W (hb : Bl w W) => cond_any g1 A1 n1 c1 S1 m1 d1 false B1 o1 e1 k1 s1 v1 y1 t1 L1 M1 l1 W (h.step hb) _ rfl)
  have HR := Lib.hid (fun W (hb : Bl w W) => src_any S1 d1 m1 l1 false W h.2.1.2 (hb.lies h.2.1.1) _ rfl)
  have HN := Lib.hid (fun W => win_any k1 s1 v1 W hs _ rfl)
  have HB2 := Lib.hid (fun W => bad_any (true) W _ rfl)
  have HO := Lib.hid (fun A W ht => or_any A 6 6 [badE (false), argE g1 L1, whrE M1, srcF l1 false, winE k1 s1 v1, badE (true)] W rfl (by decide) ht x hx)
  clear hx h hs hg
  generalize badE (false) = z1 at HB1 HO
  generalize argE g1 L1 = z2 at HA HO
  generalize whrE M1 = z3 at HC HO
  generalize srcF l1 false = z4 at HR HO
  generalize winE k1 s1 v1 = z5 at HN HO
  generalize badE (true) = z6 at HB2 HO
  go_enter Try.func11, Try.ntmps11
  go_upto_region 1 with fail
  refine wp_region_pre (S := QX w w.heap.size g1 A1 n1 c1 S1 m1 d1 false B1 o1 e1 k1 s1 v1 y1 t1) 3 (by kernel_rfl) HS.out ?_
  refine Pre.pure (i := 0) (d := 3) (v := ?v0) rfl rfl (by rfl) ?y0 ?z0
  case y0 => (intro w' hSw; (try unfold QX at hSw); go_split_ands; go_simp; try with_reducible rfl)
  try simp only [Act.put, List.setIfInBounds_toArray, List.set_cons_zero, List.set_cons_succ]
  refine Pre.pure (i := 1) (d := 4) (v := ?v1) rfl rfl (by rfl) ?y1 ?z1
  case y1 => (intro w' hSw; (try unfold QX at hSw); go_split_ands; go_simp; try with_reducible rfl)
  try simp only [Act.put, List.setIfInBounds_toArray, List.set_cons_zero, List.set_cons_succ]
  refine Pre.call (i := 2) (d := 5) (v := .bool false) (f := ?f2) (args := ?a2) rfl rfl (by rfl) ?y2 ?c2 ?z2
  case y2 => (intro w' hSw; (try unfold QX at hSw); go_split_ands; go_simp; refine ⟨?_, ?_⟩ <;> with_reducible rfl)
  case c2 => (intro w' hSw; exact (HW1.out _).mono (fun e w2 hh => ⟨hh.1, hh.2 ▸ hSw⟩))
  try simp only [Act.put, List.setIfInBounds_toArray, List.set_cons_zero, List.set_cons_succ]
  refine Pre.pure (i := 3) (d := 6) (v := ?v3) rfl rfl (by rfl) ?y3 ?z3
  case y3 => (intro w' hSw; (try unfold QX at hSw); go_split_ands; go_simp; try with_reducible rfl)
  try simp only [Act.put, List.setIfInBounds_toArray, List.set_cons_zero, List.set_cons_succ]
  refine Pre.skip (i := 4) (d := 7) rfl rfl (by rfl) ?_
  try simp only [Act.put, List.setIfInBounds_toArray, List.set_cons_zero, List.set_cons_succ]
  refine Pre.skip (i := 5) (d := 8) rfl rfl (by rfl) ?_
  try simp only [Act.put, List.setIfInBounds_toArray, List.set_cons_zero, List.set_cons_succ]
  refine Pre.skip (i := 6) (d := 9) rfl rfl (by rfl) ?_
  try simp only [Act.put, List.setIfInBounds_toArray, List.set_cons_zero, List.set_cons_succ]
  refine Pre.pure (i := 7) (d := 10) (v := ?v7) rfl rfl (by rfl) ?y7 ?z7
  case y7 => (intro w' hSw; (try unfold QX at hSw); go_split_ands; go_simp; try with_reducible rfl)
  try simp only [Act.put, List.setIfInBounds_toArray, List.set_cons_zero, List.set_cons_succ]
  refine Pre.call (i := 8) (d := 11) (v := .int .i64 z1) (f := ?f8) (args := ?a8) rfl rfl (by rfl) ?y8 ?c8 ?z8
  case y8 => (intro w' hSw; (try unfold QX at hSw); go_split_ands; go_simp; refine ⟨?_, ?_⟩ <;> with_reducible rfl)
  case c8 => (intro w' hSw; exact (HB1.out _).mono (fun e w2 hh => ⟨hh.1, hh.2 ▸ hSw⟩))
  try simp only [Act.put, List.setIfInBounds_toArray, List.set_cons_zero, List.set_cons_succ]
  refine Pre.pure (i := 9) (d := 12) (v := ?v9) rfl rfl (by rfl) ?y9 ?z9
  case y9 => (intro w' hSw; (try unfold QX at hSw); go_split_ands; go_simp; try with_reducible rfl)
  try simp only [Act.put, List.setIfInBounds_toArray, List.set_cons_zero, List.set_cons_succ]
  refine Pre.call (i := 10) (d := 13) (v := .int .i64 z2) (f := ?f10) (args := ?a10) rfl rfl (by rfl) ?y10 ?c10 ?z10
  case y10 => (intro w' hSw; (try unfold QX at hSw); go_split_ands; go_simp; refine ⟨?_, ?_⟩ <;> with_reducible rfl)
  case c10 => (intro w' hSw; exact (HA.out _ hSw.bl).mono (fun e w2 hh => ⟨hh.1, hSw.step hh.2⟩))
  try simp only [Act.put, List.setIfInBounds_toArray, List.set_cons_zero, List.set_cons_succ]
  refine Pre.pure (i := 11) (d := 14) (v := ?v11) rfl rfl (by rfl) ?y11 ?z11
  case y11 => (intro w' hSw; (try unfold QX at hSw); go_split_ands; go_simp; try with_reducible rfl)
  try simp only [Act.put, List.setIfInBounds_toArray, List.set_cons_zero, List.set_cons_succ]
  refine Pre.call (i := 12) (d := 15) (v := .int .i64 z3) (f := ?f12) (args := ?a12) rfl rfl (by rfl) ?y12 ?c12 ?z12
  case y12 => (intro w' hSw; (try unfold QX at hSw); go_split_ands; go_simp; refine ⟨?_, ?_⟩ <;> with_reducible rfl)
  case c12 => (intro w' hSw; exact (HC.out _ hSw.bl).mono (fun e w2 hh => ⟨hh.1, hSw.step hh.2⟩))
  try simp only [Act.put, List.setIfInBounds_toArray, List.set_cons_zero, List.set_cons_succ]
  refine Pre.pure (i := 13) (d := 16) (v := ?v13) rfl rfl (by rfl) ?y13 ?z13
  case y13 => (intro w' hSw; (try unfold QX at hSw); go_split_ands; go_simp; try with_reducible rfl)
  try simp only [Act.put, List.setIfInBounds_toArray, List.set_cons_zero, List.set_cons_succ]
  refine Pre.pure (i := 14) (d := 17) (v := ?v14) rfl rfl (by rfl) ?y14 ?z14
  case y14 => (intro w' hSw; (try unfold QX at hSw); go_split_ands; go_simp; try with_reducible rfl)
  try simp only [Act.put, List.setIfInBounds_toArray, List.set_cons_zero, List.set_cons_succ]
  refine Pre.pure (i := 15) (d := 18) (v := ?v15) rfl rfl (by rfl) ?y15 ?z15
  case y15 => (intro w' hSw; (try unfold QX at hSw); go_split_ands; go_simp; try with_reducible rfl)
  try simp only [Act.put, List.setIfInBounds_toArray, List.set_cons_zero, List.set_cons_succ]
  refine Pre.pure (i := 16) (d := 19) (v := ?v16) rfl rfl (by rfl) ?y16 ?z16
  case y16 => (intro w' hSw; (try unfold QX at hSw); go_split_ands; go_simp; try with_reducible rfl)
  try simp only [Act.put, List.setIfInBounds_toArray, List.set_cons_zero, List.set_cons_succ]
  refine Pre.call (i := 17) (d := 20) (v := .int .i64 z4) (f := ?f17) (args := ?a17) rfl rfl (by rfl) ?y17 ?c17 ?z17
  case y17 => (intro w' hSw; (try unfold QX at hSw); go_split_ands; go_simp; refine ⟨?_, ?_⟩ <;> with_reducible rfl)
  case c17 => (intro w' hSw; exact (HR.out _ hSw.bl).mono (fun e w2 hh => ⟨hh.1, hSw.step hh.2⟩))
  try simp only [Act.put, List.setIfInBounds_toArray, List.set_cons_zero, List.set_cons_succ]
  refine Pre.pure (i := 18) (d := 21) (v := ?v18) rfl rfl (by rfl) ?y18 ?z18
  case y18 => (intro w' hSw; (try unfold QX at hSw); go_split_ands; go_simp; try with_reducible rfl)
  try simp only [Act.put, List.setIfInBounds_toArray, List.set_cons_zero, List.set_cons_succ]
  refine Pre.pure (i := 19) (d := 22) (v := ?v19) rfl rfl (by rfl) ?y19 ?z19
  case y19 => (intro w' hSw; (try unfold QX at hSw); go_split_ands; go_simp; try with_reducible rfl)
  try simp only [Act.put, List.setIfInBounds_toArray, List.set_cons_zero, List.set_cons_succ]
  refine Pre.call (i := 20) (d := 23) (v := .int .i64 z5) (f := ?f20) (args := ?a20) rfl rfl (by rfl) ?y20 ?c20 ?z20
  case y20 => (intro w' hSw; (try unfold QX at hSw); go_split_ands; go_simp; refine ⟨?_, ?_⟩ <;> with_reducible rfl)
  case c20 => (intro w' hSw; exact (HN.out _).mono (fun e w2 hh => ⟨hh.1, hSw.step hh.2⟩))
  try simp only [Act.put, List.setIfInBounds_toArray, List.set_cons_zero, List.set_cons_succ]
  refine Pre.pure (i := 21) (d := 24) (v := ?v21) rfl rfl (by rfl) ?y21 ?z21
  case y21 => (intro w' hSw; (try unfold QX at hSw); go_split_ands; go_simp; try with_reducible rfl)
  try simp only [Act.put, List.setIfInBounds_toArray, List.set_cons_zero, List.set_cons_succ]
  refine Pre.pure (i := 22) (d := 25) (v := ?v22) rfl rfl (by rfl) ?y22 ?z22
  case y22 => (intro w' hSw; (try unfold QX at hSw); go_split_ands; go_simp; try with_reducible rfl)
  try simp only [Act.put, List.setIfInBounds_toArray, List.set_cons_zero, List.set_cons_succ]
  refine Pre.pure (i := 23) (d := 26) (v := ?v23) rfl rfl (by rfl) ?y23 ?z23
  case y23 => (intro w' hSw; (try unfold QX at hSw); go_split_ands; go_simp; try with_reducible rfl)
  try simp only [Act.put, List.setIfInBounds_toArray, List.set_cons_zero, List.set_cons_succ]
  refine Pre.pure (i := 24) (d := 27) (v := ?v24) rfl rfl (by rfl) ?y24 ?z24
  case y24 => (intro w' hSw; (try unfold QX at hSw); go_split_ands; go_simp; try with_reducible rfl)
  try simp only [Act.put, List.setIfInBounds_toArray, List.set_cons_zero, List.set_cons_succ]
  refine Pre.skip (i := 25) (d := 28) rfl rfl (by rfl) ?_
  try simp only [Act.put, List.setIfInBounds_toArray, List.set_cons_zero, List.set_cons_succ]
  refine Pre.skip (i := 26) (d := 29) rfl rfl (by rfl) ?_
  try simp only [Act.put, List.setIfInBounds_toArray, List.set_cons_zero, List.set_cons_succ]
  refine Pre.skip (i := 27) (d := 30) rfl rfl (by rfl) ?_
  try simp only [Act.put, List.setIfInBounds_toArray, List.set_cons_zero, List.set_cons_succ]
  refine Pre.skip (i := 28) (d := 31) rfl rfl (by rfl) ?_
  try simp only [Act.put, List.setIfInBounds_toArray, List.set_cons_zero, List.set_cons_succ]
  refine Pre.pure (i := 29) (d := 32) (v := ?v29) rfl rfl (by rfl) ?y29 ?z29
  case y29 => (intro w' hSw; (try unfold QX at hSw); go_split_ands; go_simp; try with_reducible rfl)
  try simp only [Act.put, List.setIfInBounds_toArray, List.set_cons_zero, List.set_cons_succ]
  refine Pre.call (i := 30) (d := 33) (v := .int .i64 z6) (f := ?f30) (args := ?a30) rfl rfl (by rfl) ?y30 ?c30 ?z30
  case y30 => (intro w' hSw; (try unfold QX at hSw); go_split_ands; go_simp; refine ⟨?_, ?_⟩ <;> with_reducible rfl)
  case c30 => (intro w' hSw; exact (HB2.out _).mono (fun e w2 hh => ⟨hh.1, hh.2 ▸ hSw⟩))
  try simp only [Act.put, List.setIfInBounds_toArray, List.set_cons_zero, List.set_cons_succ]
  refine Pre.done (by kernel_rfl) (by kernel_rfl) ?_
  intro W hS
  refine wpAnyH_ready (rs := [31]) (by kernel_rfl) (by simp) ?_
  refine AllReadyH.cons rfl (fun K hK => ?_) AllReadyH.nil
  go_simp
  have HL := Lib.hid (lies_vals W _ rfl #[.int .i64 z1, .int .i64 z2, .int .i64 z3, .int .i64 z4, .int .i64 z5, .int .i64 z6] 30 (iC [z1, z2, z3, z4, z5, z6]) rfl)
  refine hK.out _ _ (hS.step ((Below.refl _ _).alloc (Nat.le_refl _) _)) (fun hS1 => ?_)
  clear hK K
  try simp only [Act.put, List.setIfInBounds_toArray, List.set_cons_zero, List.set_cons_succ]
  refine wpAnyH_ready (rs := [32]) (by kernel_rfl) (by simp) ?_
  refine AllReadyH.cons rfl (fun K hK => ?_) AllReadyH.nil
  go_simp
  (go_at_call 19; refine (HO.out _ _ HL.out).mono ?_; rintro e w3 ⟨rfl, rfl⟩)
  refine hK.out _ _ hS1 (fun hS2 => ?_)
  clear hK K
  try simp only [Act.put, List.setIfInBounds_toArray, List.set_cons_zero, List.set_cons_succ]
  refine wpAnyH_ready (rs := [33]) (by kernel_rfl) (by simp) ?_
  refine AllReadyH.cons rfl (fun K hK => ?_) AllReadyH.nil
  go_simp
  refine hK.out _ _ hS2 (fun hS3 => ?_)
  clear hK K
  try simp only [Act.put, List.setIfInBounds_toArray, List.set_cons_zero, List.set_cons_succ]
  refine wpAnyH_done (by kernel_rfl) ?_ _
  go_wp2
  go_ret
  exact ⟨rfl, hS3.bl⟩
theorem chk_any (g1 : Int) (A1 : Option Addr) (n1 c1 : Nat) (S1 : Option Addr) (m1 d1 : Nat) (j1 : Bool) (B1 : Option Addr) (o1 e1 : Nat) (k1 s1 v1 : Int) (y1 : Bool) (t1 : Int) (L1 M1 : List Nd) (l1 : List Int) (w : World) (h : QA w A1 n1 S1 m1 B1 o1 L1 M1 l1) (hs : s1 ≤ 9223372036854775807) (x : Int) (hx : chkF ⟨g1, L1, l1, j1, M1, k1, s1, v1, y1, t1⟩ = x) :
    Calls Try.prog 11 #[.agg #[.int .u8 g1, .slice A1 n1 c1, .slice S1 m1 d1, .bool j1, .slice B1 o1 e1, .int .u8 k1, .int .i64 s1, .int .i64 v1, .bool y1, .int .u8 t1]] w fun e w' => e = .returned (.int .i64 x) ∧ Below w.heap.size w w' := by
  unfold chkF chkL at hx
  simp only at hx
  cases j1 <;> cases hg : inB g1 1 4
  all_goals
    rw [hg] at hx
    simp only [Bool.false_and, Bool.true_and, Bool.not_true, Bool.not_false, Bool.true_or, Bool.false_or] at hx
  · exact chk_ff g1 A1 n1 c1 S1 m1 d1 _ B1 o1 e1 k1 s1 v1 y1 t1 L1 M1 l1 w h hs hg rfl x hx
  · exact chk_tf g1 A1 n1 c1 S1 m1 d1 _ B1 o1 e1 k1 s1 v1 y1 t1 L1 M1 l1 w h hs hg rfl x hx
  · exact chk_ft g1 A1 n1 c1 S1 m1 d1 _ B1 o1 e1 k1 s1 v1 y1 t1 L1 M1 l1 w h hs hg rfl x hx
  · exact chk_tt g1 A1 n1 c1 S1 m1 d1 _ B1 o1 e1 k1 s1 v1 y1 t1 L1 M1 l1 w h hs hg rfl x hx
end Go.Proofs.Ytaijhkfbfkdepaa.Q8
