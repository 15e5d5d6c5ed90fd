/- ExprsBinds: its walks. -/
import Derived.Test.YtoobggcopoljcaaDoorELBind2
import Derived.Deep.RegionHeld3
namespace Go.Proofs.YtoobggcopoljcaaDoor
open Go.ChangeShapes Go.WideShapes Go.ChangeAt Go.RowKit N4
set_option linter.unusedVariables false
set_option maxRecDepth 100000

theorem ops_g (w : World) (mf mg : Nat) (hmf : mf < 13) (hmg : mg < 13) (W : World) (hW : G5 w W) : Calls Tryd.prog 21 #[] W fun e w' => e = .returned (.slice (some ⟨W.heap.size, 0, none⟩) 13 13) ∧ w'.cell? ⟨W.heap.size, mf, none⟩ = some (.string (bytesOf (opB (7 + (mf : Int))))) ∧ w'.cell? ⟨W.heap.size, mg, none⟩ = some (.string (bytesOf (opB (7 + (mg : Int))))) ∧ W.heap.size < w'.heap.size ∧ G5 w w' :=
  (rops_tab W).mono fun e w' ⟨he, ht, hb⟩ => ⟨he, ht.cellAt (op_table mf hmf), ht.cellAt (op_table mg hmg), ht.lt, hW.step hb⟩

set_option maxHeartbeats 4000000 in
theorem binds_long (A1 A2 A3 : Option Addr) (c1 c2 c3 n1 n2 n3 : Nat) (a b c : Tr) (mf mg : Nat) (hmf : mf < 13) (hmg : mg < 13) (w : World) (hg : G5 w w) (h1 : BIn w A1 c1 n1 a) (h2 : BIn w A2 c2 n2 b) (h3 : BIn w A3 c3 n3 c) (hlen : 400 < (bT a b c (7 + (mf : Int)) (7 + (mg : Int))).length) :
    Calls Tryd.prog 7 #[.slice A1 n1 c1, .slice A2 n2 c2, .slice A3 n3 c3, .int .u8 (7 + (mf : Int)), .int .u8 (7 + (mg : Int))] w fun e w' => e = .returned (.bool true) ∧ G5 w w' := by
  have hf : 7 ≤ 7 + (mf : Int) ∧ 7 + (mf : Int) ≤ 19 := by omega
  have hgg : 7 ≤ 7 + (mg : Int) ∧ 7 + (mg : Int) ≤ 19 := by omega
  have hG := hg
  have K1 := Lib.hid h1.check
  have K2 := Lib.hid h2.check
  have K3 := Lib.hid h3.check
  have X1 := Lib.hid h1.text
  have X2 := Lib.hid h2.text
  have X3 := Lib.hid h3.text
  have u1 := h1.le
  have u2 := h2.le
  have u3 := h3.le
  have OP := Lib.hid (ops_g w mf mg hmf hmg)
  obtain ⟨s1, s2, s3, s4, s5, s6, s7, s8, s9, k1, k2, k3, k4, k5, k6, k7, k8, k9, k10⟩ := adds10 (bytesOf a.wr) (bytesOf b.wr) (bytesOf c.wr) (bytesOf (opB (7 + (mf : Int)))) (bytesOf (opB (7 + (mg : Int)))) a.wr b.wr c.wr (opB (7 + (mf : Int))) (opB (7 + (mg : Int))) rfl rfl rfl rfl rfl h1.wr_len h2.wr_len h3.wr_len (opB_len _) (opB_len _)
  have hbT : bT a b c (7 + (mf : Int)) (7 + (mg : Int)) = (([40] ++ a.wr ++ [41]) ++ [32] ++ opB (7 + (mf : Int)) ++ [32] ++ ([40] ++ b.wr ++ [41])) ++ [32] ++ opB (7 + (mg : Int)) ++ [32] ++ ([40] ++ c.wr ++ [41]) := rfl
  rw [← hbT] at k10
  have hfx1 : (7 + (mf : Int)) - 7 = (mf : Int) := by omega
  have hfx2 : IntKind.u8.wrap ((7 + (mf : Int)) - 7) = (mf : Int) := by rw [hfx1]; unfold IntKind.wrap; simp [IntKind.bits, IntKind.signed]; omega
  have hfx3 : IntKind.u8.wrap (mf : Int) = (mf : Int) := by unfold IntKind.wrap; simp [IntKind.bits, IntKind.signed]; omega
  have hfx4 : (mf : Int) < 13 := by omega
  have hgx1 : (7 + (mg : Int)) - 7 = (mg : Int) := by omega
  have hgx2 : IntKind.u8.wrap ((7 + (mg : Int)) - 7) = (mg : Int) := by rw [hgx1]; unfold IntKind.wrap; simp [IntKind.bits, IntKind.signed]; omega
  have hgx3 : IntKind.u8.wrap (mg : Int) = (mg : Int) := by unfold IntKind.wrap; simp [IntKind.bits, IntKind.signed]; omega
  have hgx4 : (mg : Int) < 13 := by omega
  have hfx6 : decide ((mf : Int) < 13) = true := by simp; omega
  have hfx7 : (mf : Int) < ((13 : Nat) : Int) := by omega
  have hfx8 : (mf : Int).toNat = mf := by omega
  have hgx6 : decide ((mg : Int) < 13) = true := by simp; omega
  have hgx7 : (mg : Int) < ((13 : Nat) : Int) := by omega
  have hgx8 : (mg : Int).toNat = mg := by omega
  have hsz : 400 < (bytesOf (bT a b c (7 + (mf : Int)) (7 + (mg : Int)))).size := by rw [bytesOf_size]; exact hlen
  clear hbT hlen
  generalize bytesOf (bT a b c (7 + (mf : Int)) (7 + (mg : Int))) = TT at k10 hsz
  generalize bytesOf (opB (7 + (mf : Int))) = F at OP k3
  generalize bytesOf (opB (7 + (mg : Int))) = Gg at OP k7
  unfold Adds at k1 k2 k3 k4 k5 k6 k7 k8 k9 k10
  generalize bytesOf a.wr = TA at X1 k1
  generalize bytesOf b.wr = TBB at X2 k5
  generalize bytesOf c.wr = TC at X3 k9
  clear hg h1 h2 h3 hf hgg
  go_enter Tryd.func7, Tryd.ntmps7
  go_wp2_with (first
    | (go_at_call 14; with_reducible refine (K1.out _ (by assumption)).mono ?_; rintro e w1 ⟨rfl, hg1⟩)
    | (go_at_call 14; with_reducible refine (K2.out _ (by assumption)).mono ?_; rintro e w2 ⟨rfl, hg2⟩)
    | (go_at_call 14; with_reducible refine (K3.out _ (by assumption)).mono ?_; rintro e w3 ⟨rfl, hg3⟩)
    | (go_at_call 11; with_reducible refine (X1.out _ (by assumption)).mono ?_; rintro e w4 ⟨rfl, hg4⟩)
    | (go_at_call 11; with_reducible refine (X2.out _ (by assumption)).mono ?_; rintro e w5 ⟨rfl, hg5⟩)
    | (go_at_call 11; with_reducible refine (X3.out _ (by assumption)).mono ?_; rintro e w6 ⟨rfl, hg6⟩)
    | (go_at_call 21; refine (OP.out _ hg6).mono ?_; rintro e w7 ⟨rfl, q1, q2, q3, hg7⟩))
  generalize w6.heap.size = D at q1 q2 q3 ⊢
  have hS2 := Lib.hid (show w7.drew.cell? ⟨D, mf, none⟩ = some (.string F) ∧ w7.drew.cell? ⟨D, mg, none⟩ = some (.string Gg) ∧ D < w7.drew.heap.size ∧ G5 w w7.drew from ⟨q1, q2, q3, hg7.step (bd_drewN _ 1)⟩)
  clear q1 q2 q3 hg7 hg1 hg2 hg3 hg4 hg5 hg6 hG
  go_region_held3 (fun w' => w'.cell? ⟨D, mf, none⟩ = some (.string F) ∧ w'.cell? ⟨D, mg, none⟩ = some (.string Gg) ∧ D < w'.heap.size ∧ G5 w w') (first | exact hS2.out | assumption) (fail)
  have hg8 := hS2.out.2.2.2
  go_wp2_with (go_at_call 12; refine (alive_g w _ hg8).mono ?_; rintro e w' ⟨rfl, hga⟩)
  go_ret
  exact ⟨rfl, by assumption⟩
end Go.Proofs.YtoobggcopoljcaaDoor
