/- ExprsBinds: its walks. -/
import Derived.Test.YtoobggcopoljcaaDoorELBd0
import Derived.Deep.RegionHeld3
namespace Go.Proofs.YtoobggcopoljcaaDoor
open Go.ChangeShapes Go.WideShapes Go.ChangeAt Go.RowKit N4
set_option linter.unusedVariables false
set_option maxRecDepth 100000

set_option maxHeartbeats 8000000 in
theorem binds_rightn (A1 A2 A3 : Option Addr) (c1 c2 c3 n1 n2 n3 : Nat) (a b c : Tr) (mf mg : Nat) (hmf : mf < 13) (hmg : mg < 13) (w : World) (hg : G5 w w) (h1 : BIn w A1 c1 n1 a) (h2 : BIn w A2 c2 n2 b) (h3 : BIn w A3 c3 n3 c) (hlen : (bT a b c (7 + (mf : Int)) (7 + (mg : Int))).length ≤ 400) (hst : st (7 + (mf : Int)) < st (7 + (mg : Int))) (h33 : st (7 + (mf : Int)) ≠ 3) :
    Calls Tryd.prog 7 #[.slice A1 n1 c1, .slice A2 n2 c2, .slice A3 n3 c3, .int .u8 (7 + (mf : Int)), .int .u8 (7 + (mg : Int))] w fun e w' => e = .returned (.bool true) ∧ G5 w w' := by
  have hf : 7 ≤ 7 + (mf : Int) ∧ 7 + (mf : Int) ≤ 19 := by omega
  have hgg : 7 ≤ 7 + (mg : Int) ∧ 7 + (mg : Int) ≤ 19 := by omega
  have hG := hg
  have K1 := Lib.hid h1.check
  have K2 := Lib.hid h2.check
  have K3 := Lib.hid h3.check
  have X1 := Lib.hid h1.text
  have X2 := Lib.hid h2.text
  have X3 := Lib.hid h3.text
  have u1 := h1.le
  have u2 := h2.le
  have u3 := h3.le
  have OP := Lib.hid (ops_g w mf mg hmf hmg)
  obtain ⟨s1, s2, s3, s4, s5, s6, s7, s8, s9, k1, k2, k3, k4, k5, k6, k7, k8, k9, k10⟩ := adds10 (bytesOf a.wr) (bytesOf b.wr) (bytesOf c.wr) (bytesOf (opB (7 + (mf : Int)))) (bytesOf (opB (7 + (mg : Int)))) a.wr b.wr c.wr (opB (7 + (mf : Int))) (opB (7 + (mg : Int))) rfl rfl rfl rfl rfl h1.wr_len h2.wr_len h3.wr_len (opB_len _) (opB_len _)
  have hbT : bT a b c (7 + (mf : Int)) (7 + (mg : Int)) = (([40] ++ a.wr ++ [41]) ++ [32] ++ opB (7 + (mf : Int)) ++ [32] ++ ([40] ++ b.wr ++ [41])) ++ [32] ++ opB (7 + (mg : Int)) ++ [32] ++ ([40] ++ c.wr ++ [41]) := rfl
  rw [← hbT] at k10
  have hfx1 : (7 + (mf : Int)) - 7 = (mf : Int) := by omega
  have hfx2 : IntKind.u8.wrap ((7 + (mf : Int)) - 7) = (mf : Int) := by rw [hfx1]; unfold IntKind.wrap; simp [IntKind.bits, IntKind.signed]; omega
  have hfx3 : IntKind.u8.wrap (mf : Int) = (mf : Int) := by unfold IntKind.wrap; simp [IntKind.bits, IntKind.signed]; omega
  have hfx4 : (mf : Int) < 13 := by omega
  have hgx1 : (7 + (mg : Int)) - 7 = (mg : Int) := by omega
  have hgx2 : IntKind.u8.wrap ((7 + (mg : Int)) - 7) = (mg : Int) := by rw [hgx1]; unfold IntKind.wrap; simp [IntKind.bits, IntKind.signed]; omega
  have hgx3 : IntKind.u8.wrap (mg : Int) = (mg : Int) := by unfold IntKind.wrap; simp [IntKind.bits, IntKind.signed]; omega
  have hgx4 : (mg : Int) < 13 := by omega
  have hfx6 : decide ((mf : Int) < 13) = true := by simp; omega
  have hfx7 : (mf : Int) < ((13 : Nat) : Int) := by omega
  have hfx8 : (mf : Int).toNat = mf := by omega
  have hgx6 : decide ((mg : Int) < 13) = true := by simp; omega
  have hgx7 : (mg : Int) < ((13 : Nat) : Int) := by omega
  have hgx8 : (mg : Int).toNat = mg := by omega
  obtain ⟨M1, M2, M3, y1, y2, q, hlx, m1, m2, m3, hy1, hy2⟩ := binds_lex h1 h2 h3 hf hgg
  have ea := (back a h1.ok h1.big h1.er).1
  have eb := (back b h2.ok h2.big h2.er).1
  have ec := (back c h3.ok h3.big h3.er).1
  have v1 := h1.sz
  have v2 := h2.sz
  have v3 := h3.sz
  have w1' := a.dp_le
  have w2' := b.dp_le
  have w3' := c.dp_le
  have hie : (Tr.bin (7 + (mg : Int)) 0 b c).er = 0 := bin_small (by omega) (by omega) (by omega)
  have hwer : (Tr.bin (7 + (mf : Int)) 0 a (.bin (7 + (mg : Int)) 0 b c)).er = 0 := bin_small (by omega) (by simp only [Tr.dp]; omega) (by simp only [Tr.sz]; omega)
  have hio : (Tr.bin (7 + (mg : Int)) 0 b c).ok = true := bin_ok hgg ⟨by omega, by omega⟩ h2.ok h3.ok
  have hwok : (Tr.bin (7 + (mf : Int)) 0 a (.bin (7 + (mg : Int)) 0 b c)).ok = true := bin_ok hf ⟨by omega, by omega⟩ h1.ok hio
  obtain ⟨t', hz, hr⟩ := binds_right ea eb ec m1 m2 m3 hf hgg hy1 hy2 (by have := (st_lt (f := 7 + (mf : Int)) (g := 7 + (mg : Int))).2; omega) (fun a' b' p g1 g2 => er_bin_small g1 g2 hie) (fun a' b' p g1 g2 => er_bin_small g1 g2 hwer)
  obtain ⟨want, hwant⟩ : ∃ want, Tr.bin (7 + (mf : Int)) 0 a (.bin (7 + (mg : Int)) 0 b c) = want := ⟨_, rfl⟩
  have hall := allF_of hlen hlx
  rw [if_pos rfl] at hall
  obtain ⟨M, hMM⟩ : ∃ M, M1 ++ y1 :: (M2 ++ y2 :: M3) = M := ⟨_, rfl⟩
  rw [hMM] at hall hr
  have hM1 : M = (allF (bT a b c (7 + (mf : Int)) (7 + (mg : Int)))).1 := by rw [hall]
  have hsm := allF_small (bT a b c (7 + (mf : Int)) (7 + (mg : Int)))
  rw [← hM1] at hsm
  have hck : chkF M = 0 := by rw [hM1]; exact allF_chk _
  have hgd := hr.good (fun x hx => (chk_zero hck).2.2 x hx) trivial rfl
  have HL := Lib.hid (fun (W : World) (hW : G5 w W) => all_g (bT a b c (7 + (mf : Int)) (7 + (mg : Int))) (by unfold maxLen; omega) M q 0 hall w W hW)
  have HP := Lib.hid (fun A4 c4 (W : World) (hW : G5 w W) (hT : Toks W A4 M) => parse_g A4 c4 M.length M 0 _ rfl hsm.1 hck (Nat.zero_le _) hr w W hW hT)
  have hsz : ¬ (400 < (bytesOf (bT a b c (7 + (mf : Int)) (7 + (mg : Int)))).size) := by rw [bytesOf_size]; omega
  have S1 := Lib.hid (fun W => stren_any (7 + (mf : Int)) hf W)
  have S2 := Lib.hid (fun W => stren_any (7 + (mg : Int)) hgg W)
  have hs1 : ¬ ((st (7 + (mf : Int)) : Nat) : Int) = 3 := by omega
  have hs2 : ((st (7 + (mf : Int)) : Nat) : Int) < ((st (7 + (mg : Int)) : Nat) : Int) := by omega
  generalize ((st (7 + (mf : Int)) : Nat) : Int) = sf at S1 hs1 hs2
  generalize ((st (7 + (mg : Int)) : Nat) : Int) = sg at S2 hs2
  have N1 := Lib.hid (fun (W : World) (T : TypeId) (hW : G5 w W) => bin_node w A2 A3 c2 c3 n2 n3 b c (7 + (mg : Int)) hgg h2.sz h3.sz ⟨h2.ok, h2.er⟩ ⟨h3.ok, h3.er⟩ hie _ rfl W hW (h2.lies.below hW.1) (h3.lies.below hW.1) T)
  have N2 := Lib.hid (fun (W : World) (A6 : Option Addr) (c6 : Nat) (T : TypeId) (hW : G5 w W) (h6 : Lies W A6 (ndCells (Tr.bin (7 + (mg : Int)) 0 b c).flat)) => bin_node w A1 A6 c1 c6 n1 _ a (.bin (7 + (mg : Int)) 0 b c) (7 + (mf : Int)) hf h1.sz rfl ⟨h1.ok, h1.er⟩ ⟨hio, hie⟩ hwer _ rfl W hW (h1.lies.below hW.1) h6 T)
  rw [hwant] at N2 hz hwok hwer
  have HSm := Lib.hid (fun A8 c8 A9 c9 (W : World) (h8 : Lies W A8 (ndCells t'.flat)) (h9 : Lies W A9 (ndCells want.flat)) => same_ok A8 A9 t'.sz want.sz c8 c9 t'.flat want.flat W t'.flat_length want.flat_length h8 h9 ((t'.check_flat hgd.1).trans hgd.2) ((want.check_flat hwok).trans hwer) true (by rw [sameF, Tr.flat_z hz]; simp))
  clear hbT hlen
  unfold PPost at HP
  simp only at HP
  generalize bytesOf (bT a b c (7 + (mf : Int)) (7 + (mg : Int))) = TT at k10 hsz HL
  generalize bytesOf (opB (7 + (mf : Int))) = F at OP k3
  generalize bytesOf (opB (7 + (mg : Int))) = Gg at OP k7
  unfold Adds at k1 k2 k3 k4 k5 k6 k7 k8 k9 k10
  generalize bytesOf a.wr = TA at X1 k1
  generalize bytesOf b.wr = TBB at X2 k5
  generalize bytesOf c.wr = TC at X3 k9
  simp only [List.length_nil, Nat.sub_zero] at HP
  have hml := hsm.2
  generalize M.length = m at HL HP hml
  generalize t'.sz = tz at HP HSm
  generalize want.sz = wz at N2 HSm
  generalize (Tr.bin (7 + (mg : Int)) 0 b c).sz = iz at N1 N2
  clear hg h1 h2 h3 hf hgg hst h33 hie hio hlx m1 m2 m3 hy1 hy2 ea eb ec v1 v2 v3 w1' w2' w3' hall hMM hM1 hsm hck hgd hr hz hwok hwer
  go_enter Tryd.func7, Tryd.ntmps7
  go_wp2_with (first
    | (go_at_call 14; with_reducible refine (K1.out _ (by assumption)).mono ?_; rintro e w1 ⟨rfl, hg1⟩)
    | (go_at_call 14; with_reducible refine (K2.out _ (by assumption)).mono ?_; rintro e w2 ⟨rfl, hg2⟩)
    | (go_at_call 14; with_reducible refine (K3.out _ (by assumption)).mono ?_; rintro e w3 ⟨rfl, hg3⟩)
    | (go_at_call 11; with_reducible refine (X1.out _ (by assumption)).mono ?_; rintro e w4 ⟨rfl, hg4⟩)
    | (go_at_call 11; with_reducible refine (X2.out _ (by assumption)).mono ?_; rintro e w5 ⟨rfl, hg5⟩)
    | (go_at_call 11; with_reducible refine (X3.out _ (by assumption)).mono ?_; rintro e w6 ⟨rfl, hg6⟩)
    | (go_at_call 21; refine (OP.out _ hg6).mono ?_; rintro e w7 ⟨rfl, q1, q2, q3, hg7⟩))
  generalize w6.heap.size = D at q1 q2 q3 ⊢
  have hS2 := Lib.hid (show w7.drew.cell? ⟨D, mf, none⟩ = some (.string F) ∧ w7.drew.cell? ⟨D, mg, none⟩ = some (.string Gg) ∧ D < w7.drew.heap.size ∧ G5 w w7.drew from ⟨q1, q2, q3, hg7.step (bd_drewN _ 1)⟩)
  clear q1 q2 q3 hg7 hg1 hg2 hg3 hg4 hg5 hg6 hG
  go_region_held3 (fun w' => w'.cell? ⟨D, mf, none⟩ = some (.string F) ∧ w'.cell? ⟨D, mg, none⟩ = some (.string Gg) ∧ D < w'.heap.size ∧ G5 w w') (first | exact hS2.out | assumption) (fail)
  have hg8 := hS2.out.2.2.2
  clear k1 k2 k3 k4 k5 k6 k7 k8 k9 k10 hfx1 hfx2 hfx3 hfx4 hfx6 hfx7 hfx8 hgx1 hgx2 hgx3 hgx4 hgx6 hgx7 hgx8
  go_wp2_with (first
    | (go_at_call 9; refine (HL.out _ hg8).mono ?_; rintro e w8 ⟨A4, c4, rfl, ht4, _, hg9⟩)
    | (go_at_call 10; refine (HP.out _ _ _ hg9 ht4).mono ?_; rintro e w9 ⟨⟨_, A5, c5, rfl, hl5⟩, hga⟩; have HL5 := Lib.hid hl5; have HGa := Lib.hid hga; clear hl5 hga ht4 hg9)
    | (go_at_call 22; with_reducible refine (S1.out _).mono ?_; rintro e wa ⟨rfl, rfl⟩)
    | (go_at_call 22; with_reducible refine (S2.out _).mono ?_; rintro e wa ⟨rfl, rfl⟩)
    | (go_at_call 23; with_reducible refine (N1.out _ _ HGa.out).mono ?_; rintro e wb ⟨A6, c6, rfl, hl6, hbb, hgb⟩; have HL6 := Lib.hid hl6; have HGb := Lib.hid hgb; have HL5b := Lib.hid (HL5.out.below hbb); clear hl6 hbb hgb)
    | (go_at_call 23; with_reducible refine (N2.out _ _ _ _ HGb.out HL6.out).mono ?_; rintro e wc ⟨A7, c7, rfl, hl7, hbc, hgc⟩; have HL7 := Lib.hid hl7; have HGc := Lib.hid hgc; have HL5c := Lib.hid (HL5b.out.below hbc); clear hl7 hbc hgc)
    | (go_at_call 15; refine (HSm.out _ _ _ _ _ HL5c.out HL7.out).mono ?_; rintro e wd ⟨rfl, hbd⟩; have HGd := Lib.hid (HGc.out.step hbd); clear hbd)
    | (go_at_call 12; refine (alive_g w _ HGd.out).mono ?_; rintro e w' ⟨rfl, hge⟩; have HGe := Lib.hid hge; clear hge))
  go_ret
  exact ⟨rfl, HGe.out⟩
end Go.Proofs.YtoobggcopoljcaaDoor
