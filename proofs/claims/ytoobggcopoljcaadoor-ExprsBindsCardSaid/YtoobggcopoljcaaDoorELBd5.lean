/- ExprsBinds: its walks. -/
import Derived.Test.YtoobggcopoljcaaDoorELBd0
import Derived.Deep.RegionHeld3
namespace Go.Proofs.YtoobggcopoljcaaDoor
open Go.ChangeShapes Go.WideShapes Go.ChangeAt Go.RowKit N4
set_option linter.unusedVariables false
set_option maxRecDepth 100000

def OpsAt (W : World) (D mg : Nat) (Gg : ByteArray) : Prop := D < W.heap.size ∧ W.cell? ⟨D, mg, none⟩ = some (.string Gg)
theorem OpsAt.step {W W' : World} {D mg : Nat} {Gg : ByteArray} (h : OpsAt W D mg Gg) (hb : Below W.heap.size W W') : OpsAt W' D mg Gg := ⟨Nat.lt_of_lt_of_le h.1 hb.size, by rw [hb.cell (p := ⟨D, mg, none⟩) h.1]; exact h.2⟩
set_option maxHeartbeats 8000000 in
theorem binds_both3 (A1 A2 A3 : Option Addr) (c1 c2 c3 n1 n2 n3 : Nat) (a b c : Tr) (mf mg : Nat) (hmf : mf < 13) (hmg : mg < 13) (w : World) (hg : G5 w w) (h1 : BIn w A1 c1 n1 a) (h2 : BIn w A2 c2 n2 b) (h3 : BIn w A3 c3 n3 c) (hlen : (bT a b c (7 + (mf : Int)) (7 + (mg : Int))).length ≤ 400) (hl1 : lvl (7 + (mf : Int)) = 3) (hl2 : lvl (7 + (mg : Int)) = 3) :
    Calls Tryd.prog 7 #[.slice A1 n1 c1, .slice A2 n2 c2, .slice A3 n3 c3, .int .u8 (7 + (mf : Int)), .int .u8 (7 + (mg : Int))] w fun e w' => e = .returned (.bool true) ∧ G5 w w' := by
  have hf : 7 ≤ 7 + (mf : Int) ∧ 7 + (mf : Int) ≤ 19 := by omega
  have hgg : 7 ≤ 7 + (mg : Int) ∧ 7 + (mg : Int) ≤ 19 := by omega
  have hG := hg
  have K1 := Lib.hid h1.check
  have K2 := Lib.hid h2.check
  have K3 := Lib.hid h3.check
  have X1 := Lib.hid h1.text
  have X2 := Lib.hid h2.text
  have X3 := Lib.hid h3.text
  have u1 := h1.le
  have u2 := h2.le
  have u3 := h3.le
  have OP := Lib.hid (ops_g w mf mg hmf hmg)
  obtain ⟨s1, s2, s3, s4, s5, s6, s7, s8, s9, k1, k2, k3, k4, k5, k6, k7, k8, k9, k10⟩ := adds10 (bytesOf a.wr) (bytesOf b.wr) (bytesOf c.wr) (bytesOf (opB (7 + (mf : Int)))) (bytesOf (opB (7 + (mg : Int)))) a.wr b.wr c.wr (opB (7 + (mf : Int))) (opB (7 + (mg : Int))) rfl rfl rfl rfl rfl h1.wr_len h2.wr_len h3.wr_len (opB_len _) (opB_len _)
  have hbT : bT a b c (7 + (mf : Int)) (7 + (mg : Int)) = (([40] ++ a.wr ++ [41]) ++ [32] ++ opB (7 + (mf : Int)) ++ [32] ++ ([40] ++ b.wr ++ [41])) ++ [32] ++ opB (7 + (mg : Int)) ++ [32] ++ ([40] ++ c.wr ++ [41]) := rfl
  rw [← hbT] at k10
  have hfx1 : (7 + (mf : Int)) - 7 = (mf : Int) := by omega
  have hfx2 : IntKind.u8.wrap ((7 + (mf : Int)) - 7) = (mf : Int) := by rw [hfx1]; unfold IntKind.wrap; simp [IntKind.bits, IntKind.signed]; omega
  have hfx3 : IntKind.u8.wrap (mf : Int) = (mf : Int) := by unfold IntKind.wrap; simp [IntKind.bits, IntKind.signed]; omega
  have hfx4 : (mf : Int) < 13 := by omega
  have hgx1 : (7 + (mg : Int)) - 7 = (mg : Int) := by omega
  have hgx2 : IntKind.u8.wrap ((7 + (mg : Int)) - 7) = (mg : Int) := by rw [hgx1]; unfold IntKind.wrap; simp [IntKind.bits, IntKind.signed]; omega
  have hgx3 : IntKind.u8.wrap (mg : Int) = (mg : Int) := by unfold IntKind.wrap; simp [IntKind.bits, IntKind.signed]; omega
  have hgx4 : (mg : Int) < 13 := by omega
  have hfx6 : decide ((mf : Int) < 13) = true := by simp; omega
  have hfx7 : (mf : Int) < ((13 : Nat) : Int) := by omega
  have hfx8 : (mf : Int).toNat = mf := by omega
  have hgx6 : decide ((mg : Int) < 13) = true := by simp; omega
  have hgx7 : (mg : Int) < ((13 : Nat) : Int) := by omega
  have hgx8 : (mg : Int).toNat = mg := by omega
  obtain ⟨M1, M2, M3, y1, y2, q, hlx, m1, m2, m3, hy1, hy2⟩ := binds_lex h1 h2 h3 hf hgg
  have ea := (back a h1.ok h1.big h1.er).1
  have eb := (back b h2.ok h2.big h2.er).1
  have ec := (back c h3.ok h3.big h3.er).1
  have v1 := h1.sz
  have v2 := h2.sz
  have v3 := h3.sz
  have w1' := a.dp_le
  have w2' := b.dp_le
  have w3' := c.dp_le
  have hie : (Tr.bin (7 + (mf : Int)) 0 a b).er = 0 := bin_small (by omega) (by omega) (by omega)
  have hio : (Tr.bin (7 + (mf : Int)) 0 a b).ok = true := bin_ok hf ⟨by omega, by omega⟩ h1.ok h2.ok
  obtain ⟨t', hz, hr⟩ := binds_both (M3 := M3) ea eb m1 m2 hf hgg hy1 hy2 hl1 hl2 (fun a' b' p g1 g2 => er_bin_small g1 g2 hie)
  have hall := allF_of hlen hlx
  rw [if_pos rfl] at hall
  obtain ⟨M, hMM⟩ : ∃ M, M1 ++ y1 :: (M2 ++ y2 :: M3) = M := ⟨_, rfl⟩
  have hat : M[(M1 ++ y1 :: M2).length]? = some y2 ∧ M.length - (y2 :: M3).length = (M1 ++ y1 :: M2).length ∧ (M1 ++ y1 :: M2).length < M.length := by
    rw [← hMM]
    refine ⟨?_, ?_, ?_⟩
    · rw [show M1 ++ y1 :: (M2 ++ y2 :: M3) = (M1 ++ y1 :: M2) ++ (y2 :: M3) by simp, List.getElem?_append_right (Nat.le_refl _), Nat.sub_self]; rfl
    · simp only [List.length_append, List.length_cons]; omega
    · simp only [List.length_append, List.length_cons]; omega
  rw [hMM] at hall hr
  have hM1 : M = (allF (bT a b c (7 + (mf : Int)) (7 + (mg : Int)))).1 := by rw [hall]
  have hsm := allF_small (bT a b c (7 + (mf : Int)) (7 + (mg : Int)))
  rw [← hM1] at hsm
  have hck : chkF M = 0 := by rw [hM1]; exact allF_chk _
  have hgd := hr.good (fun x hx => (chk_zero hck).2.2 x hx) trivial rfl
  have HL := Lib.hid (fun (W : World) (hW : G5 w W) => all_g (bT a b c (7 + (mf : Int)) (7 + (mg : Int))) (by unfold maxLen; omega) M q 0 hall w W hW)
  have HP := Lib.hid (fun A4 c4 (W : World) (hW : G5 w W) (hT : Toks W A4 M) => parse_g A4 c4 M.length M 0 _ rfl hsm.1 hck (Nat.zero_le _) hr w W hW hT)
  have hsz : ¬ (400 < (bytesOf (bT a b c (7 + (mf : Int)) (7 + (mg : Int)))).size) := by rw [bytesOf_size]; omega
  have S1 := Lib.hid (fun W => stren_any (7 + (mf : Int)) hf W)
  have S2 := Lib.hid (fun W => stren_any (7 + (mg : Int)) hgg W)
  have e3 : st (7 + (mf : Int)) = 3 := by unfold st; rw [hl1]; rfl
  have e4 : st (7 + (mg : Int)) = 3 := by unfold st; rw [hl2]; rfl
  rw [e3] at S1
  rw [e4] at S2
  have N1 := Lib.hid (fun (W : World) (T : TypeId) (hW : G5 w W) => bin_node w A1 A2 c1 c2 n1 n2 a b (7 + (mf : Int)) hf h1.sz h2.sz ⟨h1.ok, h1.er⟩ ⟨h2.ok, h2.er⟩ hie _ rfl W hW (h1.lies.below hW.1) (h2.lies.below hW.1) T)
  obtain ⟨want, hwant⟩ : ∃ want, Tr.bin (7 + (mf : Int)) 0 a b = want := ⟨_, rfl⟩
  rw [hwant] at N1 hz hie hio
  have HSm := Lib.hid (fun A8 c8 A9 c9 (W : World) (h8 : Lies W A8 (ndCells t'.flat)) (h9 : Lies W A9 (ndCells want.flat)) => same_ok A8 A9 t'.sz want.sz c8 c9 t'.flat want.flat W t'.flat_length want.flat_length h8 h9 ((t'.check_flat hgd.1).trans hgd.2) ((want.check_flat hio).trans hie) true (by rw [sameF, Tr.flat_z hz]; simp))
  have HTA := Lib.hid (show ∀ (W : World) (A4 : Option Addr), Toks W A4 M → ∃ ad, A4 = some ad ∧ (ad.add ((M1 ++ y1 :: M2).length * 3)).block < W.heap.size ∧ W.cell? ⟨(ad.add ((M1 ++ y1 :: M2).length * 3)).block, (ad.add ((M1 ++ y1 :: M2).length * 3)).off + 1, none⟩ = some (.string (bytesOf (opB (7 + (mg : Int))))) from fun W A4 hT => by
    obtain ⟨ad, t0, g1, ⟨_, g3, _⟩, g5⟩ := hT.at_ _ hat.2.2
    obtain rfl : t0 = y2 := Option.some.inj (g5.symm.trans hat.1)
    rw [hy2] at g3
    refine ⟨ad, g1, ?_, g3⟩
    exact cell_lt (p := ⟨(ad.add ((M1 ++ y1 :: M2).length * 3)).block, (ad.add ((M1 ++ y1 :: M2).length * 3)).off + 1, none⟩) g3)
  have hj1 : (((M1 ++ y1 :: M2).length : Nat) : Int) < (M.length : Int) := by have := hat.2.2; omega
  clear hbT hlen
  unfold PPost at HP
  simp only at HP
  rw [hat.2.1] at HP
  have hml := hsm.2
  clear hat
  generalize (M1 ++ y1 :: M2).length = jn at HP HTA hj1
  generalize M.length = m at HL HP hml hj1
  generalize bytesOf (bT a b c (7 + (mf : Int)) (7 + (mg : Int))) = TT at k10 hsz HL
  generalize bytesOf (opB (7 + (mf : Int))) = F at OP k3
  generalize bytesOf (opB (7 + (mg : Int))) = Gg at OP k7 HTA
  unfold Adds at k1 k2 k3 k4 k5 k6 k7 k8 k9 k10
  generalize bytesOf a.wr = TA at X1 k1
  generalize bytesOf b.wr = TBB at X2 k5
  generalize bytesOf c.wr = TC at X3 k9
  generalize t'.sz = tz at HP HSm
  generalize want.sz = wz at N1 HSm
  have hgq : (Gg.toList == Gg.toList) = true := by simp
  have hdj : decide ((jn : Int) < (m : Int)) = true := decide_eq_true hj1
  have hj2 : (jn < m) = True := by simp; omega
  clear hg h1 h2 h3 hf hgg hl1 hl2 hie hio hlx m1 m2 m3 hy1 hy2 ea eb ec v1 v2 v3 w1' w2' w3' hall hMM hM1 hsm hck hgd hr hz hwant e3 e4
  go_enter Tryd.func7, Tryd.ntmps7
  go_wp2_with (first
    | (go_at_call 14; with_reducible refine (K1.out _ (by assumption)).mono ?_; rintro e w1 ⟨rfl, hg1⟩)
    | (go_at_call 14; with_reducible refine (K2.out _ (by assumption)).mono ?_; rintro e w2 ⟨rfl, hg2⟩)
    | (go_at_call 14; with_reducible refine (K3.out _ (by assumption)).mono ?_; rintro e w3 ⟨rfl, hg3⟩)
    | (go_at_call 11; with_reducible refine (X1.out _ (by assumption)).mono ?_; rintro e w4 ⟨rfl, hg4⟩)
    | (go_at_call 11; with_reducible refine (X2.out _ (by assumption)).mono ?_; rintro e w5 ⟨rfl, hg5⟩)
    | (go_at_call 11; with_reducible refine (X3.out _ (by assumption)).mono ?_; rintro e w6 ⟨rfl, hg6⟩)
    | (go_at_call 21; refine (OP.out _ hg6).mono ?_; rintro e w7 ⟨rfl, q1, q2, q3, hg7⟩))
  generalize w6.heap.size = D at q1 q2 q3 ⊢
  have hS2 := Lib.hid (show w7.drew.cell? ⟨D, mf, none⟩ = some (.string F) ∧ w7.drew.cell? ⟨D, mg, none⟩ = some (.string Gg) ∧ D < w7.drew.heap.size ∧ G5 w w7.drew from ⟨q1, q2, q3, hg7.step (bd_drewN _ 1)⟩)
  clear q1 q2 q3 hg7 hg1 hg2 hg3 hg4 hg5 hg6 hG
  go_region_held3 (fun w' => w'.cell? ⟨D, mf, none⟩ = some (.string F) ∧ w'.cell? ⟨D, mg, none⟩ = some (.string Gg) ∧ D < w'.heap.size ∧ G5 w w') (first | exact hS2.out | assumption) (fail)
  have hg8 := hS2.out.2.2.2
  have HOA := Lib.hid (show OpsAt w7.drew D mg Gg from ⟨hS2.out.2.2.1, hS2.out.2.1⟩)
  clear k1 k2 k3 k4 k5 k6 k7 k8 k9 k10 hfx1 hfx2 hfx3 hfx4 hfx6 hfx7 hfx8
  go_wp2_with (first
    | (go_at_call 9; refine (HL.out _ hg8).mono ?_; rintro e w8 ⟨A4, c4, rfl, ht4, hb8, hg9⟩; have HOB := Lib.hid (HOA.out.step hb8); clear hb8)
    | (go_at_call 10; refine (HP.out _ _ _ hg9 ht4).mono ?_; rintro e w9 ⟨⟨hb9, A5, c5, rfl, hl5⟩, hga⟩; have HL5 := Lib.hid hl5; have HGa := Lib.hid hga; have HOC := Lib.hid (HOB.out.step hb9); have HT5 := Lib.hid (ht4.below hb9); clear hl5 hga ht4 hg9 hb9)
    | (go_at_call 22; with_reducible refine (S1.out _).mono ?_; rintro e wa ⟨rfl, rfl⟩)
    | (go_at_call 22; with_reducible refine (S2.out _).mono ?_; rintro e wa ⟨rfl, rfl⟩)
    | (go_at_call 23; with_reducible refine (N1.out _ _ HGa.out).mono ?_; rintro e wb ⟨A6, c6, rfl, hl6, hbb, hgb⟩; have HL6 := Lib.hid hl6; have HGb := Lib.hid hgb; have HL5b := Lib.hid (HL5.out.below hbb); have HOD := Lib.hid (HOC.out.step hbb); have HT6 := Lib.hid (HT5.out.below hbb); clear hl6 hbb hgb)
    | (go_at_call 15; refine (HSm.out _ _ _ _ _ HL5b.out HL6.out).mono ?_; rintro e wd ⟨rfl, hbd⟩; have HGd := Lib.hid (HGb.out.step hbd); have HOE := Lib.hid (HOD.out.step hbd); have HT7 := Lib.hid (HT6.out.below hbd); clear hbd))
  obtain ⟨ad, rfl, hadb, hadc⟩ := HTA.out _ _ HT7.out
  have hOE := HOE.out
  have AL := Lib.hid (fun (W : World) (hW : W.cell? ⟨(ad.add (jn * 3)).block, (ad.add (jn * 3)).off + 1, none⟩ = some (.string Gg) ∧ W.cell? ⟨D, mg, none⟩ = some (.string Gg) ∧ (ad.add (jn * 3)).block < W.heap.size ∧ D < W.heap.size ∧ G5 w W) => (alive_g W W (G5.start hW.2.2.2.2.2)).mono fun e w' ⟨he, hg⟩ => (⟨he, by rw [hg.1.cell (p := ⟨(ad.add (jn * 3)).block, (ad.add (jn * 3)).off + 1, none⟩) hW.2.2.1]; exact hW.1, by rw [hg.1.cell (p := ⟨D, mg, none⟩) hW.2.2.2.1]; exact hW.2.1, Nat.lt_of_lt_of_le hW.2.2.1 hg.1.size, Nat.lt_of_lt_of_le hW.2.2.2.1 hg.1.size, hW.2.2.2.2.step hg.1⟩ : e = Ending.returned (Value.bool true) ∧ w'.cell? ⟨(ad.add (jn * 3)).block, (ad.add (jn * 3)).off + 1, none⟩ = some (Value.string Gg) ∧ w'.cell? ⟨D, mg, none⟩ = some (Value.string Gg) ∧ (ad.add (jn * 3)).block < w'.heap.size ∧ D < w'.heap.size ∧ G5 w w'))
  have hS3 := Lib.hid (show wd.drew.cell? ⟨(ad.add (jn * 3)).block, (ad.add (jn * 3)).off + 1, none⟩ = some (.string Gg) ∧ wd.drew.cell? ⟨D, mg, none⟩ = some (.string Gg) ∧ (ad.add (jn * 3)).block < wd.drew.heap.size ∧ D < wd.drew.heap.size ∧ G5 w wd.drew from ⟨hadc, hOE.2, hadb, hOE.1, HGd.out.step (bd_drewN _ 1)⟩)
  clear hadb hadc hOE
  go_region_held3 (fun w' => w'.cell? ⟨(ad.add (jn * 3)).block, (ad.add (jn * 3)).off + 1, none⟩ = some (.string Gg) ∧ w'.cell? ⟨D, mg, none⟩ = some (.string Gg) ∧ (ad.add (jn * 3)).block < w'.heap.size ∧ D < w'.heap.size ∧ G5 w w') (first | exact hS3.out | assumption)
    (first | (go_at_call 12; refine (AL.out _ (by assumption)).mono ?_; rintro e we ⟨rfl, hse⟩))
  go_wp2
  go_ret
  exact ⟨rfl, hse.2.2.2.2⟩
end Go.Proofs.YtoobggcopoljcaaDoor
