/- ExprsNames: the walk. -/
import Derived.Test.YtoobggcopoljcaaDoorENm1
import Derived.Outline
import Derived.Tactics2
import Derived.Deep.DeepCutAuto
import Derived.Deep.CutBlock
namespace Go.Proofs.YtoobggcopoljcaaDoor
open Go.ChangeShapes Go.WideShapes Go.ChangeAt Go.RowKit N4
set_option linter.unusedVariables false
set_option linter.unusedSimpArgs false
set_option maxRecDepth 200000

theorem nrr_0 (w0 w : World) (hg : G5 w0 w) : Calls Tryd.prog 8 #[.string ⟨#[48, 48, 55]⟩, .string ⟨#[55]⟩] w fun e w' => e = .returned (.bool true) ∧ G5 w0 w' := reads_any _ _ nr_0 w0 w hg
theorem nrr_1 (w0 w : World) (hg : G5 w0 w) : Calls Tryd.prog 8 #[.string ⟨#[116]⟩, .string ⟨#[116]⟩] w fun e w' => e = .returned (.bool true) ∧ G5 w0 w' := reads_any _ _ nr_1 w0 w hg
theorem nrr_2 (w0 w : World) (hg : G5 w0 w) : Calls Tryd.prog 8 #[.string ⟨#[107, 32, 45, 32, 116, 32, 45, 32, 118]⟩, .string ⟨#[40, 107, 32, 45, 32, 116, 41, 32, 45, 32, 118]⟩] w fun e w' => e = .returned (.bool true) ∧ G5 w0 w' := reads_any _ _ nr_2 w0 w hg
theorem nrr_3 (w0 w : World) (hg : G5 w0 w) : Calls Tryd.prog 8 #[.string ⟨#[107, 32, 60, 60, 32, 49, 32, 62, 62, 32, 50]⟩, .string ⟨#[40, 107, 32, 60, 60, 32, 49, 41, 32, 62, 62, 32, 50]⟩] w fun e w' => e = .returned (.bool true) ∧ G5 w0 w' := reads_any _ _ nr_3 w0 w hg
theorem nrr_4 (w0 w : World) (hg : G5 w0 w) : Calls Tryd.prog 8 #[.string ⟨#[45, 45, 118]⟩, .string ⟨#[45, 32, 40, 45, 32, 118, 41]⟩] w fun e w' => e = .returned (.bool true) ∧ G5 w0 w' := reads_any _ _ nr_4 w0 w hg
theorem nrr_5 (w0 w : World) (hg : G5 w0 w) : Calls Tryd.prog 8 #[.string ⟨#[45, 118, 32, 42, 32, 45, 50]⟩, .string ⟨#[40, 45, 32, 118, 41, 32, 42, 32, 40, 45, 32, 50, 41]⟩] w fun e w' => e = .returned (.bool true) ∧ G5 w0 w' := reads_any _ _ nr_5 w0 w hg
theorem nrr_6 (w0 w : World) (hg : G5 w0 w) : Calls Tryd.prog 8 #[.string ⟨#[110, 111, 116, 32, 110, 111, 116, 32, 118, 32, 60, 32, 49]⟩, .string ⟨#[110, 111, 116, 32, 40, 110, 111, 116, 32, 40, 118, 32, 60, 32, 49, 41, 41]⟩] w fun e w' => e = .returned (.bool true) ∧ G5 w0 w' := reads_any _ _ nr_6 w0 w hg
theorem nrr_7 (w0 w : World) (hg : G5 w0 w) : Calls Tryd.prog 8 #[.string ⟨#[107, 32, 61, 32, 49, 32, 111, 114, 32, 116, 32, 61, 32, 50, 32, 97, 110, 100, 32, 118, 32, 61, 32, 51]⟩, .string ⟨#[40, 107, 32, 61, 32, 49, 41, 32, 111, 114, 32, 40, 40, 116, 32, 61, 32, 50, 41, 32, 97, 110, 100, 32, 40, 118, 32, 61, 32, 51, 41, 41]⟩] w fun e w' => e = .returned (.bool true) ∧ G5 w0 w' := reads_any _ _ nr_7 w0 w hg
theorem nrr_8 (w0 w : World) (hg : G5 w0 w) : Calls Tryd.prog 8 #[.string ⟨#[49, 32, 43, 32, 50, 32, 60, 60, 32, 51, 32, 43, 32, 52]⟩, .string ⟨#[40, 49, 32, 43, 32, 50, 41, 32, 60, 60, 32, 40, 51, 32, 43, 32, 52, 41]⟩] w fun e w' => e = .returned (.bool true) ∧ G5 w0 w' := reads_any _ _ nr_8 w0 w hg
theorem nrr_9 (w0 w : World) (hg : G5 w0 w) : Calls Tryd.prog 8 #[.string ⟨#[40, 40, 118, 41, 41]⟩, .string ⟨#[118]⟩] w fun e w' => e = .returned (.bool true) ∧ G5 w0 w' := reads_any _ _ nr_9 w0 w hg
theorem nrr_10 (w0 w : World) (hg : G5 w0 w) : Calls Tryd.prog 8 #[.string ⟨#[118, 32, 62, 61, 32, 49, 32, 60, 60, 32, 50]⟩, .string ⟨#[118, 32, 62, 61, 32, 40, 49, 32, 60, 60, 32, 50, 41]⟩] w fun e w' => e = .returned (.bool true) ∧ G5 w0 w' := reads_any _ _ nr_10 w0 w hg
theorem nrr_11 (w0 w : World) (hg : G5 w0 w) : Calls Tryd.prog 8 #[.string ⟨#[40, 118, 32, 60, 32, 49, 41, 32, 33, 61, 32, 40, 107, 32, 60, 61, 32, 50, 41]⟩, .string ⟨#[40, 118, 32, 60, 32, 49, 41, 32, 33, 61, 32, 40, 107, 32, 60, 61, 32, 50, 41]⟩] w fun e w' => e = .returned (.bool true) ∧ G5 w0 w' := reads_any _ _ nr_11 w0 w hg
theorem nrr_12 (w0 w : World) (hg : G5 w0 w) : Calls Tryd.prog 8 #[.string ⟨#[107, 32, 111, 114, 32, 116, 32, 111, 114, 32, 118]⟩, .string ⟨#[40, 107, 32, 111, 114, 32, 116, 41, 32, 111, 114, 32, 118]⟩] w fun e w' => e = .returned (.bool true) ∧ G5 w0 w' := reads_any _ _ nr_12 w0 w hg
theorem nrr_13 (w0 w : World) (hg : G5 w0 w) : Calls Tryd.prog 8 #[.string ⟨#[45, 32, 40, 110, 111, 116, 32, 118, 41]⟩, .string ⟨#[45, 32, 40, 110, 111, 116, 32, 118, 41]⟩] w fun e w' => e = .returned (.bool true) ∧ G5 w0 w' := reads_any _ _ nr_13 w0 w hg
theorem nrr_14 (w0 w : World) (hg : G5 w0 w) : Calls Tryd.prog 8 #[.string ⟨#[107, 32, 62, 32, 116]⟩, .string ⟨#[107, 32, 62, 32, 116]⟩] w fun e w' => e = .returned (.bool true) ∧ G5 w0 w' := reads_any _ _ nr_14 w0 w hg
def atsV : List Value := atsL.map fun a => .int .i64 a
/-- The two lists of the law. -/
def NL (w : World) (B1 B2 : Nat) (W : World) : Prop := Tab W B1 wrongL ∧ (∀ i, i < 17 → W.cell? ⟨B2, i, none⟩ = some (.int .i64 (atsL.getD i 0))) ∧ B2 < W.heap.size ∧ G5 w W
theorem NL.step {w W W' : World} {B1 B2 : Nat} (h : NL w B1 B2 W) (hb : Below W.heap.size W W') : NL w B1 B2 W' :=
  ⟨h.1.stays hb, fun i hi => by rw [hb.cell (p := ⟨B2, i, none⟩) h.2.2.1]; exact h.2.1 i hi, Nat.lt_of_lt_of_le h.2.2.1 hb.size, h.2.2.2.step hb⟩
theorem wrong_len : wrongL.length = 17 := rfl
theorem nl_new' (w W : World) (B1 : Nat) (hg : G5 w W) (hT : Tab W B1 wrongL) (t2 : TypeId) (cs : Array Value) (hcs : cs.toList = atsV) : NL w B1 W.heap.size (W.alloc (.cells cs t2)) := by
  have b2 := (Below.refl W.heap.size W).alloc (Nat.le_refl _) (.cells cs t2)
  refine ⟨hT.stays b2, fun i hi => ?_, by simp, hg.step b2⟩
  have hh : (W.alloc (.cells cs t2)).heap[W.heap.size]? = some (.cells cs t2 (0, 0)) := by
    unfold World.alloc
    simp
  have hc : cs[i]? = some (.int .i64 (atsL.getD i 0)) := by
    rw [← Array.getElem?_toList, hcs]
    have key : ∀ i : Fin 17, atsV[i.val]? = some (.int .i64 (atsL.getD i.val 0)) := by
      have : ∀ i : Fin 17, (atsL[i.val]?) = some (atsL.getD i.val 0) := by decide
      intro i
      unfold atsV
      rw [List.getElem?_map, this i]; rfl
    exact key ⟨i, hi⟩
  simp only [World.cell?, hh]
  simpa using hc

set_option maxHeartbeats 8000000 in
theorem names_g (w : World) (hg : G5 w w) : Calls Tryd.prog 3 #[] w fun e w' => e = .returned (.bool true) ∧ G5 w w' := by
  have HTB := Lib.hid hg.2
  go_enter Tryd.func3, Tryd.ntmps3
  go_upto_region 2 with (first
    | (go_at_call 8; with_reducible refine (nrr_0 w _ (by assumption)).mono ?_; rintro e w0 ⟨rfl, hg0⟩)
    | (go_at_call 8; with_reducible refine (nrr_1 w _ (by assumption)).mono ?_; rintro e w1 ⟨rfl, hg1⟩)
    | (go_at_call 8; with_reducible refine (nrr_2 w _ (by assumption)).mono ?_; rintro e w2 ⟨rfl, hg2⟩)
    | (go_at_call 8; with_reducible refine (nrr_3 w _ (by assumption)).mono ?_; rintro e w3 ⟨rfl, hg3⟩)
    | (go_at_call 8; with_reducible refine (nrr_4 w _ (by assumption)).mono ?_; rintro e w4 ⟨rfl, hg4⟩)
    | (go_at_call 8; with_reducible refine (nrr_5 w _ (by assumption)).mono ?_; rintro e w5 ⟨rfl, hg5⟩)
    | (go_at_call 8; with_reducible refine (nrr_6 w _ (by assumption)).mono ?_; rintro e w6 ⟨rfl, hg6⟩)
    | (go_at_call 8; with_reducible refine (nrr_7 w _ (by assumption)).mono ?_; rintro e w7 ⟨rfl, hg7⟩)
    | (go_at_call 8; with_reducible refine (nrr_8 w _ (by assumption)).mono ?_; rintro e w8 ⟨rfl, hg8⟩)
    | (go_at_call 8; with_reducible refine (nrr_9 w _ (by assumption)).mono ?_; rintro e w9 ⟨rfl, hg9⟩)
    | (go_at_call 8; with_reducible refine (nrr_10 w _ (by assumption)).mono ?_; rintro e w10 ⟨rfl, hg10⟩)
    | (go_at_call 8; with_reducible refine (nrr_11 w _ (by assumption)).mono ?_; rintro e w11 ⟨rfl, hg11⟩)
    | (go_at_call 8; with_reducible refine (nrr_12 w _ (by assumption)).mono ?_; rintro e w12 ⟨rfl, hg12⟩)
    | (go_at_call 8; with_reducible refine (nrr_13 w _ (by assumption)).mono ?_; rintro e w13 ⟨rfl, hg13⟩)
    | (go_at_call 8; with_reducible refine (nrr_14 w _ (by assumption)).mono ?_; rintro e w14 ⟨rfl, hg14⟩))
  go_cut [1, 2] (fun s1 s2 W => s1 = .bool true ∧ ∃ B1, s2 = .slice (some ⟨B1, 0, none⟩) 17 17 ∧ Hid (Tab W B1 wrongL) ∧ Hid (G5 w W))
  case first =>
    (go_wp2_with fail; go_meet; exact ⟨rfl, _, rfl, Lib.hid (Tab.new w14 wrongL _), Lib.hid (hg14.step ((Below.refl _ _).alloc (Nat.le_refl _) _))⟩)
  case rest =>
    obtain ⟨rfl, B1, rfl, HT, HG⟩ := hcut
    clear hg hg0 hg1 hg2 hg3 hg4 hg5 hg6 hg7 hg8 hg9 hg10 hg11 hg12 hg13 hg14
    go_upto_block 0 with fail
    go_cut [4] (fun s4 W => Hid (G5 w W))
    case first =>
      go_wp2_with fail
      have HNL := Lib.hid (nl_new' w wc B1 HG.out HT.out 3 _ rfl)
      go_loopw [4] (fun i wr => ∃ k : Nat, i = .int .i64 k ∧ k ≤ 17 ∧ Hid (NL w B1 wc.heap.size wr)) (fun i _ => 17 - (intOf i).toNat)
      case atStart => exact ⟨0, rfl, by decide, HNL⟩
      case round =>
        clear HNL HT HG
        obtain ⟨k, rfl, hk, HN⟩ := hrel
        by_cases hlt : k < 17
        · obtain ⟨sk, hsk⟩ : ∃ sk, wrongL[k]? = some sk := ⟨_, List.getElem?_eq_getElem (by show k < 17; exact hlt)⟩
          have hwf := wrong_facts ⟨k, hlt⟩
          simp only at hwf
          rw [show wrongL.getD k [] = sk by rw [List.getD_eq_getElem?_getD, hsk]; rfl] at hwf
          obtain ⟨av, hav⟩ : ∃ av, atsL.getD k 0 = av := ⟨_, rfl⟩
          rw [hav] at hwf
          obtain ⟨h4, L, q, r, h2, hr, hcase⟩ := wrongF_ok hwf
          have hsm := allF_small sk
          rw [h2] at hsm
          have hck : chkF L = 0 := by have := allF_chk sk; rw [h2] at this; exact this
          have HL := Lib.hid (fun (W : World) (hW : NL w B1 wc.heap.size W) => all_g sk (by unfold maxLen; omega) L q 0 h2 w W hW.2.2.2)
          have HP := Lib.hid (fun A4 c4 (W : World) (hW : NL w B1 wc.heap.size W) (hT : Toks W A4 L) => parse_g A4 c4 L.length L 0 r rfl hsm.1 hck (Nat.zero_le _) hr w W hW.2.2.2 hT)
          have HC := Lib.hid (show ∀ W, NL w B1 wc.heap.size W → W.cell? ⟨B1, k, none⟩ = some (.string (bytesOf sk)) ∧ W.cell? ⟨wc.heap.size, k, none⟩ = some (.int .i64 av) ∧ B1 < W.heap.size ∧ wc.heap.size < W.heap.size from fun W hW => ⟨hW.1.cellAt hsk, by rw [← hav]; exact hW.2.1 k hlt, hW.1.lt, hW.2.2.1⟩)
          obtain ⟨d1, d2, d3, d4⟩ := HC.out _ HN.out
          have hml := hsm.2
          generalize bytesOf sk = S at HL HC d1
          generalize wc.heap.size = B2 at HN HL HP HC d2 d4
          have j1 : (0 : Int) ≤ k := by omega
          have j2 : (k : Int) < 17 := by omega
          unfold PPost at HP
          rcases hcase with ⟨p, rfl, hp⟩ | ⟨t, p, rfl, hp, hp2⟩
          · simp only at HP
            rw [← hp] at HP
            have hav0 : 0 ≤ av := by omega
            generalize L.length = m at HL HP hml
            clear hsk hwf hav h4 h2 hr hsm hck hp
            go_wp2_with (first
              | (go_at_call 9; refine (HL.out _ HN.out).mono ?_; rintro e wx ⟨A4, c4, rfl, ht4, hb4, _⟩; have HN4 := Lib.hid (HN.out.step hb4); clear hb4)
              | (go_at_call 10; refine (HP.out _ _ _ HN4.out ht4).mono ?_; rintro e wy ⟨⟨hb5, rfl⟩, _⟩; have HN5 := Lib.hid (HN4.out.step hb5); obtain ⟨_, f2, _, f4⟩ := HC.out _ HN5.out; clear hb5 ht4))
            go_roundw
            case rel => exact ⟨k + 1, by go_num, by omega, HN5⟩
            case measure => simp [intOf]; omega
          · simp only at HP
            rw [hp2] at HP
            subst hp
            generalize L.length = m at HL HP hml
            clear hsk hwf hav h4 h2 hr hsm hck hp2
            go_wp2_with (first
              | (go_at_call 9; refine (HL.out _ HN.out).mono ?_; rintro e wx ⟨A4, c4, rfl, ht4, hb4, _⟩; have HN4 := Lib.hid (HN.out.step hb4); clear hb4)
              | (go_at_call 10; refine (HP.out _ _ _ HN4.out ht4).mono ?_; rintro e wy ⟨⟨hb5, A5, c5, rfl, _⟩, _⟩; have HN5 := Lib.hid (HN4.out.step hb5); obtain ⟨_, f2, _, f4⟩ := HC.out _ HN5.out; clear hb5 ht4))
            go_roundw
            case rel => exact ⟨k + 1, by go_num, by omega, HN5⟩
            case measure => simp [intOf]; omega
        · have HGl := Lib.hid HN.out.2.2.2
          go_wp2_with fail
          go_meet
          exact HGl
    case rest =>
      have HGd := hcut
      clear hcut HT HG
      go_upto_block 2 with fail
      have b1 := (Below.refl wc.heap.size wc).alloc (Nat.le_refl _) (.cells #[.int .u8 2, .string ⟨#[118]⟩, .int .i64 0] 33)
      have b2 := (Below.refl (wc.alloc (.cells #[.int .u8 2, .string ⟨#[118]⟩, .int .i64 0] 33)).heap.size (wc.alloc (.cells #[.int .u8 2, .string ⟨#[118]⟩, .int .i64 0] 33))).alloc (Nat.le_refl _) (.cells #[.int .u8 2, .string ⟨#[118]⟩, .int .i64 0] 33)
      have HV := Lib.hid ((VB.new wc 33).step b2)
      have HGe := Lib.hid ((HGd.out.step b1).step b2)
      have ho := ow_lit wc.heap.size (wc.alloc (.cells #[.int .u8 2, .string ⟨#[118]⟩, .int .i64 0] 33)) #[.int .u8 2, .string ⟨#[118]⟩, .int .i64 0] 1 (sumT 0) rfl rfl (by decide) (by simp)
      have hz : (wc.alloc (.cells #[.int .u8 2, .string ⟨#[118]⟩, .int .i64 0] 33)).heap.size = wc.heap.size + 1 := by simp
      rw [hz] at ho
      have HO := Lib.hid ho
      have HW := Lib.hid HGd.out.1.size
      clear b1 b2 ho hz HGd
      generalize wc.heap.size = V at HV HO HW ⊢
      go_cut [12, 13] (fun s12 s13 W => Hid (Ow V W s12 41 (sumT 20)) ∧ Hid (VB W V) ∧ Hid (G5 w W))
      case first =>
        go_wp2_with fail
        go_loopw [12, 13] (fun sv i wr => ∃ (k : Nat) (v : Value), v = sv ∧ i = .int .i64 k ∧ k ≤ 20 ∧ Hid (Ow V wr v (2 * k + 1) (sumT k)) ∧ Hid (VB wr V) ∧ Hid (G5 w wr)) (fun _ i _ => 20 - (intOf i).toNat)
        case atStart => exact ⟨0, _, rfl, rfl, by decide, HO, HV, HGe⟩
        case round =>
          clear HO HV HGe
          obtain ⟨k, v, rfl, rfl, hk, HO, HV, HG⟩ := hrel
          by_cases hlt : k < 20
          · obtain ⟨v0, v1, v2, v3⟩ := HV.out
            have hk2 : (k : Int) + 1 ≤ 21 := by omega
            go_wp2_with (first
              | (at_builtin; refine wpList_app_tok rfl (.tmp 154) (.tmp 159) rfl (V + 1) v (2 * k + 1) (sumT k) rfl ?o1 (some ⟨wr.heap.size, 0, none⟩) 2 2 [⟨3, [43], (k : Int) + 1⟩, vTk] rfl ?o2 ?o3 ?o4 ?_))
            case o1 => exact (HO.out.step ((Below.refl _ _).alloc (Nat.le_refl _) _)).1
            case o2 => exact src_lit wr _ _ 2 2 _ rfl rfl
            case o3 => omega
            case o4 => simp; omega
            intro v' w1 h1 h2 h3
            have hal := (Below.refl wr.heap.size wr).alloc (Nat.le_refl _) (.cells #[.int .u8 3, .string ⟨#[43]⟩, .int .i64 ((k : Int) + 1), .int .u8 2, .string ⟨#[118]⟩, .int .i64 0] 33)
            obtain ⟨ho2, hv2, hg2⟩ := ow_app HTB.out HW.out (HO.out.step hal) (HV.out.step hal) (HG.out.step hal) rfl h1 h2
            have HO2 := Lib.hid ho2
            have HV2 := Lib.hid hv2
            have HG2 := Lib.hid hg2
            clear ho2 hv2 hg2 h1 h2 h3 hal
            go_wp2_with fail
            go_roundw
            case rel => exact ⟨k + 1, v', rfl, by go_num, by omega, Lib.hid (by rw [show 2 * (k + 1) + 1 = 2 * k + 1 + 2 by omega]; exact HO2.out), HV2, HG2⟩
            case measure => simp [intOf]; omega
          · obtain rfl : k = 20 := by omega
            go_wp2_with fail
            go_meet
            exact ⟨HO, HV, HG⟩
      case rest =>
        obtain ⟨HO, HV, HG⟩ := hcut
        obtain ⟨A1, c1, rfl, ht1⟩ := HO.out.src
        have HP1 := Lib.hid (parse_g A1 c1 41 (sumT 20) 0 _ (sum_len 20) sum_sm sum_chk (by decide) sum_rd w wc HG.out ht1)
        unfold PPost at HP1
        simp only at HP1
        rw [show ((sumT 20).drop 39).length = 2 from rfl] at HP1
        clear ht1
        go_upto_block 4 with (first
          | (go_at_call 10; refine HP1.out.mono ?_; rintro e w1 ⟨⟨hb1, rfl⟩, hg1⟩; have HV1 := Lib.hid (HV.out.step hb1); have HG1 := Lib.hid hg1; have HW1 := Lib.hid (show w.heap.size ≤ V from HW.out); clear hb1 hg1))
        clear HP1 HO HV HG
        go_cut [17, 19] (fun s17 s19 W => Hid (Ow V W s17 20 (sgnT 20)) ∧ Hid (VB W V) ∧ Hid (G5 w W))
        case first =>
          go_wp2_with fail
          go_loopw [17, 19] (fun sv i wr => ∃ (k : Nat) (v : Value), v = sv ∧ i = .int .i64 k ∧ k ≤ 20 ∧ Hid (Ow V wr v k (sgnT k)) ∧ Hid (VB wr V) ∧ Hid (G5 w wr)) (fun _ i _ => 20 - (intOf i).toNat)
          case atStart => exact ⟨0, _, rfl, rfl, by decide, Lib.hid (Ow.nil V _), HV1, HG1⟩
          case round =>
            clear HV1 HG1
            obtain ⟨k, v, rfl, rfl, hk, HO, HV, HG⟩ := hrel
            by_cases hlt : k < 20
            · go_wp2_with (first
                | (at_builtin; refine wpList_app_tok rfl (.tmp 171) (.tmp 173) rfl (V + 1) v k (sgnT k) rfl ?p1 (some ⟨wr.heap.size, 0, none⟩) 1 1 [⟨3, [45], 0⟩] rfl ?p2 ?p3 ?p4 ?_))
              case p1 => exact (HO.out.step ((Below.refl _ _).alloc (Nat.le_refl _) _)).1
              case p2 => exact src_lit wr _ _ 1 1 _ rfl rfl
              case p3 => omega
              case p4 => have := HV.out.1; simp; omega
              intro v' w2 h1 h2 h3
              have hal := (Below.refl wr.heap.size wr).alloc (Nat.le_refl _) (.cells #[.int .u8 3, .string ⟨#[45]⟩, .int .i64 0] 33)
              obtain ⟨ho2, hv2, hg2⟩ := ow_app HTB.out HW1.out (HO.out.step hal) (HV.out.step hal) (HG.out.step hal) rfl h1 h2
              rw [← sgn_succ] at ho2
              have HO2 := Lib.hid ho2
              have HV2 := Lib.hid hv2
              have HG2 := Lib.hid hg2
              clear ho2 hv2 hg2 h1 h2 h3 hal
              go_wp2_with fail
              go_roundw
              case rel => exact ⟨k + 1, v', rfl, by go_num, by omega, HO2, HV2, HG2⟩
              case measure => simp [intOf]; omega
            · obtain rfl : k = 20 := by omega
              go_wp2_with fail
              go_meet
              exact ⟨HO, HV, HG⟩
        case rest =>
          obtain ⟨HS, HV, HG⟩ := hcut
          clear HV1 HG1
          obtain ⟨W1, rfl⟩ : ∃ W1, W1 = wc := ⟨_, rfl⟩
          go_upto_block 6 with fail
          go_cut [18, 20] (fun s18 s20 W => Hid (Ow W1.heap.size W s18 60 (opnT 60)) ∧ Hid (Below W1.heap.size W1 W))
          case first =>
            go_wp2_with fail
            go_loopw [18, 20] (fun sv i wr => ∃ (k : Nat) (v : Value), v = sv ∧ i = .int .i64 k ∧ k ≤ 60 ∧ Hid (Ow W1.heap.size wr v (k) (opnT k)) ∧ Hid (Below W1.heap.size W1 wr)) (fun _ i _ => 60 - (intOf i).toNat)
            case atStart => exact ⟨0, _, rfl, rfl, by decide, Lib.hid (Ow.nil _ _), Lib.hid (Below.refl _ _)⟩
            case round =>
              obtain ⟨k, v, rfl, rfl, hk, HO, HB⟩ := hrel
              by_cases hlt : k < 60
              · go_wp2_with (first
                  | (at_builtin; refine wpList_app_tok rfl (.tmp 179) (.tmp 181) rfl (W1.heap.size + 1) v (k) (opnT k) rfl ?q1 (some ⟨wr.heap.size, 0, none⟩) 1 1 [⟨3, [40], 0⟩] rfl ?q2 ?q3 ?q4 ?_))
                case q1 => exact (HO.out.step ((Below.refl _ _).alloc (Nat.le_refl _) _)).1
                case q2 => exact src_lit wr _ _ 1 1 _ rfl rfl
                case q3 => omega
                case q4 => have := HB.out.size; simp; omega
                intro v' w2 h1 h2 h3
                have hal := (Below.refl wr.heap.size wr).alloc (Nat.le_refl _) (.cells #[.int .u8 3, .string ⟨#[40]⟩, .int .i64 0] 33)
                obtain ⟨ho2, hb2⟩ := ow_app3 (Nat.le_refl W1.heap.size) (HO.out.step hal) (HB.out.trans (hal.mono HB.out.size)) rfl h1 h2
                rw [← opn_succ] at ho2
                have HO2 := Lib.hid ho2
                have HB2 := Lib.hid hb2
                clear ho2 hb2 h1 h2 h3 hal
                go_wp2_with fail
                go_roundw
                case rel => exact ⟨k + 1, v', rfl, by go_num, by omega, HO2, HB2⟩
                case measure => simp [intOf]; omega
              · obtain rfl : k = 60 := by omega
                go_wp2_with fail
                go_meet
                exact ⟨HO, HB⟩
          case rest =>
            obtain ⟨HO, HB⟩ := hcut
            obtain ⟨v0, v1, v2, v3⟩ := HV.out.step HB.out
            rename_i W2
            go_upto_block 8 with (first
              | (at_builtin; refine wpList_app_tok rfl (.tmp 183) (.tmp 185) rfl (W1.heap.size + 1) _ 60 (opnT 60) rfl ?r1 (some ⟨wc.heap.size, 0, none⟩) 1 1 [vTk] rfl ?r2 ?r3 ?r4 ?_))
            case r1 => exact (HO.out.step ((Below.refl _ _).alloc (Nat.le_refl _) _)).1
            case r2 => exact src_lit wc _ _ 1 1 _ rfl rfl
            case r3 => omega
            case r4 => have := HB.out.size; simp; omega
            intro v' w3 h1 h2 h3
            have hal := (Below.refl wc.heap.size wc).alloc (Nat.le_refl _) (.cells #[.int .u8 2, .string ⟨#[118]⟩, .int .i64 0] 33)
            obtain ⟨ho3, hb3⟩ := ow_app3 (Nat.le_refl W1.heap.size) (HO.out.step hal) (HB.out.trans (hal.mono HB.out.size)) rfl h1 h2
            have HO3 := Lib.hid ho3
            have HB3 := Lib.hid hb3
            clear ho3 hb3 h1 h2 h3 hal v0 v1 v2 v3 HO HB
            go_upto_block 8 with fail
            go_cut [18, 21] (fun s18 s21 W => Hid (Ow W1.heap.size W s18 121 (opnT 60 ++ [vTk] ++ clsT 60)) ∧ Hid (Below W1.heap.size W1 W))
            case first =>
              go_wp2_with fail
              go_loopw [18, 21] (fun sv i wr => ∃ (k : Nat) (v : Value), v = sv ∧ i = .int .i64 k ∧ k ≤ 60 ∧ Hid (Ow W1.heap.size wr v (61 + k) (opnT 60 ++ [vTk] ++ clsT k)) ∧ Hid (Below W1.heap.size W1 wr)) (fun _ i _ => 60 - (intOf i).toNat)
              case atStart => exact ⟨0, _, rfl, rfl, by decide, Lib.hid (by simpa [clsT] using HO3.out), HB3⟩
              case round =>
                obtain ⟨k, v, rfl, rfl, hk, HO, HB⟩ := hrel
                by_cases hlt : k < 60
                · go_wp2_with (first
                    | (at_builtin; refine wpList_app_tok rfl (.tmp 191) (.tmp 193) rfl (W1.heap.size + 1) v (61 + k) (opnT 60 ++ [vTk] ++ clsT k) rfl ?z1 (some ⟨wr.heap.size, 0, none⟩) 1 1 [⟨3, [41], 0⟩] rfl ?z2 ?z3 ?z4 ?_))
                  case z1 => exact (HO.out.step ((Below.refl _ _).alloc (Nat.le_refl _) _)).1
                  case z2 => exact src_lit wr _ _ 1 1 _ rfl rfl
                  case z3 => omega
                  case z4 => have := HB.out.size; simp; omega
                  intro v' w2 h1 h2 h3
                  have hal := (Below.refl wr.heap.size wr).alloc (Nat.le_refl _) (.cells #[.int .u8 3, .string ⟨#[41]⟩, .int .i64 0] 33)
                  obtain ⟨ho2, hb2⟩ := ow_app3 (Nat.le_refl W1.heap.size) (HO.out.step hal) (HB.out.trans (hal.mono HB.out.size)) rfl h1 h2
                  rw [List.append_assoc _ (clsT k), ← cls_succ] at ho2
                  have HO2 := Lib.hid ho2
                  have HB2 := Lib.hid hb2
                  clear ho2 hb2 h1 h2 h3 hal
                  go_wp2_with fail
                  go_roundw
                  case rel => exact ⟨k + 1, v', rfl, by go_num, by omega, HO2, HB2⟩
                  case measure => simp [intOf]; omega
                · obtain rfl : k = 60 := by omega
                  go_wp2_with fail
                  go_meet
                  exact ⟨HO, HB⟩
            case rest =>
              obtain ⟨HO, HB⟩ := hcut
              obtain ⟨v0, v1, v2, v3⟩ := HV.out.step HB.out
              clear HO3 HB3
              go_upto_region 33 with (first
                | (at_builtin; refine wpList_app_tok rfl (.tmp 195) (.tmp 197) rfl (V + 1) _ 20 (sgnT 20) rfl ?s1 (some ⟨wc.heap.size, 0, none⟩) 1 1 [vTk] rfl ?s2 ?s3 ?s4 ?_))
              case s1 => exact ((HS.out.step HB.out).step ((Below.refl _ _).alloc (Nat.le_refl _) _)).1
              case s2 => exact src_lit wc _ _ 1 1 _ rfl rfl
              case s3 => omega
              case s4 => have := HB.out.size; have := HV.out.1; simp; omega
              intro v4 w4 h1 h2 h3
              have hal := (Below.refl wc.heap.size wc).alloc (Nat.le_refl _) (.cells #[.int .u8 2, .string ⟨#[118]⟩, .int .i64 0] 33)
              have ho4 := ow_sep HS.out (Nat.le_refl _) (HO.out.step hal) h2
              obtain ⟨hs4, hv4, hg4⟩ := ow_app HTB.out HW1.out ((HS.out.step HB.out).step hal) ((HV.out.step HB.out).step hal) ((HG.out.step HB.out).step hal) rfl h1 h2
              obtain ⟨A2, c2, rfl, ht2⟩ := hs4.src
              obtain ⟨A3, c3, rfl, ht3⟩ := ho4.src
              have HV4 := Lib.hid hv4
              have HG4 := Lib.hid hg4
              have HT3 := Lib.hid ht3
              have HP2 := Lib.hid (parse_g A2 c2 21 (sgnT 20 ++ [vTk]) 0 _ rfl sgn_sm sgn_chk (by decide) sgn_rd w w4 hg4 ht2)
              have HP3 := Lib.hid (fun W hW ht => parse_g A3 c3 121 (opnT 60 ++ [vTk] ++ clsT 60) 0 _ rfl brk_sm brk_chk (by decide) brk_rd w W hW ht)
              unfold PPost at HP2 HP3
              simp only at HP2 HP3
              rw [show (sgnT 20 ++ [vTk]).length = 21 from rfl] at HP2
              rw [show (Tr.leaf 4 0 0).sz = 1 from rfl] at HP3
              clear h1 h2 h3 hal ho4 hs4 hv4 hg4 ht2 ht3 v0 v1 v2 v3 HO HB HS HV HG
              go_upto_region 35 with (first
                | (go_at_call 10; refine HP2.out.mono ?_; rintro e w5 ⟨⟨hb5, rfl⟩, hg5⟩; have HV5 := Lib.hid (HV4.out.step hb5); have HG5 := Lib.hid hg5; have HT5 := Lib.hid (HT3.out.below hb5); clear hb5 hg5 HV4 HT3 HP2)
                | (go_at_call 10; refine (HP3.out _ HG5.out HT5.out).mono ?_; rintro e w6 ⟨⟨hb6, A6, c6, rfl, _⟩, hg6⟩; have HV6 := Lib.hid (HV5.out.step hb6); have HG6 := Lib.hid hg6; clear hb6 hg6 HV5 HP3 HT5))
              obtain ⟨i0, hi, hz0, hz1, hz2⟩ := info_parts tok_info
              go_upto_region 36 with (refine wpList_make_full _ rfl _ _ 25 rfl w6.heap.size 33 i0 _ 3 Tryd.underlying25 hi hz0 hz1 .i64 .i64 _ _ 201 rfl rfl (by rfl) (by rfl) ?m1 ?m2 ?m3 ?_)
              case m1 => rw [hz2]; omega
              case m2 => unfold maxLen; omega
              case m3 => exact Nat.le_refl _
              intro w7 hown7 hgw7
              have hbw7 : Below w6.heap.size w6 w7 := (Below.refl _ _).grown hgw7 (Nat.le_refl _) (fun j hj => by cases hj)
              have HM7 := Lib.hid (many_g (HV6.out.step hbw7) (HG6.out.step hbw7) hown7)
              clear hown7 hgw7 hbw7 HV6 HG6
              go_upto_region 41 with (first
                | (go_at_call 10; refine HM7.out.mono ?_; rintro e w8 ⟨rfl, hv8, hg8⟩; have HV8 := Lib.hid hv8; have HG8 := Lib.hid hg8; clear hv8 hg8 HM7)
                | (go_at_call 10; refine (lit_bad [⟨0, [], 0⟩] 9 8 emp_sm empty_chk (by decide) rfl (by decide) HV8.out HG8.out _ _ _ rfl).mono ?_; rintro e w9 ⟨rfl, hv9, hg9⟩; have HV9 := Lib.hid hv9; have HG9 := Lib.hid hg9; clear hv9 hg9 HV8 HG8)
                | (go_at_call 10; refine (lit_bad [⟨2, [118], 401⟩] 0 8 far_sm far_chk (by decide) rfl (by decide) HV9.out HG9.out _ _ _ rfl).mono ?_; rintro e w10 ⟨rfl, hv10, hg10⟩; have HV10 := Lib.hid hv10; have HG10 := Lib.hid hg10; obtain ⟨_, _, _, _⟩ := hv10; clear hg10 HV9 HG9)
                | (go_at_call 10; refine (lit_arg [vTk] 2 v_sm v_chk (by decide) rfl (by decide) HV10.out HG10.out _ _ _ rfl).mono ?_; rintro e w11 ⟨rfl, hv11, hg11⟩; have HV11 := Lib.hid hv11; have HG11 := Lib.hid hg11; obtain ⟨_, _, _, _⟩ := hv11; clear hg11 HV10 HG10)
                | (go_at_call 10; refine (lit_er [vTk] 1 v_sm v_chk (by decide) end_rd (j := 1) rfl rfl HV11.out HG11.out _ _ _ rfl).mono ?_; rintro e w12 ⟨rfl, hv12, hg12⟩; have HG12 := Lib.hid hg12; clear hv12 hg12 HV11 HG11)
                | (go_at_call 11; refine (nil_g HG12.out).mono ?_; rintro e w13 ⟨rfl, hg13⟩; have HG13 := Lib.hid hg13; clear hg13 HG12))
              go_wp2_with (go_at_call 12; refine (alive_g w _ HG13.out).mono ?_; rintro e wz ⟨rfl, hgz⟩; have HGZ := Lib.hid hgz; clear hgz)
              go_ret
              exact ⟨rfl, HGZ.out⟩
theorem ExprsNames_walk (w : World) (tb : TB w) : Calls Tryd.prog 3 #[] w fun e w' => e = .returned (.bool true) ∧ Below w.heap.size w w' :=
  (names_g w (G5.start tb)).mono fun e w' h => ⟨h.1, h.2.1⟩
end Go.Proofs.YtoobggcopoljcaaDoor
