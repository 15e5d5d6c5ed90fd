/- The walk of NodesNames. -/
import Derived.Test.YtakpbpabblgobaaNNames0
import Derived.Outline
import Derived.Tactics2
import Derived.Deep.DeepCutAuto
import Derived.Deep.CutBlock
import Derived.Deep.RegionHeld3
namespace Go.Proofs.Ytakpbpabblgobaa
open Go.ChangeShapes Go.WideShapes Go.ChangeAt Go.RowKit
set_option linter.unusedVariables false
set_option linter.unusedSimpArgs false
set_option maxHeartbeats 8000000 in
set_option maxRecDepth 200000 in
theorem NodesNames_walk (w : World) : Calls Try.prog 3 #[] w fun e w' => e = .returned (.bool true) ∧ Below w.heap.size w w' := by
  go_enter Try.func3, Try.ntmps3
  go_upto_region 2 with fail
  go_cut [2] (fun s2 W => ∃ (B : Nat) (us : List Value), s2 = .slice (some ⟨B, 0, none⟩) 19 19 ∧ us.length = 19 ∧ Hid (St w B us W))
  case first =>
    (go_wp2_with fail; go_meet; exact ⟨_, us19 w, rfl, rfl, Lib.hid ⟨(Bl.al (Bl.al (Bl.al (Bl.al (Bl.al (Bl.al (Bl.al (Bl.al (Bl.al (Bl.al (Bl.al (Bl.al (Bl.al (Bl.al (Bl.al (Bl.al (Bl.al (Bl.al (Bl.al (Bl.al (Bl.al (Bl.start w)))))))))))))))))))))), (X5.al (X5.al (X5.al (X5.al (X5.al (X5.al (X5.al (X5.al (X5.al (X5.al (X5.al (X5.al (X5.al (X5.al (X5.al (X5.al (X5.al (X5.al (X5.al (X5.al (X5.start w vN _))))))))))))))))))))), lies_vals _ _ (by simp) _ _ _ rfl, (AllAt.cons ⟨some _, 0, rfl, (Lies.al (Lies.al (Lies.al (Lies.al (Lies.al (Lies.al (Lies.al (Lies.al (Lies.al (Lies.al (Lies.al (Lies.al (Lies.al (Lies.al (Lies.al (Lies.al (Lies.al (Lies.al (Lies.al (lies_nds _ _ (by simp) _ _ _ rfl)))))))))))))))))))), by decide⟩ (AllAt.cons ⟨some _, 1, rfl, (Lies.al (Lies.al (Lies.al (Lies.al (Lies.al (Lies.al (Lies.al (Lies.al (Lies.al (Lies.al (Lies.al (Lies.al (Lies.al (Lies.al (Lies.al (Lies.al (Lies.al (Lies.al (lies_nds _ _ (by simp) _ _ _ rfl))))))))))))))))))), by decide⟩ (AllAt.cons ⟨some _, 1, rfl, (Lies.al (Lies.al (Lies.al (Lies.al (Lies.al (Lies.al (Lies.al (Lies.al (Lies.al (Lies.al (Lies.al (Lies.al (Lies.al (Lies.al (Lies.al (Lies.al (Lies.al (lies_nds _ _ (by simp) _ _ _ rfl)))))))))))))))))), by decide⟩ (AllAt.cons ⟨some _, 1, rfl, (Lies.al (Lies.al (Lies.al (Lies.al (Lies.al (Lies.al (Lies.al (Lies.al (Lies.al (Lies.al (Lies.al (Lies.al (Lies.al (Lies.al (Lies.al (Lies.al (lies_nds _ _ (by simp) _ _ _ rfl))))))))))))))))), by decide⟩ (AllAt.cons ⟨some _, 1, rfl, (Lies.al (Lies.al (Lies.al (Lies.al (Lies.al (Lies.al (Lies.al (Lies.al (Lies.al (Lies.al (Lies.al (Lies.al (Lies.al (Lies.al (Lies.al (lies_nds _ _ (by simp) _ _ _ rfl)))))))))))))))), by decide⟩ (AllAt.cons ⟨some _, 1, rfl, (Lies.al (Lies.al (Lies.al (Lies.al (Lies.al (Lies.al (Lies.al (Lies.al (Lies.al (Lies.al (Lies.al (Lies.al (Lies.al (Lies.al (lies_nds _ _ (by simp) _ _ _ rfl))))))))))))))), by decide⟩ (AllAt.cons ⟨some _, 1, rfl, (Lies.al (Lies.al (Lies.al (Lies.al (Lies.al (Lies.al (Lies.al (Lies.al (Lies.al (Lies.al (Lies.al (Lies.al (Lies.al (lies_nds _ _ (by simp) _ _ _ rfl)))))))))))))), by decide⟩ (AllAt.cons ⟨some _, 1, rfl, (Lies.al (Lies.al (Lies.al (Lies.al (Lies.al (Lies.al (Lies.al (Lies.al (Lies.al (Lies.al (Lies.al (Lies.al (lies_nds _ _ (by simp) _ _ _ rfl))))))))))))), by decide⟩ (AllAt.cons ⟨some _, 1, rfl, (Lies.al (Lies.al (Lies.al (Lies.al (Lies.al (Lies.al (Lies.al (Lies.al (Lies.al (Lies.al (Lies.al (lies_nds _ _ (by simp) _ _ _ rfl)))))))))))), by decide⟩ (AllAt.cons ⟨some _, 2, rfl, (Lies.al (Lies.al (Lies.al (Lies.al (Lies.al (Lies.al (Lies.al (Lies.al (Lies.al (Lies.al (lies_nds _ _ (by simp) _ _ _ rfl))))))))))), by decide⟩ (AllAt.cons ⟨some _, 1, rfl, (Lies.al (Lies.al (Lies.al (Lies.al (Lies.al (Lies.al (Lies.al (Lies.al (Lies.al (lies_nds _ _ (by simp) _ _ _ rfl)))))))))), by decide⟩ (AllAt.cons ⟨some _, 2, rfl, (Lies.al (Lies.al (Lies.al (Lies.al (Lies.al (Lies.al (Lies.al (Lies.al (lies_nds _ _ (by simp) _ _ _ rfl))))))))), by decide⟩ (AllAt.cons ⟨some _, 2, rfl, (Lies.al (Lies.al (Lies.al (Lies.al (Lies.al (Lies.al (Lies.al (lies_nds _ _ (by simp) _ _ _ rfl)))))))), by decide⟩ (AllAt.cons ⟨some _, 2, rfl, (Lies.al (Lies.al (Lies.al (Lies.al (Lies.al (Lies.al (lies_nds _ _ (by simp) _ _ _ rfl))))))), by decide⟩ (AllAt.cons ⟨some _, 3, rfl, (Lies.al (Lies.al (Lies.al (Lies.al (Lies.al (lies_nds _ _ (by simp) _ _ _ rfl)))))), by decide⟩ (AllAt.cons ⟨some _, 3, rfl, (Lies.al (Lies.al (Lies.al (Lies.al (lies_nds _ _ (by simp) _ _ _ rfl))))), by decide⟩ (AllAt.cons ⟨some _, 3, rfl, (Lies.al (Lies.al (Lies.al (lies_nds _ _ (by simp) _ _ _ rfl)))), by decide⟩ (AllAt.cons ⟨some _, 4, rfl, (Lies.al (Lies.al (lies_nds _ _ (by simp) _ _ _ rfl))), by decide⟩ (AllAt.cons ⟨some _, 3, rfl, (Lies.al (lies_nds _ _ (by simp) _ _ _ rfl)), by decide⟩ AllAt.nil)))))))))))))))))))⟩⟩)
  case rest =>
    obtain ⟨B, us, rfl, hul, HS⟩ := hcut
    have HUL := Lib.hid hul
    clear hul
    go_upto_block 0 with fail
    go_cut [3] (fun s3 W => Hid (St w B us W))
    case first =>
      go_wp2_with fail
      go_loopw [3] (fun i wr => ∃ k : Nat, i = .int .i64 k ∧ k ≤ 19 ∧ Hid (St w B us wr)) (fun i _ => 19 - (intOf i).toNat)
      case atStart => exact ⟨0, rfl, by decide, HS⟩
      case round =>
        obtain ⟨k, rfl, hk, HS2⟩ := hrel
        by_cases hlt : k < 19
        · obtain ⟨L, hL⟩ : ∃ L, badsL[k]? = some L := ⟨_, List.getElem?_eq_getElem (by show k < 19; exact hlt)⟩
          obtain ⟨h8, h4⟩ := bads_facts L (List.mem_of_getElem? hL)
          obtain ⟨u, hu, A, c, rfl, _, _⟩ := HS2.out.2.2.2.get hL
          have HF := Lib.hid (show ∀ W, St w B us W → W.cell? ⟨B, k, none⟩ = some (.slice A L.length c) ∧ Lies W A (ndCells L) by
            intro W hW
            obtain ⟨_, _, hl, ha⟩ := hW
            obtain ⟨_, he, _, hc⟩ := hl.one hu
            injection he with he
            subst he
            obtain ⟨u', hu', A', c', h1, h2, _⟩ := ha.get hL
            rw [hu] at hu'
            injection hu' with hu'
            rw [← hu'] at h1
            injection h1 with h1 _ h3
            subst h1
            refine ⟨?_, h2⟩
            have := hc
            unfold Addr.add at this
            split at this
            · rename_i h0; subst h0; exact this
            · simpa using this)
          obtain ⟨m, hm⟩ : ∃ m, L.length = m := ⟨_, rfl⟩
          have hm4 : m ≤ maxLen := by unfold maxLen; omega
          have hLm : L.length ≤ maxLen := by rw [hm]; exact hm4
          rw [hm] at HF
          have HD := Lib.hid (fun W (hl : Lies W A (ndCells L)) => show Calls Try.prog 9 #[.slice A m c] W fun e w' => e = .returned (.tuple #[.int .i64 0, .int .i64 8]) ∧ Below W.heap.size W w' by have := depth_bad A c L W hLm hl 8 h8 (by decide); rwa [hm] at this)
          have HZ := Lib.hid (fun W (hl : Lies W A (ndCells L)) => show Calls Try.prog 10 #[.slice A m c, .int .i64 (-1)] W fun e w' => e = .returned (.tuple #[.int .i64 0, .int .i64 8]) ∧ Below W.heap.size W w' by have := size_bad A c L (-1) W hLm hl 8 h8 (by decide); rwa [hm] at this)
          have HP := Lib.hid (fun W (hl : Lies W A (ndCells L)) => show Calls Try.prog 11 #[.slice A m c, .int .i64 (-1)] W fun e w' => e = .returned (.tuple #[.slice none 0 0, .int .i64 8]) ∧ Below W.heap.size W w' by have := part_bad A c L (-1) W hLm hl 8 h8 (by decide); rwa [hm] at this)
          have HC := Lib.hid (fun W (hl : Lies W A (ndCells L)) => show Calls Try.prog 15 #[.slice A m c] W fun e w' => e = .returned (.int .i64 8) ∧ Below W.heap.size W w' by have := check_any A c L W hLm hl 8 h8; rwa [hm] at this)
          have HN := Lib.hid (fun PA pc W (hl : Lies W A (ndCells L)) (hp : Lies W PA [.slice A m c]) => node_bad1 PA pc 5 0 0 W A c m L hm hl hm4 8 h8 (by decide) hp (by decide) (by decide) (by decide))
          have hf := HF.out
          have HX := Lib.hid (fun (W : World) (h : W.cell? ⟨B, k, none⟩ = some (Value.slice A m c) ∧ St w B us W) => (example_any W).mono
            fun e w' ⟨ad, he, hl, hb⟩ => (⟨ad, he, hl, (hf _ (h.2.step hb)).1, h.2.step hb⟩ : ∃ ad, e = Ending.returned (.slice (some ad) 5 5) ∧ Lies w' (some ad) (ndCells exL) ∧ w'.cell? ⟨B, k, none⟩ = some (Value.slice A m c) ∧ St w B us w'))
          have HSa := Lib.hid (fun (ad : Addr) (W : World) (h : W.cell? ⟨B, k, none⟩ = some (Value.slice A m c) ∧ St w B us W) (hl : Lies W (some ad) (ndCells exL)) => (same_bad A (some ad) m 5 c 5 L exL W hm rfl hm4 (by decide) (hf _ h.2).2 hl 8 (by simp [sameE, firstE, h8]) (by decide)).mono
            fun e w' ⟨he, hb⟩ => (⟨he, (hf _ (h.2.step hb)).1, h.2.step hb⟩ : e = Ending.returned (.tuple #[.bool false, .int .i64 8]) ∧ w'.cell? ⟨B, k, none⟩ = some (Value.slice A m c) ∧ St w B us w'))
          have HSb := Lib.hid (fun (ad : Addr) (W : World) (h : W.cell? ⟨B, k, none⟩ = some (Value.slice A m c) ∧ St w B us W) (hl : Lies W (some ad) (ndCells exL)) => (same_bad (some ad) A 5 m 5 c exL L W rfl hm (by decide) hm4 hl (hf _ h.2).2 8 (by simp [sameE, firstE, exL_check, h8]) (by decide)).mono
            fun e w' ⟨he, hb⟩ => (⟨he, (hf _ (h.2.step hb)).1, h.2.step hb⟩ : e = Ending.returned (.tuple #[.bool false, .int .i64 8]) ∧ w'.cell? ⟨B, k, none⟩ = some (Value.slice A m c) ∧ St w B us w'))
          clear hf hL h8 h4 hu hm hLm
          have j1 : (0 : Int) ≤ k := by omega
          have j2 : (k : Int) < 19 := by omega
          obtain ⟨c0, _⟩ := HF.out _ HS2.out
          go_wp2_with (first
            | (go_at_call 9; refine (HD.out _ (HF.out _ HS2.out).2).mono ?_; rintro e w3 ⟨rfl, hb⟩; have HS3 := Lib.hid (HS2.out.step hb); obtain ⟨c3, _⟩ := HF.out _ HS3.out; clear hb c0)
            | (go_at_call 10; refine (HZ.out _ (HF.out _ HS3.out).2).mono ?_; rintro e w4 ⟨rfl, hb⟩; have HS4 := Lib.hid (HS3.out.step hb); obtain ⟨c4, _⟩ := HF.out _ HS4.out; clear hb c3)
            | (go_at_call 11; refine (HP.out _ (HF.out _ HS4.out).2).mono ?_; rintro e w5 ⟨rfl, hb⟩; have HS5 := Lib.hid (HS4.out.step hb); clear hb c4))
          have hS5 := Lib.hid (show w5.drew.cell? ⟨B, k, none⟩ = some (Value.slice A m c) ∧ St w B us w5.drew from ⟨(HF.out _ (HS5.out.step (bd_drewN _ 1))).1, HS5.out.step (bd_drewN _ 1)⟩)
          go_region_held3 (fun w' => w'.cell? ⟨B, k, none⟩ = some (Value.slice A m c) ∧ St w B us w') (first | exact hS5.out | assumption)
            (first
              | (go_at_call 13; refine (HX.out _ (by assumption)).mono ?_; rintro e w6 ⟨ad6, rfl, hl6, hs6⟩; have HL6 := Lib.hid hl6; clear hl6)
              | (go_at_call 12; refine (HSa.out _ _ (by assumption) HL6.out).mono ?_; rintro e w7 ⟨rfl, hs7⟩))
          go_wp2
          have hS7 := Lib.hid (show w7.drew.cell? ⟨B, k, none⟩ = some (Value.slice A m c) ∧ St w B us w7.drew from ⟨(HF.out _ (hs7.2.step (bd_drewN _ 1))).1, hs7.2.step (bd_drewN _ 1)⟩)
          clear hs6 hs7
          go_region_held3 (fun w' => w'.cell? ⟨B, k, none⟩ = some (Value.slice A m c) ∧ St w B us w') (first | exact hS7.out | assumption)
            (first
              | (go_at_call 13; refine (HX.out _ (by assumption)).mono ?_; rintro e w8 ⟨ad8, rfl, hl8, hs8⟩; have HL8 := Lib.hid hl8; clear hl8)
              | (go_at_call 12; refine (HSb.out _ _ (by assumption) HL8.out).mono ?_; rintro e w9 ⟨rfl, hs9⟩))
          obtain ⟨c9, hst9⟩ := hs9
          have HS9 := Lib.hid hst9
          clear hs8 hst9
          go_wp2_with (first
            | (go_at_call 14; refine (HN.out _ _ _ (HF.out _ HS9.out).2.al (lies_vals _ _ rfl _ _ _ rfl)).mono ?_; rintro e w10 ⟨rfl, hb⟩; have HS10 := Lib.hid ((HS9.out.step ((Below.refl _ _).alloc (Nat.le_refl _) _)).step hb); obtain ⟨c10, _⟩ := HF.out _ HS10.out; clear hb c9)
            | (go_at_call 15; refine (HC.out _ (HF.out _ HS10.out).2).mono ?_; rintro e w11 ⟨rfl, hb⟩; have HS11 := Lib.hid (HS10.out.step hb); clear hb c10))
          go_roundw
          case rel => exact ⟨k + 1, by go_num, by omega, HS11⟩
          case measure => simp [intOf]; omega
        · go_wp2_with fail
          go_meet
          exact HS2
    case rest =>
      have HS1 := hcut
      clear hcut HS
      obtain ⟨x0, x1, x2, x3, x4, xlt⟩ := HS1.out.2.1.v
      have HSZ := Lib.hid (Bl.size HS1.out.1)
      go_upto_block 2 with fail
      go_cut [16] (fun s16 W => ∃ A c, s16 = .slice A 20 c ∧ Hid (Lies W A (ndCells (deepL 19)) ∧ St w B us W))
      case first =>
        obtain ⟨i0, hi, hz0, hz1, hz2⟩ := info_parts nd_info
        clear x0 x1 x2 x3 x4 xlt
        go_wp2_with fail
        go_loopw [16, 17] (fun l i wr => ∃ k : Nat, i = .int .i64 k ∧ k ≤ 19 ∧ Hid (wr.ownsRow wc.heap.size 23 5 l (k + 1) (ndCells (deepL k)) ∧ Below wc.heap.size wc wr)) (fun _ i _ => 19 - (intOf i).toNat)
        case atStart =>
          refine ⟨0, rfl, by decide, Lib.hid ⟨?_, (Below.refl _ _).alloc (Nat.le_refl _) _⟩⟩
          exact World.ownsRow_lit (base := wc.heap.size) (e := 23) (size := 5) wc #[.int .u8 4, .int .i64 0, .int .i64 0, .int .i64 0, .int .i64 0] 1 (Nat.le_refl _) (by unfold maxLen; omega) rfl
        case round =>
          obtain ⟨k, rfl, hk, HO⟩ := hrel
          obtain ⟨A, c, rfl, hkc, _⟩ := own_form HO.out.1
          by_cases hlt : k < 19
          · have j1 : (k : Int) < 19 := by omega
            go_wp2_with (at_builtin; refine wpList_append_lies _ rfl (.tmp 180) (.tmp 183) 24 rfl wc.heap.size 23 i0 _ 5 40 Try.underlying24 hi hz0 hz1 hz2 rfl (by decide) _ (k + 1) (ndCells (deepL k)) rfl (HO.out.1.alloc _) ⟨wr.heap.size, 0, none⟩ 1 1 (ndCells [⟨5, 0, k, 0, 0⟩]) rfl ?c1 ?c2 ?c3 ?c4 ?c5 ?c6 ?c7 _ rfl ?_)
            case c1 => rfl
            case c2 => first | exact cells_new5 wr _ rfl ⟨5, 0, k, 0, 0⟩ _ | (intro j u hj; simpa [ndCells, ndC] using hj)
            case c3 => exact nd_one _
            try case c4 => omega
            case c5 => unfold maxLen; omega
            case c6 => omega
            case c7 => have := HO.out.2.size; simp; omega
            intro g cap w5 ho hg _ _
            have HO5 := Lib.hid (show w5.ownsRow wc.heap.size 23 5 (.slice (some ⟨g, 0, none⟩) (k + 1 + 1) cap) (k + 1 + 1) (ndCells (deepL (k + 1))) ∧ Below wc.heap.size wc w5 from
              ⟨by rw [deepL_succ, ndCells_append]; exact ho, (HO.out.2.alloc HO.out.2.size _).grown hg (by have := HO.out.2.size; simp; omega) (fun j hj => (HO.out.1.lt j hj).1)⟩)
            clear ho hg
            go_wp2
            go_roundw
            case rel => exact ⟨k + 1, by go_num, by omega, HO5⟩
            case measure => simp [intOf]; omega
          · obtain rfl : k = 19 := by omega
            go_wp2_with fail
            go_meet
            exact ⟨A, c, rfl, Lib.hid ⟨Lies.of_own HO.out.1 (by intro h; omega), HS1.out.step HO.out.2⟩⟩
      case rest =>
        obtain ⟨A, c, rfl, HD⟩ := hcut
        clear HSZ x0 x1 x2 x3 x4 xlt HS1
        have HDD := Lib.hid (fun W (hl : Lies W A (ndCells (deepL 19))) => depth_ok A c 20 (deepL 19) W hl deep_check (deepL_len 19) 20 deep_depth)
        have HNN := Lib.hid (fun PA pc W (hl : Lies W A (ndCells (deepL 19))) (hp : Lies W PA [.slice A 20 c]) => node_err (node_1 PA pc 5 0 0 W A c 20 (deepL 19) (deepL_len 19) hl deep_check hp (by decide) (by decide) (by decide)) deep_more (by decide))
        go_upto_block 4 with (first
          | (go_at_call 9; refine (HDD.out _ HD.out.1).mono ?_; rintro e w1 ⟨rfl, hb⟩; have HD1 := Lib.hid (show Lies w1 A (ndCells (deepL 19)) ∧ St w B us w1 from ⟨HD.out.1.below hb, HD.out.2.step hb⟩); clear hb)
          | (go_at_call 14; refine (HNN.out _ _ _ HD1.out.1.al (lies_vals _ _ rfl _ _ _ rfl)).mono ?_; rintro e w2 ⟨rfl, hb⟩; have HS2 := Lib.hid ((HD1.out.2.step ((Below.refl _ _).alloc (Nat.le_refl _) _)).step hb); obtain ⟨x0, x1, x2, x3, x4, xlt⟩ := HS2.out.2.1.v; clear hb))
        go_cut [23] (fun s23 W => s23 = .int .i64 34 ∧ Hid (Bl w W))
        case first =>
          clear x0 x1 x2 x3 x4 xlt
          go_wp2_with fail
          go_loopw [22, 23, 24] (fun l cc i wr => ∃ (k : Nat) (v : Int), i = .int .i64 k ∧ cc = .int .i64 v ∧ Hid (St w B us wr) ∧ ((k ≤ 19 ∧ v = 0 ∧ ∃ A c, l = .slice A (2 * k + 1) c ∧ Hid (Lies wr A (ndCells (wideL k)))) ∨ (k = 20 ∧ v = 34))) (fun _ _ i _ => 20 - (intOf i).toNat)
          case atStart =>
            exact ⟨0, 0, rfl, rfl, Lib.hid (HS2.out.step ((Below.refl _ _).alloc (Nat.le_refl _) _)), .inl ⟨by decide, rfl, _, _, rfl, Lib.hid (lies_nds _ _ rfl _ _ _ rfl)⟩⟩
          case round =>
            obtain ⟨k, v, rfl, rfl, HSk, ⟨hk, rfl, A, c, rfl, HL⟩ | ⟨rfl, rfl⟩⟩ := hrel
            · obtain ⟨h0, hl⟩ := wide_facts k (by omega)
              have j1 : (k : Int) < 30 := by omega
              obtain ⟨x0, x1, x2, x3, x4, xlt⟩ := HSk.out.2.1.v
              by_cases hlt : k < 19
              · have h1 := wide_facts (k + 1) (by omega)
                have HN := Lib.hid (fun PA pc a2 W (hw : Lies W A (ndCells (wideL k))) (h2 : Lies W (some a2) (ndCells [vN])) (hp : Lies W PA [.slice A (2 * k + 1) c, .slice (some a2) 1 1]) => node_ok (n := 2 * (k + 1) + 1) (node_2 PA pc 8 0 0 W A c (2 * k + 1) (wideL k) hl hw h0 (some a2) 1 1 [vN] rfl h2 one_check hp (by decide) (by decide) (by decide)) h1.1 h1.2)
                clear h0 hl h1
                go_wp2_with (go_at_call 14; refine (HN.out _ _ _ _ (HL.out.al.al) (lies_nds _ _ rfl _ _ _ rfl).al (lies_vals _ _ (by simp) _ _ _ rfl)).mono ?_; rintro e w3 ⟨A3, c3, rfl, hl3, hb3⟩)
                have HL3 := Lib.hid (show Lies w3 A3 (ndCells (wideL (k + 1))) from hl3)
                have HS3 := Lib.hid (((HSk.out.step ((Below.refl _ _).alloc (Nat.le_refl _) _)).step ((Below.refl _ _).alloc (Nat.le_refl _) _)).step hb3)
                clear hl3 hb3
                go_roundw
                case rel => exact ⟨k + 1, 0, by go_num, rfl, HS3, .inl ⟨by omega, rfl, A3, c3, rfl, HL3⟩⟩
                case measure => simp [intOf]; omega
              · obtain rfl : k = 19 := by omega
                have HN := Lib.hid (fun PA pc a2 W (hw : Lies W A (ndCells (wideL 19))) (h2 : Lies W (some a2) (ndCells [vN])) (hp : Lies W PA [.slice A (2 * 19 + 1) c, .slice (some a2) 1 1]) => node_err (node_2 PA pc 8 0 0 W A c (2 * 19 + 1) (wideL 19) hl hw h0 (some a2) 1 1 [vN] rfl h2 one_check hp (by decide) (by decide) (by decide)) (show checkF (made2 8 0 0 (wideL 19) [vN]) = 34 from wide_more) (by decide))
                clear h0 hl
                go_wp2_with (go_at_call 14; refine (HN.out _ _ _ _ (HL.out.al.al) (lies_nds _ _ rfl _ _ _ rfl).al (lies_vals _ _ (by simp) _ _ _ rfl)).mono ?_; rintro e w3 ⟨rfl, hb3⟩)
                have HS3 := Lib.hid (((HSk.out.step ((Below.refl _ _).alloc (Nat.le_refl _) _)).step ((Below.refl _ _).alloc (Nat.le_refl _) _)).step hb3)
                clear hb3
                go_roundw
                case rel => exact ⟨20, 34, by go_num, rfl, HS3, .inr ⟨rfl, rfl⟩⟩
                case measure => simp [intOf]
            · go_wp2_with fail
              go_meet
              exact ⟨rfl, Lib.hid HSk.out.1⟩
        case rest =>
          obtain ⟨rfl, HB⟩ := hcut
          clear x0 x1 x2 x3 x4 xlt HS2
          have HSI := Lib.hid (fun A c W (hl : Lies W A (ndCells exL)) => size_arg A c 5 exL 5 W hl exL_check rfl (.inr (by decide)))
          have HPI := Lib.hid (fun A c W (hl : Lies W A (ndCells exL)) => part_arg A c 5 exL (-1) W hl exL_check rfl (.inl (by decide)))
          obtain ⟨i0, hi, hz0, hz1, hz2⟩ := info_parts nd_info
          have hmk : ∀ W : World, (Instr.makeSlice 24 (.int .i64 61) (.int .i64 61)).run Try.prog W = .ok (.slice (some ⟨W.heap.size, 0, none⟩) 61 61) (W.alloc (.cells (madeCells #[.int .u8 0, .int .i64 0, .int .i64 0, .int .i64 0, .int .i64 0] (61 * 5)) 23)) := by
            intro W
            have := run_make (P := Try.prog) W 24 23 i0 _ Try.underlying24 hi hz0 .i64 .i64 61 61 (by decide) (by decide) (by rw [hz2]; decide) (by decide)
            rw [hz1] at this
            exact this
          clear hi hz0 hz1 hz2
          go_wp2_with (first
            | (go_at_call 13; have hq := b2; refine (example_any _).mono ?_; rintro e w3 ⟨a3, rfl, hl3, hb⟩; have HL3 := Lib.hid hl3; have b3 := hq.step hb; clear hb hl3 hq b2)
            | (go_at_call 13; have hq := HB.out; refine (example_any _).mono ?_; rintro e w1 ⟨a1, rfl, hl1, hb⟩; have HL1 := Lib.hid hl1; have b1 := hq.step hb; clear hb hl1 hq)
            | (go_at_call 10; have hq := b1; refine (HSI.out _ _ _ HL1.out).mono ?_; rintro e w2 ⟨rfl, hb⟩; have b2 := hq.step hb; clear hb hq b1)
            | (go_at_call 11; have hq := b3; refine (HPI.out _ _ _ HL3.out).mono ?_; rintro e w4 ⟨rfl, hb⟩; have b4 := hq.step hb; clear hb hq b3)
            | (go_at_call 16; refine (parts_any _ _).mono ?_; rintro e w' ⟨rfl, rfl⟩)
            | (go_at_call 15; have hq := b4; refine (check_many _ _ _ _ (by decide) (by unfold maxLen; omega)).mono ?_; rintro e w5 ⟨rfl, hb⟩; have b5 := (Bl.al hq).step hb; clear hb hq b4)
            | (go_at_call 17; have hq := b5; refine (alive_any _).mono ?_; rintro e w6 ⟨rfl, hb⟩; have b6 := hq.step hb; clear hb hq b5))
          go_ret
          exact ⟨rfl, b6⟩
end Go.Proofs.Ytakpbpabblgobaa
