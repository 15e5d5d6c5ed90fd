/- KindsFirst walks to true. -/
import Derived.Test.YtfnkofcgjbakeaaDoorKAlive
namespace Go.Proofs.YtfnkofcgjbakeaaDoor.K6
open Go.ChangeShapes Go.WideShapes Go.ChangeAt Go.RowKit N4
set_option linter.unusedVariables false
set_option linter.unusedSimpArgs false
set_option maxRecDepth 100000

theorem first_great (A : Option Addr) (n c : Nat) (w : World) (hs : SigT w) (h : 70 < n) :
    Calls Tryd.prog 6 #[.slice A n c] w fun e w' => e = .returned (.bool true) ∧ Below w.heap.size w w' := by
  have HG := Lib.hid (great_any A n c w true (decide_eq_true h))
  have HS := Lib.hid hs
  clear h hs
  go_enter Tryd.func6, Tryd.ntmps6
  go_wp2_with (first
    | (go_at_call 18; refine HG.out.mono ?_; rintro e w1 ⟨rfl, rfl⟩)
    | (go_at_call 17; refine (alive_any _ HS.out).mono ?_; rintro e w1 ⟨rfl, hb⟩))
  go_ret
  exact ⟨rfl, hb⟩
theorem first_bad (A : Option Addr) (n c : Nat) (L : List Nd) (w : World) (hs : SigT w) (hn : L.length = n) (h7 : n ≤ 70) (ht : Lies w A (ndCells L)) (h : checkF L ≠ 0) :
    Calls Tryd.prog 6 #[.slice A n c] w fun e w' => e = .returned (.bool true) ∧ Below w.heap.size w w' := by
  have HG := Lib.hid (great_any A n c w false (decide_eq_false (by omega)))
  obtain ⟨v, hv⟩ : ∃ v, checkF L = v := ⟨_, rfl⟩
  have HC := Lib.hid (rcheck_any A c n L w hn (by unfold maxLen; omega) ht v hv)
  have HS := Lib.hid hs
  rw [hv] at h
  have hne := (bne_iff_ne (a := v) (b := 0)).2 h
  clear h hv hn ht h7 hs
  go_enter Tryd.func6, Tryd.ntmps6
  go_wp2_with (first
    | (go_at_call 18; refine HG.out.mono ?_; rintro e w1 ⟨rfl, rfl⟩)
    | (go_at_call 24; refine HC.out.mono ?_; rintro e w1 ⟨rfl, hb1⟩)
    | (go_at_call 17; refine (alive_any _ (HS.out.stays hb1)).mono ?_; rintro e w2 ⟨rfl, hb⟩))
  go_ret
  exact ⟨rfl, hb1.trans (hb.mono hb1.size)⟩
theorem first_right (A : Option Addr) (n c : Nat) (L : List Nd) (t : Bool) (m : Int) (w : World) (hs : SigT w) (hn : L.length = n) (h7 : n ≤ 60) (ht : Lies w A (ndCells L)) (hv : checkF L = 0) (hm : (n : Int) - 1 = m) (ho : ofF L = (t, m, 0)) :
    Calls Tryd.prog 6 #[.slice A n c] w fun e w' => e = .returned (.bool true) ∧ Below w.heap.size w w' := by
  have HG := Lib.hid (great_any A n c w false (decide_eq_false (by omega)))
  have HC := Lib.hid (rcheck_any A c n L w hn (by unfold maxLen; omega) ht 0 hv)
  have HO := Lib.hid (fun W (hb : Bl w W) => of_any A c n L W (hb.sig hs) hn (by unfold maxLen; omega) (hb.lies ht) t m 0 ho)
  have HS := Lib.hid hs
  subst hm
  clear hv hn ht hs ho
  go_enter Tryd.func6, Tryd.ntmps6
  go_wp2_with (first
    | (go_at_call 18; refine HG.out.mono ?_; rintro e w1 ⟨rfl, rfl⟩)
    | (go_at_call 24; refine HC.out.mono ?_; rintro e w1 ⟨rfl, hb⟩; have b1 := (Bl.start w).step hb; clear hb)
    | (go_at_call 12; refine (HO.out _ b1).mono ?_; rintro e w2 ⟨rfl, hb⟩; have b2 := b1.step hb; clear hb b1)
    | (go_at_call 17; refine (alive_any _ (b2.sig HS.out)).mono ?_; rintro e w3 ⟨rfl, hb⟩; have b3 := b2.step hb; clear hb))
  go_ret
  exact ⟨rfl, b3⟩
set_option maxHeartbeats 2000000 in
theorem first_wrong (A : Option Addr) (n c : Nat) (L : List Nd) (E : List Ex) (k : Nat) (w : World) (hs : SigT w) (hn : L.length = n) (hnc : n ≤ c) (ht : Lies w A (ndCells L)) (hg : Good4 L E) (hk : k < n) (hw : wrongF L = k) (ho : ofF L = (false, (k : Int), 42)) :
    Calls Tryd.prog 6 #[.slice A n c] w fun e w' => e = .returned (.bool true) ∧ Below w.heap.size w w' := by
  have hv := checkF_ok hg
  have h60 : n ≤ 60 := by rw [← hn]; exact hg.2.1
  have HG := Lib.hid (great_any A n c w false (decide_eq_false (by omega)))
  have HC := Lib.hid (rcheck_any A c n L w hn (by unfold maxLen; omega) ht 0 hv)
  have HO := Lib.hid (fun W (hb : Bl w W) => of_any A c n L W (hb.sig hs) hn (by unfold maxLen; omega) (hb.lies ht) false k 42 ho)
  have HP := Lib.hid (fun i s W (hi : i < n) (h : sizF L i = s) (hb : Bl w W) => part_ok A c n L i s W (hb.lies ht) hv hn hnc hi h)
  have HS := Lib.hid hs
  have HGD := Lib.hid hg
  have HN := Lib.hid hn
  have HW := Lib.hid hw
  have j0 : (k : Int) < n := by omega
  have j1 : ((n : Int) ≤ (k : Int)) = False := by simp; omega
  have j7 : decide ((n : Int) ≤ (k : Int)) = false := by simp; omega
  have j8 : (n ≤ k) = False := by simp; omega
  have j2 : ((k : Int) < 0) = False := by simp
  have j6 : decide ((k : Int) < 0) = false := by simp
  clear hv hn ht hs ho hg hw
  go_enter Tryd.func6, Tryd.ntmps6
  go_wp2_with (first
    | (go_at_call 18; refine HG.out.mono ?_; rintro e w1 ⟨rfl, rfl⟩)
    | (go_at_call 24; refine HC.out.mono ?_; rintro e w1 ⟨rfl, hb⟩; have b1 := (Bl.start w).step hb; clear hb)
    | (go_at_call 12; refine (HO.out _ b1).mono ?_; rintro e w2 ⟨rfl, hb⟩; have b2 := b1.step hb; clear hb b1))
  have HB2 := Lib.hid b2
  clear b2
  go_loopw [6] (fun i wr => ∃ j : Nat, i = .int .i64 j ∧ j ≤ k + 1 ∧ Hid (Bl w wr)) (fun i _ => k + 1 - (intOf i).toNat)
  case atStart => exact ⟨0, rfl, Nat.zero_le _, HB2⟩
  case round =>
    obtain ⟨j, rfl, hj, HB⟩ := hrel
    rcases Nat.lt_trichotomy j k with hlt | rfl | hlt
    · have hjn : j < n := by omega
      obtain ⟨x, hx⟩ : ∃ x, L[j]? = some x := ⟨_, List.getElem?_eq_getElem (by rw [HN.out]; exact hjn)⟩
      have hf : fitN L x = true := fit_before (by rw [HW.out]; exact hlt) hx
      have hcut := cut_of HGD.out hx (fun i y hi hy => fit_before (by rw [HW.out]; omega) hy)
      rw [hf, if_pos rfl] at hcut
      obtain ⟨z1, z2, z3⟩ := HGD.out.size (i := j) (by rw [HN.out]; exact hjn)
      obtain ⟨s, hs⟩ : ∃ s, sizF L j = s := ⟨_, rfl⟩
      rw [hs] at z1 z2 z3 hcut
      obtain ⟨v, hv⟩ : ∃ v, gvK x.k = v := ⟨_, rfl⟩
      rw [hv] at hcut
      have HPP := Lib.hid (HP.out j s wr hjn hs HB.out)
      have HOO := Lib.hid (fun A W (hb : Bl w W) hl => of_any A s s (cutF L j) W (hb.sig HS.out) z3 (by unfold maxLen; omega) hl v ((s : Int) - 1) 0 hcut)
      have j3 : (j : Int) < k := by omega
      have j4 : (j : Int) ≤ k := by omega
      have j5 : ((j : Int) == k) = false := by rw [beq_eq_false_iff_ne]; omega
      clear hx hf hcut hs z1 z2 z3 hv HP HO HC HG
      go_wp2_with (first
        | (go_at_call 25; refine HPP.out.mono ?_; rintro e w3 ⟨ad, rfl, hl, hb⟩; have b3 := HB.out.step hb; have HL3 := Lib.hid hl; clear hb hl)
        | (go_at_call 12; refine (HOO.out _ _ b3 HL3.out).mono ?_; rintro e w4 ⟨rfl, hb⟩; have b4 := b3.step hb; clear hb b3))
      have HB4 := Lib.hid b4
      clear b4
      go_roundw
      case rel => exact ⟨j + 1, by go_num, by omega, HB4⟩
      case measure => simp [intOf] <;> omega
    · have hjn : j < n := by omega
      obtain ⟨x, hx, hf⟩ := not_fit (L := L) (by rw [HW.out, HN.out]; exact hjn)
      rw [HW.out] at hx
      have hcut := cut_of HGD.out hx (fun i y hi hy => fit_before (by rw [HW.out]; omega) hy)
      rw [hf, if_neg (by simp)] at hcut
      obtain ⟨z1, z2, z3⟩ := HGD.out.size (i := j) (by rw [HN.out]; exact hjn)
      obtain ⟨s, hs⟩ : ∃ s, sizF L j = s := ⟨_, rfl⟩
      rw [hs] at z1 z2 z3 hcut
      have HPP := Lib.hid (HP.out j s wr hjn hs HB.out)
      have HOO := Lib.hid (fun A W (hb : Bl w W) hl => of_any A s s (cutF L j) W (hb.sig HS.out) z3 (by unfold maxLen; omega) hl false ((s : Int) - 1) 42 hcut)
      have z4 : s ≤ 60 := by omega
      clear hx hf hcut hs z2 z3 HP HO HC HG
      go_wp2_with (first
        | (go_at_call 25; refine HPP.out.mono ?_; rintro e w3 ⟨ad, rfl, hl, hb⟩; have b3 := HB.out.step hb; have HL3 := Lib.hid hl; clear hb hl)
        | (go_at_call 12; refine (HOO.out _ _ b3 HL3.out).mono ?_; rintro e w4 ⟨rfl, hb⟩; have b4 := b3.step hb; clear hb b3))
      have HB4 := Lib.hid b4
      clear b4
      go_roundw
      case rel => exact ⟨j + 1, by go_num, by omega, HB4⟩
      case measure => simp [intOf] <;> omega
    · have j3 : ¬ ((j : Int) ≤ k) := by omega
      go_wp2_with (go_at_call 17; refine (alive_any _ (HB.out.sig HS.out)).mono ?_; rintro e w5 ⟨rfl, hb⟩)
      go_ret
      exact ⟨rfl, HB.out.step hb⟩
theorem KindsFirst_walk (A : Option Addr) (c : Nat) (L : List Nd) (w : World) (hL : L.length ≤ maxLen) (ht : Lies w A (ndCells L)) (hnc : L.length ≤ c) (hA : (A = none ∧ c = 0 ∧ L = []) ∨ ∃ ad, A = some ad) (hs : SigT w) :
    Calls Tryd.prog 6 #[.slice A L.length c] w fun e w' => e = .returned (.bool true) ∧ Below w.heap.size w w' := by
  by_cases h7 : 70 < L.length
  · exact first_great A _ c w hs h7
  rcases of_cases L with ⟨v, h1, h2, h3⟩ | ⟨k, x, h1, h2, h3, h4, h5, h6⟩ | ⟨m, x, h1, h2, h3, hx, h5⟩
  · exact first_bad A _ c L w hs rfl (by omega) ht (by rw [h1]; exact h2)
  · obtain ⟨E, hg⟩ := checkF_zero h1
    exact first_wrong A _ c L E k w hs rfl hnc ht hg h3 h2 h6
  · obtain ⟨E, hg⟩ := checkF_zero h1
    exact first_right A _ c L _ _ w hs rfl hg.2.1 ht h1 (by omega) h5
end Go.Proofs.YtfnkofcgjbakeaaDoor.K6
