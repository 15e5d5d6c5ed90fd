/- KindsOne walks to true. -/
import Derived.Test.YtfnkofcgjbakeaaDoorKAlive
namespace Go.Proofs.YtfnkofcgjbakeaaDoor.K6
open Go.ChangeShapes Go.WideShapes Go.ChangeAt Go.RowKit N4
set_option linter.unusedVariables false
set_option linter.unusedSimpArgs false
set_option maxRecDepth 100000

theorem one_great (A : Option Addr) (n c : Nat) (at_ : Int) (w : World) (hs : SigT w) (h : 70 < n) :
    Calls Tryd.prog 5 #[.slice A n c, .int .i64 at_] w fun e w' => e = .returned (.bool true) ∧ Below w.heap.size w w' := by
  have HG := Lib.hid (great_any A n c w true (decide_eq_true h))
  have HS := Lib.hid hs
  clear h hs
  go_enter Tryd.func5, Tryd.ntmps5
  go_wp2_with (first
    | (go_at_call 18; refine HG.out.mono ?_; rintro e w1 ⟨rfl, rfl⟩)
    | (go_at_call 17; refine (alive_any _ HS.out).mono ?_; rintro e w1 ⟨rfl, hb⟩))
  go_ret
  exact ⟨rfl, hb⟩
theorem one_bad (A : Option Addr) (n c : Nat) (L : List Nd) (at_ : Int) (w : World) (hs : SigT w) (hn : L.length = n) (h7 : n ≤ 70) (ht : Lies w A (ndCells L)) (h : checkF L ≠ 0) :
    Calls Tryd.prog 5 #[.slice A n c, .int .i64 at_] w fun e w' => e = .returned (.bool true) ∧ Below w.heap.size w w' := by
  have HG := Lib.hid (great_any A n c w false (decide_eq_false (by omega)))
  obtain ⟨v, hv⟩ : ∃ v, checkF L = v := ⟨_, rfl⟩
  have HC := Lib.hid (rcheck_any A c n L w hn (by unfold maxLen; omega) ht v hv)
  have HS := Lib.hid hs
  rw [hv] at h
  have hne := (bne_iff_ne (a := v) (b := 0)).2 h
  clear h hv hn ht h7 hs
  go_enter Tryd.func5, Tryd.ntmps5
  go_wp2_with (first
    | (go_at_call 18; refine HG.out.mono ?_; rintro e w1 ⟨rfl, rfl⟩)
    | (go_at_call 24; refine HC.out.mono ?_; rintro e w1 ⟨rfl, hb1⟩)
    | (go_at_call 17; refine (alive_any _ (HS.out.stays hb1)).mono ?_; rintro e w2 ⟨rfl, hb⟩))
  go_ret
  exact ⟨rfl, hb1.trans (hb.mono hb1.size)⟩
theorem one_out (A : Option Addr) (n c : Nat) (L : List Nd) (at_ : Int) (w : World) (hs : SigT w) (hn : L.length = n) (h7 : n ≤ 70) (ht : Lies w A (ndCells L)) (hv : checkF L = 0) (ha : at_ < 0 ∨ n ≤ at_) :
    Calls Tryd.prog 5 #[.slice A n c, .int .i64 at_] w fun e w' => e = .returned (.bool true) ∧ Below w.heap.size w w' := by
  have HG := Lib.hid (great_any A n c w false (decide_eq_false (by omega)))
  have HC := Lib.hid (rcheck_any A c n L w hn (by unfold maxLen; omega) ht 0 hv)
  have HS := Lib.hid hs
  clear hv hn ht h7 hs
  rcases ha with ha | ha
  · go_enter Tryd.func5, Tryd.ntmps5
    go_wp2_with (first
      | (go_at_call 18; refine HG.out.mono ?_; rintro e w1 ⟨rfl, rfl⟩)
      | (go_at_call 24; refine HC.out.mono ?_; rintro e w1 ⟨rfl, hb1⟩)
      | (go_at_call 17; refine (alive_any _ (HS.out.stays hb1)).mono ?_; rintro e w2 ⟨rfl, hb⟩))
    go_ret
    exact ⟨rfl, hb1.trans (hb.mono hb1.size)⟩
  · have h3 : ¬ at_ < 0 := by omega
    go_enter Tryd.func5, Tryd.ntmps5
    go_wp2_with (first
      | (go_at_call 18; refine HG.out.mono ?_; rintro e w1 ⟨rfl, rfl⟩)
      | (go_at_call 24; refine HC.out.mono ?_; rintro e w1 ⟨rfl, hb1⟩)
      | (go_at_call 17; refine (alive_any _ (HS.out.stays hb1)).mono ?_; rintro e w2 ⟨rfl, hb⟩))
    go_ret
    exact ⟨rfl, hb1.trans (hb.mono hb1.size)⟩
set_option maxHeartbeats 2000000 in
theorem one_wrong (A : Option Addr) (n c : Nat) (L : List Nd) (i k : Nat) (w : World) (hs : SigT w) (hn : L.length = n) (h60 : n ≤ 60) (ht : Lies w A (ndCells L)) (hv : checkF L = 0) (hi : i < n) (hk : k < n) (ho : ofF L = (false, (k : Int), 42)) :
    Calls Tryd.prog 5 #[.slice A n c, .int .i64 i] w fun e w' => e = .returned (.bool true) ∧ Below w.heap.size w w' := by
  have HG := Lib.hid (great_any A n c w false (decide_eq_false (by omega)))
  have HC := Lib.hid (rcheck_any A c n L w hn (by unfold maxLen; omega) ht 0 hv)
  have HO := Lib.hid (fun W (hb : Bl w W) => of_any A c n L W (hb.sig hs) hn (by unfold maxLen; omega) (hb.lies ht) false k 42 ho)
  have HN := Lib.hid (fun W (hb : Bl w W) => any_Number A c n L W (hb.sig hs) hn (by unfold maxLen; omega) (hb.lies ht) k 42 (by unfold wantF; rw [ho]; rfl))
  have HT := Lib.hid (fun W (hb : Bl w W) => any_Truth A c n L W (hb.sig hs) hn (by unfold maxLen; omega) (hb.lies ht) k 42 (by unfold wantF; rw [ho]; rfl))
  have HA := Lib.hid (fun W (hb : Bl w W) => all_bad A c n L W (hb.sig hs) hn (by unfold maxLen; omega) (hb.lies ht) false k 42 ho (by decide))
  have HS := Lib.hid hs
  have j1 : ¬ ((i : Int) < 0) := by omega
  have j2 : ¬ ((n : Int) ≤ i) := by omega
  have j3 : (0 : Int) ≤ k := by omega
  have j4 : (k : Int) < n := by omega
  clear hv hn ht hs ho
  go_enter Tryd.func5, Tryd.ntmps5
  go_wp2_with (first
    | (go_at_call 18; refine HG.out.mono ?_; rintro e w1 ⟨rfl, rfl⟩)
    | (go_at_call 24; refine HC.out.mono ?_; rintro e w1 ⟨rfl, hb⟩; have b1 := (Bl.start w).step hb; clear hb)
    | (go_at_call 12; refine (HO.out _ b1).mono ?_; rintro e w2 ⟨rfl, hb⟩; have b2 := b1.step hb; clear hb b1)
    | (go_at_call 14; refine (HN.out _ b2).mono ?_; rintro e w3 ⟨rfl, hb⟩; have b3 := b2.step hb; clear hb b2)
    | (go_at_call 15; refine (HT.out _ b3).mono ?_; rintro e w4 ⟨rfl, hb⟩; have b4 := b3.step hb; clear hb b3)
    | (go_at_call 16; refine (HA.out _ b4).mono ?_; rintro e w5 ⟨rfl, hb⟩; have b5 := b4.step hb; clear hb b4)
    | (go_at_call 17; refine (alive_any _ (b5.sig HS.out)).mono ?_; rintro e w6 ⟨rfl, hb⟩; have b6 := b5.step hb; clear hb))
  go_ret
  exact ⟨rfl, b6⟩
set_option maxHeartbeats 4000000 in
theorem one_right_true (A : Option Addr) (m c : Nat) (L : List Nd) (E : List Ex) (i s : Nat) (v : Bool) (w : World) (hs : SigT w) (hn : L.length = m + 1) (hnc : m + 1 ≤ c) (ht : Lies w A (ndCells L)) (hg : Good4 L E) (hi : i < m + 1) (ho : ofF L = (true, (m : Int), 0)) (hl : (truF L)[m]? = some true) (hiv : (truF L)[i]? = some v)
    (hsz : sizF L i = s) (hcl : (cutF L i).length = s) (hco : ofF (cutF L i) = (v, (s : Int) - 1, 0)) (hkk : ∀ x ∈ L, 1 ≤ x.k ∧ x.k ≤ 19) :
    Calls Tryd.prog 5 #[.slice A (m + 1) c, .int .i64 i] w fun e w' => e = .returned (.bool true) ∧ Below w.heap.size w w' := by
  have hv := checkF_ok hg
  have h60 : m + 1 ≤ 60 := by rw [← hn]; exact hg.2.1
  have hs60 : s ≤ 60 := by
    have := (hg.size (i := i) (by omega)).2.1
    omega
  have HG := Lib.hid (great_any A (m + 1) c w false (decide_eq_false (by omega)))
  have HC := Lib.hid (rcheck_any A c (m + 1) L w hn (by unfold maxLen; omega) ht 0 hv)
  have HO := Lib.hid (fun W (hb : Bl w W) => of_any A c (m + 1) L W (hb.sig hs) hn (by unfold maxLen; omega) (hb.lies ht) true m 0 ho)
  have HN := Lib.hid (fun W (hb : Bl w W) => any_Number A c (m + 1) L W (hb.sig hs) hn (by unfold maxLen; omega) (hb.lies ht) m 42 (by unfold wantF; rw [ho]; rfl))
  have HT := Lib.hid (fun W (hb : Bl w W) => any_Truth A c (m + 1) L W (hb.sig hs) hn (by unfold maxLen; omega) (hb.lies ht) m 0 (by unfold wantF; rw [ho]; rfl))
  have HA := Lib.hid (fun W (hb : Bl w W) => all_ok A c (m + 1) L W (hb.sig hs) hn h60 (hb.lies ht) true m ho hkk)
  have HP := Lib.hid (fun W (hb : Bl w W) => part_ok A c (m + 1) L i s W (hb.lies ht) hv hn hnc hi hsz)
  have HOP := Lib.hid (fun A W (hb : Bl w W) hl => of_any A s s (cutF L i) W (hb.sig hs) hcl (by unfold maxLen; omega) hl v ((s : Int) - 1) 0 hco)
  have HS := Lib.hid hs
  have HLA := Lib.hid (show (bCells (truF L))[m]? = some (.bool true) by unfold bCells; rw [List.getElem?_map, hl]; rfl)
  have HIV := Lib.hid (show (bCells (truF L))[i]? = some (.bool v) by unfold bCells; rw [List.getElem?_map, hiv]; rfl)
  have j1 : ¬ ((i : Int) < 0) := by omega
  have j2 : ¬ (((m + 1 : Nat) : Int) ≤ i) := by omega
  have j3 : (0 : Int) ≤ i := by omega
  have j4 : (i : Int) < ((m + 1 : Nat) : Int) := by omega
  have e1 : ((m + 1 : Nat) : Int) - 1 = m := by omega
  have j5 : (m : Int) < ((m + 1 : Nat) : Int) := by omega
  clear hv hn ht hs ho hg hl hiv hsz hcl hco hkk
  go_enter Tryd.func5, Tryd.ntmps5
  go_wp2_with (first
    | (go_at_call 18; refine HG.out.mono ?_; rintro e w1 ⟨rfl, rfl⟩)
    | (go_at_call 24; refine HC.out.mono ?_; rintro e w1 ⟨rfl, hb⟩; have b1 := (Bl.start w).step hb; clear hb)
    | (go_at_call 12; (with_reducible refine (HO.out _ b1).mono ?_); rintro e w2 ⟨rfl, hb⟩; have b2 := b1.step hb; clear hb b1)
    | (go_at_call 14; refine (HN.out _ b2).mono ?_; rintro e w3 ⟨rfl, hb⟩; have b3 := b2.step hb; clear hb b2)
    | (go_at_call 15; refine (HT.out _ b3).mono ?_; rintro e w4 ⟨rfl, hb⟩; have b4 := b3.step hb; clear hb b3)
    | (go_at_call 16; refine (HA.out _ b4).mono ?_; rintro e w5 ⟨a5, rfl, hl5, hb⟩; have b5 := b4.step hb; have HL5 := Lib.hid hl5; obtain ⟨ad5, had5, _, d0⟩ := hl5.one HLA.out; injection had5 with had5; subst had5; clear hb b4 hl5)
    | (go_at_call 25; refine (HP.out _ b5).mono ?_; rintro e w6 ⟨a6, rfl, hl6, hb⟩; have b6 := b5.step hb; have HL6 := Lib.hid hl6; have HL56 := Lib.hid (HL5.out.below hb); clear hb b5 hl6 d0)
    | (go_at_call 12; (with_reducible refine (HOP.out _ _ b6 HL6.out).mono ?_); rintro e w7 ⟨rfl, hb⟩; have b7 := b6.step hb; obtain ⟨ad7, had7, _, d1⟩ := (HL56.out.below hb).one HIV.out; injection had7 with had7; subst had7; clear hb b6)
    | (go_at_call 17; refine (alive_any _ (b7.sig HS.out)).mono ?_; rintro e w8 ⟨rfl, hb⟩; have b8 := b7.step hb; clear hb))
  go_ret
  exact ⟨rfl, b8⟩
set_option maxHeartbeats 4000000 in
theorem one_right_false (A : Option Addr) (m c : Nat) (L : List Nd) (E : List Ex) (i s : Nat) (v : Bool) (w : World) (hs : SigT w) (hn : L.length = m + 1) (hnc : m + 1 ≤ c) (ht : Lies w A (ndCells L)) (hg : Good4 L E) (hi : i < m + 1) (ho : ofF L = (false, (m : Int), 0)) (hl : (truF L)[m]? = some false) (hiv : (truF L)[i]? = some v)
    (hsz : sizF L i = s) (hcl : (cutF L i).length = s) (hco : ofF (cutF L i) = (v, (s : Int) - 1, 0)) (hkk : ∀ x ∈ L, 1 ≤ x.k ∧ x.k ≤ 19) :
    Calls Tryd.prog 5 #[.slice A (m + 1) c, .int .i64 i] w fun e w' => e = .returned (.bool true) ∧ Below w.heap.size w w' := by
  have hv := checkF_ok hg
  have h60 : m + 1 ≤ 60 := by rw [← hn]; exact hg.2.1
  have hs60 : s ≤ 60 := by
    have := (hg.size (i := i) (by omega)).2.1
    omega
  have HG := Lib.hid (great_any A (m + 1) c w false (decide_eq_false (by omega)))
  have HC := Lib.hid (rcheck_any A c (m + 1) L w hn (by unfold maxLen; omega) ht 0 hv)
  have HO := Lib.hid (fun W (hb : Bl w W) => of_any A c (m + 1) L W (hb.sig hs) hn (by unfold maxLen; omega) (hb.lies ht) false m 0 ho)
  have HN := Lib.hid (fun W (hb : Bl w W) => any_Number A c (m + 1) L W (hb.sig hs) hn (by unfold maxLen; omega) (hb.lies ht) m 0 (by unfold wantF; rw [ho]; rfl))
  have HT := Lib.hid (fun W (hb : Bl w W) => any_Truth A c (m + 1) L W (hb.sig hs) hn (by unfold maxLen; omega) (hb.lies ht) m 42 (by unfold wantF; rw [ho]; rfl))
  have HA := Lib.hid (fun W (hb : Bl w W) => all_ok A c (m + 1) L W (hb.sig hs) hn h60 (hb.lies ht) false m ho hkk)
  have HP := Lib.hid (fun W (hb : Bl w W) => part_ok A c (m + 1) L i s W (hb.lies ht) hv hn hnc hi hsz)
  have HOP := Lib.hid (fun A W (hb : Bl w W) hl => of_any A s s (cutF L i) W (hb.sig hs) hcl (by unfold maxLen; omega) hl v ((s : Int) - 1) 0 hco)
  have HS := Lib.hid hs
  have HLA := Lib.hid (show (bCells (truF L))[m]? = some (.bool false) by unfold bCells; rw [List.getElem?_map, hl]; rfl)
  have HIV := Lib.hid (show (bCells (truF L))[i]? = some (.bool v) by unfold bCells; rw [List.getElem?_map, hiv]; rfl)
  have j1 : ¬ ((i : Int) < 0) := by omega
  have j2 : ¬ (((m + 1 : Nat) : Int) ≤ i) := by omega
  have j3 : (0 : Int) ≤ i := by omega
  have j4 : (i : Int) < ((m + 1 : Nat) : Int) := by omega
  have e1 : ((m + 1 : Nat) : Int) - 1 = m := by omega
  have j5 : (m : Int) < ((m + 1 : Nat) : Int) := by omega
  clear hv hn ht hs ho hg hl hiv hsz hcl hco hkk
  go_enter Tryd.func5, Tryd.ntmps5
  go_wp2_with (first
    | (go_at_call 18; refine HG.out.mono ?_; rintro e w1 ⟨rfl, rfl⟩)
    | (go_at_call 24; refine HC.out.mono ?_; rintro e w1 ⟨rfl, hb⟩; have b1 := (Bl.start w).step hb; clear hb)
    | (go_at_call 12; (with_reducible refine (HO.out _ b1).mono ?_); rintro e w2 ⟨rfl, hb⟩; have b2 := b1.step hb; clear hb b1)
    | (go_at_call 14; refine (HN.out _ b2).mono ?_; rintro e w3 ⟨rfl, hb⟩; have b3 := b2.step hb; clear hb b2)
    | (go_at_call 15; refine (HT.out _ b3).mono ?_; rintro e w4 ⟨rfl, hb⟩; have b4 := b3.step hb; clear hb b3)
    | (go_at_call 16; refine (HA.out _ b4).mono ?_; rintro e w5 ⟨a5, rfl, hl5, hb⟩; have b5 := b4.step hb; have HL5 := Lib.hid hl5; obtain ⟨ad5, had5, _, d0⟩ := hl5.one HLA.out; injection had5 with had5; subst had5; clear hb b4 hl5)
    | (go_at_call 25; refine (HP.out _ b5).mono ?_; rintro e w6 ⟨a6, rfl, hl6, hb⟩; have b6 := b5.step hb; have HL6 := Lib.hid hl6; have HL56 := Lib.hid (HL5.out.below hb); clear hb b5 hl6 d0)
    | (go_at_call 12; (with_reducible refine (HOP.out _ _ b6 HL6.out).mono ?_); rintro e w7 ⟨rfl, hb⟩; have b7 := b6.step hb; obtain ⟨ad7, had7, _, d1⟩ := (HL56.out.below hb).one HIV.out; injection had7 with had7; subst had7; clear hb b6)
    | (go_at_call 17; refine (alive_any _ (b7.sig HS.out)).mono ?_; rintro e w8 ⟨rfl, hb⟩; have b8 := b7.step hb; clear hb))
  go_ret
  exact ⟨rfl, b8⟩
theorem KindsOne_walk (A : Option Addr) (c : Nat) (L : List Nd) (at_ : Int) (w : World) (hL : L.length ≤ maxLen) (ht : Lies w A (ndCells L)) (hnc : L.length ≤ c) (hA : (A = none ∧ c = 0 ∧ L = []) ∨ ∃ ad, A = some ad) (_ : (Lit.int .i64 at_).wf = true) (hs : SigT w) :
    Calls Tryd.prog 5 #[.slice A L.length c, .int .i64 at_] w fun e w' => e = .returned (.bool true) ∧ Below w.heap.size w w' := by
  by_cases h7 : 70 < L.length
  · exact one_great A _ c at_ w hs h7
  by_cases hv : checkF L = 0
  rotate_left
  · exact one_bad A _ c L at_ w hs rfl (by omega) ht hv
  by_cases ha : at_ < 0 ∨ (L.length : Int) ≤ at_
  · exact one_out A _ c L at_ w hs rfl (by omega) ht hv ha
  obtain ⟨i, rfl⟩ : ∃ i : Nat, at_ = i := ⟨at_.toNat, by omega⟩
  obtain ⟨E, hg⟩ := checkF_zero hv
  have hE := hg.ext
  have hkk : ∀ x ∈ L, 1 ≤ x.k ∧ x.k ≤ 19 := by
    intro x hx
    obtain ⟨j, hj⟩ := List.mem_iff_getElem?.1 hx
    obtain ⟨h1, h2, _⟩ := node_parts hE hj
    exact ⟨h1, h2⟩
  rcases of_cases L with ⟨v, h1, h2, h3⟩ | ⟨k, x, h1, h2, h3, h4, h5, h6⟩ | ⟨m, x, h1, h2, h3, hx, h5⟩
  · exact absurd (h1.symm.trans hv) h2
  · exact one_wrong A _ c L i k w hs rfl hg.2.1 ht hv (by omega) h3 h6
  · obtain ⟨y, hy⟩ : ∃ y, L[i]? = some y := ⟨_, List.getElem?_eq_getElem (by omega)⟩
    have hcut := cut_of hg hy (fun j z hj hz => fit_before (by omega) hz)
    rw [fit_before (by omega) hy, if_pos rfl] at hcut
    have hcl := (hg.size (i := i) (by omega)).2.2
    have tx : (truF L)[m]? = some (gvK x.k) := by unfold truF; rw [List.getElem?_map, hx]; rfl
    have ty : (truF L)[i]? = some (gvK y.k) := by unfold truF; rw [List.getElem?_map, hy]; rfl
    rw [h3] at hnc ⊢
    cases hgx : gvK x.k
    · rw [hgx] at h5 tx
      exact one_right_false A m c L E i _ _ w hs h3 hnc ht hg (by omega) h5 tx ty rfl hcl hcut hkk
    · rw [hgx] at h5 tx
      exact one_right_true A m c L E i _ _ w hs h3 hnc ht hg (by omega) h5 tx ty rfl hcl hcut hkk
end Go.Proofs.YtfnkofcgjbakeaaDoor.K6
