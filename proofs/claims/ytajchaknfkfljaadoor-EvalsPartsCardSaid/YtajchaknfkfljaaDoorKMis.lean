
/- The contract of misfit. -/
import Derived.Test.YtajchaknfkfljaaDoorKGive
import Derived.Deep.LoopGhost
import Derived.LoopN
namespace Go.Proofs.YtajchaknfkfljaaDoor.K6
open Go.ChangeShapes Go.WideShapes Go.ChangeAt Go.RowKit N4
set_option linter.unusedVariables false
set_option maxRecDepth 100000

def FitTo (L : List Nd) (k : Nat) : Prop := ∀ (j : Nat) (y : Nd), j < k → L[j]? = some y → fitN L y = true
theorem FitTo.start (L : List Nd) : FitTo L 0 := by intro j y h; omega
theorem FitTo.step {L : List Nd} {k : Nat} {x : Nd} (h : FitTo L k) (hx : L[k]? = some x) (hf : fitN L x = true) : FitTo L (k + 1) := by
  intro j y hj hy
  rcases Nat.lt_or_ge j k with h1 | h1
  · exact h j y h1 hy
  · obtain rfl : j = k := by omega
    rw [hx] at hy
    injection hy with hy
    rw [← hy]; exact hf
theorem FitTo.stop {L : List Nd} {k : Nat} {x : Nd} (h : FitTo L k) (hx : L[k]? = some x) (hf : fitN L x = false) : wrongF L = k := wrong_at h hx hf
theorem FitTo.whole {L : List Nd} {k : Nat} (h : FitTo L k) (hk : L.length = k) : wrongF L = k := by
  subst hk; exact wrong_all h
/-- What stands in the midst of misfit. -/
def MSt (w w1 : World) (A : Option Addr) (c n : Nat) (L : List Nd) (W : World) : Prop :=
  Below w.heap.size w W ∧ SigT W ∧ Lies W A (ndCells L) ∧ W.cell? ⟨w.heap.size, 0, none⟩ = some (.slice A n c) ∧ w.heap.size < W.heap.size
theorem MSt.step {w w1 W W' : World} {A : Option Addr} {c n : Nat} {L : List Nd} (h : MSt w w1 A c n L W) (hb : Below W.heap.size W W') : MSt w w1 A c n L W' := by
  obtain ⟨h1, h2, h3, h4, h5⟩ := h
  exact ⟨h1.trans (hb.mono h1.size), h2.stays hb, h3.below hb, by rw [hb.cell (p := ⟨w.heap.size, 0, none⟩) h5]; exact h4, Nat.lt_of_lt_of_le h5 hb.size⟩
theorem MSt.start {w : World} {A : Option Addr} {c n : Nat} {L : List Nd} (hs : SigT w) (ht : Lies w A (ndCells L)) (t : TypeId) : MSt w w A c n L (w.alloc (.cells #[.slice A n c] t)) := by
  have hb : Below w.heap.size w (w.alloc (.cells #[.slice A n c] t)) := (Below.refl _ _).alloc (Nat.le_refl _) _
  exact ⟨hb, hs.stays hb, ht.below hb, by go_simp, by simp⟩

set_option maxHeartbeats 8000000 in
theorem misfit_any (A : Option Addr) (c n : Nat) (L : List Nd) (E : List Ex) (w : World) (hs : SigT w) (ht : Lies w A (ndCells L)) (hn : L.length = n) (hg : Good4 L E) :
    Calls Tryd.prog 54 #[.slice A n c] w fun e w' => e = .returned (.int .i64 (wrongF L : Nat)) ∧ Below w.heap.size w w' := by
  have HM1 := Lib.hid (fun t => MSt.start (c := c) (n := n) hs ht t)
  have HN := Lib.hid hn
  have HG := Lib.hid hg
  have h60 : n ≤ 60 := by rw [← hn]; exact hg.2.1
  clear hs ht hn hg
  go_enter Tryd.func54, Tryd.ntmps54
  go_wp2
  go_step3
  go_wp2
  go_step3
  go_wp2
  go_loopg [4] n (fun g i wr => ∃ k : Nat, k + g = n ∧ i = .int .i64 k ∧ Hid (FitTo L k) ∧ Hid (MSt w w A c n L wr))
  case atStart => exact ⟨0, by omega, rfl, Lib.hid (FitTo.start L), Lib.hid (HM1.out _)⟩
  case round =>
    obtain ⟨k, hkg, rfl, HF, HM⟩ := hrel
    clear HM1
    cases gk with
    | zero =>
      obtain rfl : k = n := by omega
      have HW := Lib.hid (HF.out.whole HN.out)
      obtain ⟨_, _, _, hc, hlt⟩ := HM.out
      go_wp2
      rw [Exit.noGoto_ret]
      go_ret
      exact ⟨ret_int' (by rw [HW.out]), HM.out.1⟩
    | succ g =>
      obtain ⟨x, hx⟩ : ∃ x, L[k]? = some x := ⟨_, List.getElem?_eq_getElem (by rw [HN.out]; omega)⟩
      obtain ⟨q1, q2, q3⟩ := node_parts HG.out.ext hx
      obtain ⟨⟨q, xn, xa, xb, xp⟩, rfl⟩ : ∃ y, x = y := ⟨x, rfl⟩
      simp only at q1 q2 q3
      obtain ⟨q, rfl⟩ : ∃ q' : Nat, q = q' := ⟨q.toNat, by omega⟩
      obtain ⟨_, hs, ht, hc, hlt⟩ := HM.out
      obtain ⟨c0, _⟩ := hs.cells (k := q) (by omega)
      obtain ⟨ad, rfl, hadl, d0, d1, d2, d3, d4⟩ := ht.nd hx
      have hab : (ad.add (k * 5)).block < wr.heap.size := by rw [add_block]; exact hadl
      have hgt := hs.lt
      have HX := Lib.hid hx
      have hok : okK (q : Int) = true := by simp [okK]; omega
      have j1 : (k : Int) < n := by omega
      have j2 : (0 : Int) ≤ k := by omega
      have j3 : (q : Int) < 20 := by omega
      clear hs ht hadl hx
      rcases q3 with q3 | ⟨q3, q4, i1, y, ha, hb, hi1, hy⟩ | ⟨q3, i1, i2, y, z, ha, hb, hi1, hi2, hy, hz⟩
      · have HP := Lib.hid (fun W => parts_0 q xn xa xb xp W hok (by unfold cnt; rw [if_pos q3]))
        have HFN := Lib.hid (HF.out.step HX.out (fit_leaf (x := ⟨q, xn, xa, xb, xp⟩) q3))
        clear hok q1 q2 q3
        go_wp2_with (go_at_call 65; refine (HP.out _).mono ?_; rintro e w2 ⟨ap, rfl, hlp, hb2⟩; have HM2 := Lib.hid (HM.out.step hb2); have HLP := Lib.hid hlp; clear hb2 hlp)
        refine wp_loop_rounds 1 ?_
        rw [rounds_succ]
        go_wp2
        go_roundg g
        case measure => omega
        case rel => exact ⟨k + 1, by omega, by first | rfl | simp | (congr 1), HFN, Lib.hid (HM2.out)⟩
      · have HP := Lib.hid (fun W => parts_1 q xn xa xb xp W hok (by unfold cnt; rw [if_neg (by omega), if_pos q4]))
        obtain ⟨y1, y2, _⟩ := node_parts HG.out.ext hy
        have HC := Lib.hid (fun v (hv : giveB y.k = v) W (hm : MSt w w (some ad) c n L W) => clos_any (some ad) c n L w.heap.size i1 y xa v W hm.2.1 hm.2.2.1 HN.out hm.2.2.2.1 hm.2.2.2.2 hy ha y1 y2 hv)
        have HFV := Lib.hid (show fitN L ⟨q, xn, xa, xb, xp⟩ = fitK q (gvK y.k) false from fit_one (x := ⟨q, xn, xa, xb, xp⟩) q3 q4 ha hy false)
        have HQ := Lib.hid q4
        have HT := Lib.hid (takeB_vals q3 q2)
        have HGV := Lib.hid (giveB_vals y1)
        clear hok q1 q2 q3 q4 hy ha hb hi1 y1 y2
        rcases HT.out with ⟨t1, t2⟩ | ⟨t1, t2⟩ | ⟨_, t2, _⟩
        rotate_left 2
        · exact absurd t2 (by have := HQ.out; omega)
        · rw [t1] at c0
          clear t1
          rcases HGV.out with ⟨g1, g2⟩ | ⟨g1, g2⟩
          · have HCC := Lib.hid (fun W hm => HC.out 2 g2 W hm)
            have hfv := HFV.out
            rw [g1] at hfv
            have hfv2 := hfv.trans (t2 _ _)
            rw [if_pos HQ.out] at hfv2
            have HW := Lib.hid (HF.out.stop HX.out hfv2)
            clear g1 g2 hfv hfv2 t2
            go_wp2_with (go_at_call 65; refine (HP.out _).mono ?_; rintro e w2 ⟨ap, rfl, hlp, hb2⟩; have HM2 := Lib.hid (HM.out.step hb2); have HLP := Lib.hid hlp; clear hb2 hlp)
            refine wp_loop_rounds 2 ?_
            rw [rounds_succ]
            obtain ⟨_, hpc, hpl, p0⟩ := HLP.out.one (k := 0) rfl
            injection hpc with hpc; subst hpc; simp only [Addr.add_zero'] at p0
            go_wp2_with (go_at_call 64; refine (HCC.out _ HM2.out).mono ?_; rintro e w3 ⟨rfl, hb3⟩; have HM3 := Lib.hid (HM2.out.step hb3); clear hb3)
            rw [Exit.noGoto_ret]
            go_ret
            exact ⟨ret_int' (by rw [HW.out]), HM3.out.1⟩
          · have HCC := Lib.hid (fun W hm => HC.out 1 g2 W hm)
            have hfv := HFV.out
            rw [g1] at hfv
            have hfv2 := hfv.trans (t2 _ _)
            rw [if_pos HQ.out] at hfv2
            have HFN := Lib.hid (HF.out.step HX.out hfv2)
            clear g1 g2 hfv hfv2 t2
            go_wp2_with (go_at_call 65; refine (HP.out _).mono ?_; rintro e w2 ⟨ap, rfl, hlp, hb2⟩; have HM2 := Lib.hid (HM.out.step hb2); have HLP := Lib.hid hlp; clear hb2 hlp)
            refine wp_loop_rounds 2 ?_
            rw [rounds_succ]
            obtain ⟨_, hpc, hpl, p0⟩ := HLP.out.one (k := 0) rfl
            injection hpc with hpc; subst hpc; simp only [Addr.add_zero'] at p0
            go_wp2_with (go_at_call 64; refine (HCC.out _ HM2.out).mono ?_; rintro e w3 ⟨rfl, hb3⟩; have HM3 := Lib.hid (HM2.out.step hb3); clear hb3)
            try rw [rounds_succ]
            try go_wp2
            go_roundg g
            case measure => omega
            case rel => exact ⟨k + 1, by omega, by first | rfl | simp | (congr 1), HFN, Lib.hid (HM3.out)⟩
        · rw [t1] at c0
          clear t1
          rcases HGV.out with ⟨g1, g2⟩ | ⟨g1, g2⟩
          · have HCC := Lib.hid (fun W hm => HC.out 2 g2 W hm)
            have hfv := HFV.out
            rw [g1] at hfv
            have hfv2 := hfv.trans (t2 _ _)
            rw [if_pos HQ.out] at hfv2
            have HFN := Lib.hid (HF.out.step HX.out hfv2)
            clear g1 g2 hfv hfv2 t2
            go_wp2_with (go_at_call 65; refine (HP.out _).mono ?_; rintro e w2 ⟨ap, rfl, hlp, hb2⟩; have HM2 := Lib.hid (HM.out.step hb2); have HLP := Lib.hid hlp; clear hb2 hlp)
            refine wp_loop_rounds 2 ?_
            rw [rounds_succ]
            obtain ⟨_, hpc, hpl, p0⟩ := HLP.out.one (k := 0) rfl
            injection hpc with hpc; subst hpc; simp only [Addr.add_zero'] at p0
            go_wp2_with (go_at_call 64; refine (HCC.out _ HM2.out).mono ?_; rintro e w3 ⟨rfl, hb3⟩; have HM3 := Lib.hid (HM2.out.step hb3); clear hb3)
            try rw [rounds_succ]
            try go_wp2
            go_roundg g
            case measure => omega
            case rel => exact ⟨k + 1, by omega, by first | rfl | simp | (congr 1), HFN, Lib.hid (HM3.out)⟩
          · have HCC := Lib.hid (fun W hm => HC.out 1 g2 W hm)
            have hfv := HFV.out
            rw [g1] at hfv
            have hfv2 := hfv.trans (t2 _ _)
            rw [if_pos HQ.out] at hfv2
            have HW := Lib.hid (HF.out.stop HX.out hfv2)
            clear g1 g2 hfv hfv2 t2
            go_wp2_with (go_at_call 65; refine (HP.out _).mono ?_; rintro e w2 ⟨ap, rfl, hlp, hb2⟩; have HM2 := Lib.hid (HM.out.step hb2); have HLP := Lib.hid hlp; clear hb2 hlp)
            refine wp_loop_rounds 2 ?_
            rw [rounds_succ]
            obtain ⟨_, hpc, hpl, p0⟩ := HLP.out.one (k := 0) rfl
            injection hpc with hpc; subst hpc; simp only [Addr.add_zero'] at p0
            go_wp2_with (go_at_call 64; refine (HCC.out _ HM2.out).mono ?_; rintro e w3 ⟨rfl, hb3⟩; have HM3 := Lib.hid (HM2.out.step hb3); clear hb3)
            rw [Exit.noGoto_ret]
            go_ret
            exact ⟨ret_int' (by rw [HW.out]), HM3.out.1⟩
      · have HP := Lib.hid (fun W => parts_2 q xn xa xb xp W hok (by unfold cnt; rw [if_neg (by omega), if_neg (by omega)]))
        obtain ⟨y1, y2, _⟩ := node_parts HG.out.ext hy
        obtain ⟨z1, z2, _⟩ := node_parts HG.out.ext hz
        have HC := Lib.hid (fun v (hv : giveB y.k = v) W (hm : MSt w w (some ad) c n L W) => clos_any (some ad) c n L w.heap.size i1 y xa v W hm.2.1 hm.2.2.1 HN.out hm.2.2.2.1 hm.2.2.2.2 hy ha y1 y2 hv)
        have HD := Lib.hid (fun v (hv : giveB z.k = v) W (hm : MSt w w (some ad) c n L W) => clos_any (some ad) c n L w.heap.size i2 z xb v W hm.2.1 hm.2.2.1 HN.out hm.2.2.2.1 hm.2.2.2.2 hz hb z1 z2 hv)
        have HFV := Lib.hid (show fitN L ⟨q, xn, xa, xb, xp⟩ = fitK q (gvK y.k) (gvK z.k) from fit_two (x := ⟨q, xn, xa, xb, xp⟩) ha hb hy hz)
        have HQ := Lib.hid q3
        have HT := Lib.hid (takeB_vals (k := (q : Int)) (by omega) q2)
        have HGV := Lib.hid (giveB_vals y1)
        have HGZ := Lib.hid (giveB_vals z1)
        clear hok q1 q2 q3 hy ha hb hz hi1 hi2 y1 y2 z1 z2
        rcases HT.out with ⟨t1, t2⟩ | ⟨t1, t2⟩ | ⟨t1, _, t2⟩
        · rw [t1] at c0
          clear t1
          rcases HGV.out with ⟨g1, g2⟩ | ⟨g1, g2⟩
          · rcases HGZ.out with ⟨g3, g4⟩ | ⟨g3, g4⟩
            · have HCC := Lib.hid (fun W hm => HC.out 2 g2 W hm)
              have HDD := Lib.hid (fun W hm => HD.out 2 g4 W hm)
              have hfv := HFV.out
              rw [g1, g3] at hfv
              have hfv2 := hfv.trans (t2 _ _)
              rw [if_neg (by have := HQ.out; omega)] at hfv2
              have HW := Lib.hid (HF.out.stop HX.out hfv2)
              clear g1 g2 g3 g4 hfv hfv2 t2
              go_wp2_with (go_at_call 65; refine (HP.out _).mono ?_; rintro e w2 ⟨ap, rfl, hlp, hb2⟩; have HM2 := Lib.hid (HM.out.step hb2); have HLP := Lib.hid hlp; clear hb2 hlp)
              refine wp_loop_rounds 3 ?_
              rw [rounds_succ]
              obtain ⟨_, hpc, hpl, p0⟩ := HLP.out.one (k := 0) rfl
              injection hpc with hpc; subst hpc; simp only [Addr.add_zero'] at p0
              go_wp2_with (go_at_call 64; refine (HCC.out _ HM2.out).mono ?_; rintro e w3 ⟨rfl, hb3⟩; have HM3 := Lib.hid (HM2.out.step hb3); have HLP3 := Lib.hid (HLP.out.below hb3); clear hb3 p0)
              rw [Exit.noGoto_ret]
              go_ret
              exact ⟨ret_int' (by rw [HW.out]), HM3.out.1⟩
            · have HCC := Lib.hid (fun W hm => HC.out 2 g2 W hm)
              have HDD := Lib.hid (fun W hm => HD.out 1 g4 W hm)
              have hfv := HFV.out
              rw [g1, g3] at hfv
              have hfv2 := hfv.trans (t2 _ _)
              rw [if_neg (by have := HQ.out; omega)] at hfv2
              have HW := Lib.hid (HF.out.stop HX.out hfv2)
              clear g1 g2 g3 g4 hfv hfv2 t2
              go_wp2_with (go_at_call 65; refine (HP.out _).mono ?_; rintro e w2 ⟨ap, rfl, hlp, hb2⟩; have HM2 := Lib.hid (HM.out.step hb2); have HLP := Lib.hid hlp; clear hb2 hlp)
              refine wp_loop_rounds 3 ?_
              rw [rounds_succ]
              obtain ⟨_, hpc, hpl, p0⟩ := HLP.out.one (k := 0) rfl
              injection hpc with hpc; subst hpc; simp only [Addr.add_zero'] at p0
              go_wp2_with (go_at_call 64; refine (HCC.out _ HM2.out).mono ?_; rintro e w3 ⟨rfl, hb3⟩; have HM3 := Lib.hid (HM2.out.step hb3); have HLP3 := Lib.hid (HLP.out.below hb3); clear hb3 p0)
              rw [Exit.noGoto_ret]
              go_ret
              exact ⟨ret_int' (by rw [HW.out]), HM3.out.1⟩
          · rcases HGZ.out with ⟨g3, g4⟩ | ⟨g3, g4⟩
            · have HCC := Lib.hid (fun W hm => HC.out 1 g2 W hm)
              have HDD := Lib.hid (fun W hm => HD.out 2 g4 W hm)
              have hfv := HFV.out
              rw [g1, g3] at hfv
              have hfv2 := hfv.trans (t2 _ _)
              rw [if_neg (by have := HQ.out; omega)] at hfv2
              have HW := Lib.hid (HF.out.stop HX.out hfv2)
              clear g1 g2 g3 g4 hfv hfv2 t2
              go_wp2_with (go_at_call 65; refine (HP.out _).mono ?_; rintro e w2 ⟨ap, rfl, hlp, hb2⟩; have HM2 := Lib.hid (HM.out.step hb2); have HLP := Lib.hid hlp; clear hb2 hlp)
              refine wp_loop_rounds 3 ?_
              rw [rounds_succ]
              obtain ⟨_, hpc, hpl, p0⟩ := HLP.out.one (k := 0) rfl
              injection hpc with hpc; subst hpc; simp only [Addr.add_zero'] at p0
              go_wp2_with (go_at_call 64; refine (HCC.out _ HM2.out).mono ?_; rintro e w3 ⟨rfl, hb3⟩; have HM3 := Lib.hid (HM2.out.step hb3); have HLP3 := Lib.hid (HLP.out.below hb3); clear hb3 p0)
              try rw [rounds_succ]
              obtain ⟨_, hpc, hpl3, p1⟩ := HLP3.out.one (k := 1) rfl
              injection hpc with hpc; subst hpc
              rw [show ap.add 1 = ⟨ap.block, ap.off + 1, none⟩ from rfl] at p1
              go_wp2_with (go_at_call 64; refine (HDD.out _ HM3.out).mono ?_; rintro e w4 ⟨rfl, hb4⟩; have HM4 := Lib.hid (HM3.out.step hb4); clear hb4)
              rw [Exit.noGoto_ret]
              go_ret
              exact ⟨ret_int' (by rw [HW.out]), HM4.out.1⟩
            · have HCC := Lib.hid (fun W hm => HC.out 1 g2 W hm)
              have HDD := Lib.hid (fun W hm => HD.out 1 g4 W hm)
              have hfv := HFV.out
              rw [g1, g3] at hfv
              have hfv2 := hfv.trans (t2 _ _)
              rw [if_neg (by have := HQ.out; omega)] at hfv2
              have HFN := Lib.hid (HF.out.step HX.out hfv2)
              clear g1 g2 g3 g4 hfv hfv2 t2
              go_wp2_with (go_at_call 65; refine (HP.out _).mono ?_; rintro e w2 ⟨ap, rfl, hlp, hb2⟩; have HM2 := Lib.hid (HM.out.step hb2); have HLP := Lib.hid hlp; clear hb2 hlp)
              refine wp_loop_rounds 3 ?_
              rw [rounds_succ]
              obtain ⟨_, hpc, hpl, p0⟩ := HLP.out.one (k := 0) rfl
              injection hpc with hpc; subst hpc; simp only [Addr.add_zero'] at p0
              go_wp2_with (go_at_call 64; refine (HCC.out _ HM2.out).mono ?_; rintro e w3 ⟨rfl, hb3⟩; have HM3 := Lib.hid (HM2.out.step hb3); have HLP3 := Lib.hid (HLP.out.below hb3); clear hb3 p0)
              try rw [rounds_succ]
              obtain ⟨_, hpc, hpl3, p1⟩ := HLP3.out.one (k := 1) rfl
              injection hpc with hpc; subst hpc
              rw [show ap.add 1 = ⟨ap.block, ap.off + 1, none⟩ from rfl] at p1
              go_wp2_with (go_at_call 64; refine (HDD.out _ HM3.out).mono ?_; rintro e w4 ⟨rfl, hb4⟩; have HM4 := Lib.hid (HM3.out.step hb4); clear hb4)
              try rw [rounds_succ]
              try go_wp2
              go_roundg g
              case measure => omega
              case rel => exact ⟨k + 1, by omega, by first | rfl | simp | (congr 1), HFN, Lib.hid (HM4.out)⟩
        · rw [t1] at c0
          clear t1
          rcases HGV.out with ⟨g1, g2⟩ | ⟨g1, g2⟩
          · rcases HGZ.out with ⟨g3, g4⟩ | ⟨g3, g4⟩
            · have HCC := Lib.hid (fun W hm => HC.out 2 g2 W hm)
              have HDD := Lib.hid (fun W hm => HD.out 2 g4 W hm)
              have hfv := HFV.out
              rw [g1, g3] at hfv
              have hfv2 := hfv.trans (t2 _ _)
              rw [if_neg (by have := HQ.out; omega)] at hfv2
              have HFN := Lib.hid (HF.out.step HX.out hfv2)
              clear g1 g2 g3 g4 hfv hfv2 t2
              go_wp2_with (go_at_call 65; refine (HP.out _).mono ?_; rintro e w2 ⟨ap, rfl, hlp, hb2⟩; have HM2 := Lib.hid (HM.out.step hb2); have HLP := Lib.hid hlp; clear hb2 hlp)
              refine wp_loop_rounds 3 ?_
              rw [rounds_succ]
              obtain ⟨_, hpc, hpl, p0⟩ := HLP.out.one (k := 0) rfl
              injection hpc with hpc; subst hpc; simp only [Addr.add_zero'] at p0
              go_wp2_with (go_at_call 64; refine (HCC.out _ HM2.out).mono ?_; rintro e w3 ⟨rfl, hb3⟩; have HM3 := Lib.hid (HM2.out.step hb3); have HLP3 := Lib.hid (HLP.out.below hb3); clear hb3 p0)
              try rw [rounds_succ]
              obtain ⟨_, hpc, hpl3, p1⟩ := HLP3.out.one (k := 1) rfl
              injection hpc with hpc; subst hpc
              rw [show ap.add 1 = ⟨ap.block, ap.off + 1, none⟩ from rfl] at p1
              go_wp2_with (go_at_call 64; refine (HDD.out _ HM3.out).mono ?_; rintro e w4 ⟨rfl, hb4⟩; have HM4 := Lib.hid (HM3.out.step hb4); clear hb4)
              try rw [rounds_succ]
              try go_wp2
              go_roundg g
              case measure => omega
              case rel => exact ⟨k + 1, by omega, by first | rfl | simp | (congr 1), HFN, Lib.hid (HM4.out)⟩
            · have HCC := Lib.hid (fun W hm => HC.out 2 g2 W hm)
              have HDD := Lib.hid (fun W hm => HD.out 1 g4 W hm)
              have hfv := HFV.out
              rw [g1, g3] at hfv
              have hfv2 := hfv.trans (t2 _ _)
              rw [if_neg (by have := HQ.out; omega)] at hfv2
              have HW := Lib.hid (HF.out.stop HX.out hfv2)
              clear g1 g2 g3 g4 hfv hfv2 t2
              go_wp2_with (go_at_call 65; refine (HP.out _).mono ?_; rintro e w2 ⟨ap, rfl, hlp, hb2⟩; have HM2 := Lib.hid (HM.out.step hb2); have HLP := Lib.hid hlp; clear hb2 hlp)
              refine wp_loop_rounds 3 ?_
              rw [rounds_succ]
              obtain ⟨_, hpc, hpl, p0⟩ := HLP.out.one (k := 0) rfl
              injection hpc with hpc; subst hpc; simp only [Addr.add_zero'] at p0
              go_wp2_with (go_at_call 64; refine (HCC.out _ HM2.out).mono ?_; rintro e w3 ⟨rfl, hb3⟩; have HM3 := Lib.hid (HM2.out.step hb3); have HLP3 := Lib.hid (HLP.out.below hb3); clear hb3 p0)
              try rw [rounds_succ]
              obtain ⟨_, hpc, hpl3, p1⟩ := HLP3.out.one (k := 1) rfl
              injection hpc with hpc; subst hpc
              rw [show ap.add 1 = ⟨ap.block, ap.off + 1, none⟩ from rfl] at p1
              go_wp2_with (go_at_call 64; refine (HDD.out _ HM3.out).mono ?_; rintro e w4 ⟨rfl, hb4⟩; have HM4 := Lib.hid (HM3.out.step hb4); clear hb4)
              rw [Exit.noGoto_ret]
              go_ret
              exact ⟨ret_int' (by rw [HW.out]), HM4.out.1⟩
          · rcases HGZ.out with ⟨g3, g4⟩ | ⟨g3, g4⟩
            · have HCC := Lib.hid (fun W hm => HC.out 1 g2 W hm)
              have HDD := Lib.hid (fun W hm => HD.out 2 g4 W hm)
              have hfv := HFV.out
              rw [g1, g3] at hfv
              have hfv2 := hfv.trans (t2 _ _)
              rw [if_neg (by have := HQ.out; omega)] at hfv2
              have HW := Lib.hid (HF.out.stop HX.out hfv2)
              clear g1 g2 g3 g4 hfv hfv2 t2
              go_wp2_with (go_at_call 65; refine (HP.out _).mono ?_; rintro e w2 ⟨ap, rfl, hlp, hb2⟩; have HM2 := Lib.hid (HM.out.step hb2); have HLP := Lib.hid hlp; clear hb2 hlp)
              refine wp_loop_rounds 3 ?_
              rw [rounds_succ]
              obtain ⟨_, hpc, hpl, p0⟩ := HLP.out.one (k := 0) rfl
              injection hpc with hpc; subst hpc; simp only [Addr.add_zero'] at p0
              go_wp2_with (go_at_call 64; refine (HCC.out _ HM2.out).mono ?_; rintro e w3 ⟨rfl, hb3⟩; have HM3 := Lib.hid (HM2.out.step hb3); have HLP3 := Lib.hid (HLP.out.below hb3); clear hb3 p0)
              rw [Exit.noGoto_ret]
              go_ret
              exact ⟨ret_int' (by rw [HW.out]), HM3.out.1⟩
            · have HCC := Lib.hid (fun W hm => HC.out 1 g2 W hm)
              have HDD := Lib.hid (fun W hm => HD.out 1 g4 W hm)
              have hfv := HFV.out
              rw [g1, g3] at hfv
              have hfv2 := hfv.trans (t2 _ _)
              rw [if_neg (by have := HQ.out; omega)] at hfv2
              have HW := Lib.hid (HF.out.stop HX.out hfv2)
              clear g1 g2 g3 g4 hfv hfv2 t2
              go_wp2_with (go_at_call 65; refine (HP.out _).mono ?_; rintro e w2 ⟨ap, rfl, hlp, hb2⟩; have HM2 := Lib.hid (HM.out.step hb2); have HLP := Lib.hid hlp; clear hb2 hlp)
              refine wp_loop_rounds 3 ?_
              rw [rounds_succ]
              obtain ⟨_, hpc, hpl, p0⟩ := HLP.out.one (k := 0) rfl
              injection hpc with hpc; subst hpc; simp only [Addr.add_zero'] at p0
              go_wp2_with (go_at_call 64; refine (HCC.out _ HM2.out).mono ?_; rintro e w3 ⟨rfl, hb3⟩; have HM3 := Lib.hid (HM2.out.step hb3); have HLP3 := Lib.hid (HLP.out.below hb3); clear hb3 p0)
              rw [Exit.noGoto_ret]
              go_ret
              exact ⟨ret_int' (by rw [HW.out]), HM3.out.1⟩
        · rw [t1] at c0
          clear t1
          rcases HGV.out with ⟨g1, g2⟩ | ⟨g1, g2⟩
          · rcases HGZ.out with ⟨g3, g4⟩ | ⟨g3, g4⟩
            · have HCC := Lib.hid (fun W hm => HC.out 2 g2 W hm)
              have HDD := Lib.hid (fun W hm => HD.out 2 g4 W hm)
              have hfv := HFV.out
              rw [g1, g3] at hfv
              have hfv2 := hfv.trans (t2 _ _)
              have HFN := Lib.hid (HF.out.step HX.out hfv2)
              clear g1 g2 g3 g4 hfv hfv2 t2
              go_wp2_with (go_at_call 65; refine (HP.out _).mono ?_; rintro e w2 ⟨ap, rfl, hlp, hb2⟩; have HM2 := Lib.hid (HM.out.step hb2); have HLP := Lib.hid hlp; clear hb2 hlp)
              refine wp_loop_rounds 3 ?_
              rw [rounds_succ]
              obtain ⟨_, hpc, hpl, p0⟩ := HLP.out.one (k := 0) rfl
              injection hpc with hpc; subst hpc; simp only [Addr.add_zero'] at p0
              go_wp2_with (go_at_call 64; refine (HCC.out _ HM2.out).mono ?_; rintro e w3 ⟨rfl, hb3⟩; have HM3 := Lib.hid (HM2.out.step hb3); have HLP3 := Lib.hid (HLP.out.below hb3); clear hb3 p0)
              try rw [rounds_succ]
              obtain ⟨_, hpc, hpl3, p1⟩ := HLP3.out.one (k := 1) rfl
              injection hpc with hpc; subst hpc
              rw [show ap.add 1 = ⟨ap.block, ap.off + 1, none⟩ from rfl] at p1
              go_wp2_with (go_at_call 64; refine (HDD.out _ HM3.out).mono ?_; rintro e w4 ⟨rfl, hb4⟩; have HM4 := Lib.hid (HM3.out.step hb4); clear hb4)
              try rw [rounds_succ]
              try go_wp2
              go_roundg g
              case measure => omega
              case rel => exact ⟨k + 1, by omega, by first | rfl | simp | (congr 1), HFN, Lib.hid (HM4.out)⟩
            · have HCC := Lib.hid (fun W hm => HC.out 2 g2 W hm)
              have HDD := Lib.hid (fun W hm => HD.out 1 g4 W hm)
              have hfv := HFV.out
              rw [g1, g3] at hfv
              have hfv2 := hfv.trans (t2 _ _)
              have HW := Lib.hid (HF.out.stop HX.out hfv2)
              clear g1 g2 g3 g4 hfv hfv2 t2
              go_wp2_with (go_at_call 65; refine (HP.out _).mono ?_; rintro e w2 ⟨ap, rfl, hlp, hb2⟩; have HM2 := Lib.hid (HM.out.step hb2); have HLP := Lib.hid hlp; clear hb2 hlp)
              refine wp_loop_rounds 3 ?_
              rw [rounds_succ]
              obtain ⟨_, hpc, hpl, p0⟩ := HLP.out.one (k := 0) rfl
              injection hpc with hpc; subst hpc; simp only [Addr.add_zero'] at p0
              go_wp2_with (go_at_call 64; refine (HCC.out _ HM2.out).mono ?_; rintro e w3 ⟨rfl, hb3⟩; have HM3 := Lib.hid (HM2.out.step hb3); have HLP3 := Lib.hid (HLP.out.below hb3); clear hb3 p0)
              try rw [rounds_succ]
              obtain ⟨_, hpc, hpl3, p1⟩ := HLP3.out.one (k := 1) rfl
              injection hpc with hpc; subst hpc
              rw [show ap.add 1 = ⟨ap.block, ap.off + 1, none⟩ from rfl] at p1
              go_wp2_with (go_at_call 64; refine (HDD.out _ HM3.out).mono ?_; rintro e w4 ⟨rfl, hb4⟩; have HM4 := Lib.hid (HM3.out.step hb4); clear hb4)
              rw [Exit.noGoto_ret]
              go_ret
              exact ⟨ret_int' (by rw [HW.out]), HM4.out.1⟩
          · rcases HGZ.out with ⟨g3, g4⟩ | ⟨g3, g4⟩
            · have HCC := Lib.hid (fun W hm => HC.out 1 g2 W hm)
              have HDD := Lib.hid (fun W hm => HD.out 2 g4 W hm)
              have hfv := HFV.out
              rw [g1, g3] at hfv
              have hfv2 := hfv.trans (t2 _ _)
              have HW := Lib.hid (HF.out.stop HX.out hfv2)
              clear g1 g2 g3 g4 hfv hfv2 t2
              go_wp2_with (go_at_call 65; refine (HP.out _).mono ?_; rintro e w2 ⟨ap, rfl, hlp, hb2⟩; have HM2 := Lib.hid (HM.out.step hb2); have HLP := Lib.hid hlp; clear hb2 hlp)
              refine wp_loop_rounds 3 ?_
              rw [rounds_succ]
              obtain ⟨_, hpc, hpl, p0⟩ := HLP.out.one (k := 0) rfl
              injection hpc with hpc; subst hpc; simp only [Addr.add_zero'] at p0
              go_wp2_with (go_at_call 64; refine (HCC.out _ HM2.out).mono ?_; rintro e w3 ⟨rfl, hb3⟩; have HM3 := Lib.hid (HM2.out.step hb3); have HLP3 := Lib.hid (HLP.out.below hb3); clear hb3 p0)
              try rw [rounds_succ]
              obtain ⟨_, hpc, hpl3, p1⟩ := HLP3.out.one (k := 1) rfl
              injection hpc with hpc; subst hpc
              rw [show ap.add 1 = ⟨ap.block, ap.off + 1, none⟩ from rfl] at p1
              go_wp2_with (go_at_call 64; refine (HDD.out _ HM3.out).mono ?_; rintro e w4 ⟨rfl, hb4⟩; have HM4 := Lib.hid (HM3.out.step hb4); clear hb4)
              rw [Exit.noGoto_ret]
              go_ret
              exact ⟨ret_int' (by rw [HW.out]), HM4.out.1⟩
            · have HCC := Lib.hid (fun W hm => HC.out 1 g2 W hm)
              have HDD := Lib.hid (fun W hm => HD.out 1 g4 W hm)
              have hfv := HFV.out
              rw [g1, g3] at hfv
              have hfv2 := hfv.trans (t2 _ _)
              have HFN := Lib.hid (HF.out.step HX.out hfv2)
              clear g1 g2 g3 g4 hfv hfv2 t2
              go_wp2_with (go_at_call 65; refine (HP.out _).mono ?_; rintro e w2 ⟨ap, rfl, hlp, hb2⟩; have HM2 := Lib.hid (HM.out.step hb2); have HLP := Lib.hid hlp; clear hb2 hlp)
              refine wp_loop_rounds 3 ?_
              rw [rounds_succ]
              obtain ⟨_, hpc, hpl, p0⟩ := HLP.out.one (k := 0) rfl
              injection hpc with hpc; subst hpc; simp only [Addr.add_zero'] at p0
              go_wp2_with (go_at_call 64; refine (HCC.out _ HM2.out).mono ?_; rintro e w3 ⟨rfl, hb3⟩; have HM3 := Lib.hid (HM2.out.step hb3); have HLP3 := Lib.hid (HLP.out.below hb3); clear hb3 p0)
              try rw [rounds_succ]
              obtain ⟨_, hpc, hpl3, p1⟩ := HLP3.out.one (k := 1) rfl
              injection hpc with hpc; subst hpc
              rw [show ap.add 1 = ⟨ap.block, ap.off + 1, none⟩ from rfl] at p1
              go_wp2_with (go_at_call 64; refine (HDD.out _ HM3.out).mono ?_; rintro e w4 ⟨rfl, hb4⟩; have HM4 := Lib.hid (HM3.out.step hb4); clear hb4)
              try rw [rounds_succ]
              try go_wp2
              go_roundg g
              case measure => omega
              case rel => exact ⟨k + 1, by omega, by first | rfl | simp | (congr 1), HFN, Lib.hid (HM4.out)⟩
end Go.Proofs.YtajchaknfkfljaaDoor.K6
