/- KindsTells walks to true. -/
import Derived.Test.YtfnkofcgjbakeaaDoorKRef2
import Derived.Test.YtfnkofcgjbakeaaDoorKAlive
namespace Go.Proofs.YtfnkofcgjbakeaaDoor.K6
open Go.ChangeShapes Go.WideShapes Go.ChangeAt Go.RowKit N4
set_option linter.unusedVariables false
set_option linter.unusedSimpArgs false
set_option maxRecDepth 100000

/-- What the law keeps from call to call. -/
def Tl (w : World) (A1 : Option Addr) (L : List Nd) (W : World) : Prop := Bl w W ∧ Lies W A1 (ndCells L) ∧ SigT W
theorem Tl.step {w W W' : World} {A1 : Option Addr} {L : List Nd} (h : Tl w A1 L W) (hb : Below W.heap.size W W') : Tl w A1 L W' := ⟨h.1.step hb, h.2.1.below hb, h.2.2.stays hb⟩
theorem tells_great (A : Option Addr) (n c : Nat) (w : World) (h : 70 < n) :
    Calls Tryd.prog 4 #[.slice A n c] w fun e w' => e = .returned (.bool true) ∧ Below w.heap.size w w' := by
  have HG := Lib.hid (great_any A n c w true (decide_eq_true h))
  clear h
  go_enter Tryd.func4, Tryd.ntmps4
  go_wp2_with (go_at_call 18; refine HG.out.mono ?_; rintro e w1 ⟨rfl, rfl⟩)
  go_ret
  exact ⟨rfl, Below.refl _ _⟩
set_option maxHeartbeats 4000000 in
theorem tells_nil (xA : Nat) (n c : Nat) (L : List Nd) (t : Bool) (a v na ne ta te : Int) (w : World) (hs : SigT w) (hn : L.length = n) (h7 : n ≤ 70) (ht : Lies w none (ndCells L)) (ho : ofF L = (t, a, v)) (htt : t = false) (hwn : wantF L false = (na, ne)) (hwt : wantF L true = (ta, te)) (hn0 : n = 0) (hc0 : c = 0) (h0 : v ≠ 0) :
    Calls Tryd.prog 4 #[.slice none n c] w fun e w' => e = .returned (.bool true) ∧ Below w.heap.size w w' := by
  subst htt
  have HG := Lib.hid (great_any none n c w false (decide_eq_false (by omega)))
  have HO := Lib.hid (fun A1 c1 W (h : Tl w A1 L W) => of_any A1 c1 n L W h.2.2 hn (by unfold maxLen; omega) h.2.1 _ a v ho)
  have RO := Lib.hid (fun A1 W (h : Tl w A1 L W) => rof_any none c n L W hn (by unfold maxLen; omega) (h.1.lies ht) _ a v ho)
  have HA := Lib.hid (fun A1 c1 W (h : Tl w A1 L W) => all_bad A1 c1 n L W h.2.2 hn (by unfold maxLen; omega) h.2.1 _ a v ho h0)
  have RA := Lib.hid (fun A1 W (h : Tl w A1 L W) => rall_bad none c n L W hn (by unfold maxLen; omega) (h.1.lies ht) _ a v ho h0)
  have HN := Lib.hid (fun A1 c1 W (h : Tl w A1 L W) => any_Number A1 c1 n L W h.2.2 hn (by unfold maxLen; omega) h.2.1 na ne hwn)
  have RN := Lib.hid (fun A1 W (h : Tl w A1 L W) => rwant_any none c n L W hn (by unfold maxLen; omega) (h.1.lies ht) false na ne hwn)
  have HT := Lib.hid (fun A1 c1 W (h : Tl w A1 L W) => any_Truth A1 c1 n L W h.2.2 hn (by unfold maxLen; omega) h.2.1 ta te hwt)
  have RT := Lib.hid (fun A1 W (h : Tl w A1 L W) => rwant_any none c n L W hn (by unfold maxLen; omega) (h.1.lies ht) true ta te hwt)
  have HE := Lib.hid (fun A1 c1 W (h : Tl w A1 L W) => requal_any A1 none n n c1 c L L W hn hn (by omega) (by omega) h.2.1 (h.1.lies ht) true (by simp))
  have HSM := Lib.hid (fun W => same_eq none none 0 0 0 [] W rfl (by decide) (.inl rfl) (.inl rfl))
  have HS := Lib.hid hs
  obtain ⟨i0, hi0, _⟩ := info_parts nd_info
  have HLN := Lib.hid (show L = [] from List.eq_nil_of_length_eq_zero (by omega))
  subst hn0 hc0
  clear hn ht ho hwn hwt hs h0
  go_enter Tryd.func4, Tryd.ntmps4
  go_wp2_with (first
    | (go_at_call 18; refine HG.out.mono ?_; rintro e w0 ⟨rfl, rfl⟩)
    | (at_builtin; refine wpList_append_own_none rfl (.tmp 24) (.tmp 25) 22 rfl w.heap.size 29 i0 5 Tryd.underlying22 hi0 (.slice (some ⟨w.heap.size, 0, none⟩) 0 0) 0 [] rfl (World.ownsRow_lit (base := w.heap.size) (e := 29) (size := 5) w #[] 0 (Nat.le_refl _) (Nat.zero_le _) rfl) rfl ?_))
  have t0 : Tl w (some ⟨w.heap.size, 0, none⟩) L (w.alloc (.cells #[] 29)) := ⟨(Bl.start w).al _, .inl (by rw [HLN.out]; rfl), ((Bl.start w).al _).sig HS.out⟩
  go_wp2_with (first
    | (go_at_call 12; (with_reducible refine (HO.out _ _ _ t0).mono ?_); rintro e x1 ⟨rfl, hb⟩; have t1 := t0.step hb; clear hb t0)
    | (go_at_call 19; (with_reducible refine (RO.out _ _ t1).mono ?_); rintro e x2 ⟨rfl, hb⟩; have t2 := t1.step hb; clear hb t1)
    | (go_at_call 16; (with_reducible refine (HA.out _ _ _ t2).mono ?_); rintro e x3 ⟨rfl, hb⟩; have t3 := t2.step hb; clear hb t2)
    | (go_at_call 20; (with_reducible refine (RA.out _ _ t3).mono ?_); rintro e x4 ⟨rfl, hb⟩; have t4 := t3.step hb; clear hb t3)
    | (go_at_call 14; (with_reducible refine (HN.out _ _ _ t4).mono ?_); rintro e x5 ⟨rfl, hb⟩; have t5 := t4.step hb; clear hb t4)
    | (go_at_call 21; (with_reducible refine (RN.out _ _ t5).mono ?_); rintro e x6 ⟨rfl, hb⟩; have t6 := t5.step hb; clear hb t5)
    | (go_at_call 15; (with_reducible refine (HT.out _ _ _ t6).mono ?_); rintro e x7 ⟨rfl, hb⟩; have t7 := t6.step hb; clear hb t6)
    | (go_at_call 21; (with_reducible refine (RT.out _ _ t7).mono ?_); rintro e x8 ⟨rfl, hb⟩; have t8 := t7.step hb; clear hb t7)
    | (go_at_call 22; (with_reducible refine (HSM.out _).mono ?_); rintro e x9 ⟨rfl, hb⟩; have t9 := t8.step hb; clear hb t8)
    | (go_at_call 23; (with_reducible refine (HE.out _ _ _ t9).mono ?_); rintro e x10 ⟨rfl, hb⟩; have t10 := t9.step hb; clear hb t9))
  go_ret
  exact ⟨rfl, t10.1⟩
set_option maxHeartbeats 4000000 in
theorem tells_bad (ad : Addr) (n c : Nat) (L : List Nd) (t : Bool) (a v na ne ta te : Int) (w : World) (hs : SigT w) (hn : L.length = n) (h7 : n ≤ 70) (ht : Lies w (some ad) (ndCells L)) (ho : ofF L = (t, a, v)) (htt : t = false) (hwn : wantF L false = (na, ne)) (hwt : wantF L true = (ta, te)) (h0 : v ≠ 0) :
    Calls Tryd.prog 4 #[.slice (some ad) n c] w fun e w' => e = .returned (.bool true) ∧ Below w.heap.size w w' := by
  subst htt
  have HG := Lib.hid (great_any (some ad) n c w false (decide_eq_false (by omega)))
  have HO := Lib.hid (fun A1 c1 W (h : Tl w A1 L W) => of_any A1 c1 n L W h.2.2 hn (by unfold maxLen; omega) h.2.1 _ a v ho)
  have RO := Lib.hid (fun A1 W (h : Tl w A1 L W) => rof_any (some ad) c n L W hn (by unfold maxLen; omega) (h.1.lies ht) _ a v ho)
  have HA := Lib.hid (fun A1 c1 W (h : Tl w A1 L W) => all_bad A1 c1 n L W h.2.2 hn (by unfold maxLen; omega) h.2.1 _ a v ho h0)
  have RA := Lib.hid (fun A1 W (h : Tl w A1 L W) => rall_bad (some ad) c n L W hn (by unfold maxLen; omega) (h.1.lies ht) _ a v ho h0)
  have HN := Lib.hid (fun A1 c1 W (h : Tl w A1 L W) => any_Number A1 c1 n L W h.2.2 hn (by unfold maxLen; omega) h.2.1 na ne hwn)
  have RN := Lib.hid (fun A1 W (h : Tl w A1 L W) => rwant_any (some ad) c n L W hn (by unfold maxLen; omega) (h.1.lies ht) false na ne hwn)
  have HT := Lib.hid (fun A1 c1 W (h : Tl w A1 L W) => any_Truth A1 c1 n L W h.2.2 hn (by unfold maxLen; omega) h.2.1 ta te hwt)
  have RT := Lib.hid (fun A1 W (h : Tl w A1 L W) => rwant_any (some ad) c n L W hn (by unfold maxLen; omega) (h.1.lies ht) true ta te hwt)
  have HE := Lib.hid (fun A1 c1 W (h : Tl w A1 L W) => requal_any A1 (some ad) n n c1 c L L W hn hn (by omega) (by omega) h.2.1 (h.1.lies ht) true (by simp))
  have HSM := Lib.hid (fun W => same_eq none none 0 0 0 [] W rfl (by decide) (.inl rfl) (.inl rfl))
  have HS := Lib.hid hs
  have HTT := Lib.hid ht
  have HN5 := Lib.hid (show (ndCells L).length = n * 5 by rw [ndCells_length, hn])
  obtain ⟨i0, hi, hz0, hz1, hz2⟩ := info_parts nd_info
  clear hn ht ho hwn hwt hs h0
  go_enter Tryd.func4, Tryd.ntmps4
  go_wp2_with (first
    | (go_at_call 18; refine HG.out.mono ?_; rintro e w0 ⟨rfl, rfl⟩)
    | (at_builtin; refine wpList_append_own_at _ rfl (.tmp 24) (.tmp 25) 22 rfl w.heap.size 29 i0 _ 5 40 Tryd.underlying22 hi hz0 hz1 hz2 rfl (by decide) (.slice (some ⟨w.heap.size, 0, none⟩) 0 0) 0 [] rfl (World.ownsRow_lit (base := w.heap.size) (e := 29) (size := 5) w #[] 0 (Nat.le_refl _) (Nat.zero_le _) rfl) ad n c (ndCells L) rfl ?c1 ?c2 ?c3 ?c4 ?c5 ?c6 ?_))
  case c1 => exact HN5.out
  case c2 => exact (HTT.out.alloc _).cells
  case c3 => exact nd_one _
  case c4 => unfold maxLen; omega
  case c5 => omega
  case c6 => simp
  intro v1 w1 ho hg _ _
  have ho' : w1.ownsRow w.heap.size 29 5 v1 n (ndCells L) := by simpa using ho
  obtain ⟨A1, c1, rfl, hc1, _⟩ := own_form ho'
  have b1 : Bl w w1 := ((Below.refl _ _).alloc (Nat.le_refl _) _).grown hg (by simp) (by intro j hj; injection hj with hj; change w.heap.size = j at hj; omega)
  have t0 : Tl w A1 L w1 := ⟨b1, Lies.of_own ho' (by intro h; exact List.eq_nil_of_length_eq_zero (by rw [HN5.out, h])), b1.sig HS.out⟩
  clear ho ho' hg b1
  go_wp2_with (first
    | (go_at_call 12; (with_reducible refine (HO.out _ _ _ t0).mono ?_); rintro e x1 ⟨rfl, hb⟩; have t1 := t0.step hb; clear hb t0)
    | (go_at_call 19; (with_reducible refine (RO.out _ _ t1).mono ?_); rintro e x2 ⟨rfl, hb⟩; have t2 := t1.step hb; clear hb t1)
    | (go_at_call 16; (with_reducible refine (HA.out _ _ _ t2).mono ?_); rintro e x3 ⟨rfl, hb⟩; have t3 := t2.step hb; clear hb t2)
    | (go_at_call 20; (with_reducible refine (RA.out _ _ t3).mono ?_); rintro e x4 ⟨rfl, hb⟩; have t4 := t3.step hb; clear hb t3)
    | (go_at_call 14; (with_reducible refine (HN.out _ _ _ t4).mono ?_); rintro e x5 ⟨rfl, hb⟩; have t5 := t4.step hb; clear hb t4)
    | (go_at_call 21; (with_reducible refine (RN.out _ _ t5).mono ?_); rintro e x6 ⟨rfl, hb⟩; have t6 := t5.step hb; clear hb t5)
    | (go_at_call 15; (with_reducible refine (HT.out _ _ _ t6).mono ?_); rintro e x7 ⟨rfl, hb⟩; have t7 := t6.step hb; clear hb t6)
    | (go_at_call 21; (with_reducible refine (RT.out _ _ t7).mono ?_); rintro e x8 ⟨rfl, hb⟩; have t8 := t7.step hb; clear hb t7)
    | (go_at_call 22; (with_reducible refine (HSM.out _).mono ?_); rintro e x9 ⟨rfl, hb⟩; have t9 := t8.step hb; clear hb t8)
    | (go_at_call 23; (with_reducible refine (HE.out _ _ _ t9).mono ?_); rintro e x10 ⟨rfl, hb⟩; have t10 := t9.step hb; clear hb t9))
  go_ret
  exact ⟨rfl, t10.1⟩
set_option maxHeartbeats 4000000 in
theorem tells_ok_true (ad : Addr) (n c : Nat) (L : List Nd) (t : Bool) (a v na ne ta te : Int) (w : World) (hs : SigT w) (hn : L.length = n) (h7 : n ≤ 70) (ht : Lies w (some ad) (ndCells L)) (ho : ofF L = (t, a, v)) (htt : t = true) (hwn : wantF L false = (na, ne)) (hwt : wantF L true = (ta, te)) (h60 : n ≤ 60) (hv0 : v = 0) (hkk : ∀ x ∈ L, 1 ≤ x.k ∧ x.k ≤ 19) :
    Calls Tryd.prog 4 #[.slice (some ad) n c] w fun e w' => e = .returned (.bool true) ∧ Below w.heap.size w w' := by
  subst htt
  subst hv0
  have HG := Lib.hid (great_any (some ad) n c w false (decide_eq_false (by omega)))
  have HO := Lib.hid (fun A1 c1 W (h : Tl w A1 L W) => of_any A1 c1 n L W h.2.2 hn (by unfold maxLen; omega) h.2.1 _ a 0 ho)
  have RO := Lib.hid (fun A1 W (h : Tl w A1 L W) => rof_any (some ad) c n L W hn (by unfold maxLen; omega) (h.1.lies ht) _ a 0 ho)
  have HA := Lib.hid (fun A1 c1 W (h : Tl w A1 L W) => all_ok A1 c1 n L W h.2.2 hn h60 h.2.1 _ a ho hkk)
  have RA := Lib.hid (fun A1 W (h : Tl w A1 L W) => rall_ok (some ad) c n L W hn h60 (h.1.lies ht) _ a ho)
  have HN := Lib.hid (fun A1 c1 W (h : Tl w A1 L W) => any_Number A1 c1 n L W h.2.2 hn (by unfold maxLen; omega) h.2.1 na ne hwn)
  have RN := Lib.hid (fun A1 W (h : Tl w A1 L W) => rwant_any (some ad) c n L W hn (by unfold maxLen; omega) (h.1.lies ht) false na ne hwn)
  have HT := Lib.hid (fun A1 c1 W (h : Tl w A1 L W) => any_Truth A1 c1 n L W h.2.2 hn (by unfold maxLen; omega) h.2.1 ta te hwt)
  have RT := Lib.hid (fun A1 W (h : Tl w A1 L W) => rwant_any (some ad) c n L W hn (by unfold maxLen; omega) (h.1.lies ht) true ta te hwt)
  have HE := Lib.hid (fun A1 c1 W (h : Tl w A1 L W) => requal_any A1 (some ad) n n c1 c L L W hn hn (by omega) (by omega) h.2.1 (h.1.lies ht) true (by simp))
  have HSM := Lib.hid (fun A2 A3 c2 c3 W (h2 : Lies W A2 (bCells (truF L))) (h3 : Lies W A3 (bCells (truF L))) => same_eq A2 A3 n c2 c3 (truF L) W (by unfold truF; rw [List.length_map, hn]) (by omega) h2 h3)
  have HS := Lib.hid hs
  have HTT := Lib.hid ht
  have HN5 := Lib.hid (show (ndCells L).length = n * 5 by rw [ndCells_length, hn])
  obtain ⟨i0, hi, hz0, hz1, hz2⟩ := info_parts nd_info
  clear hn ht ho hwn hwt hs hkk
  go_enter Tryd.func4, Tryd.ntmps4
  go_wp2_with (first
    | (go_at_call 18; refine HG.out.mono ?_; rintro e w0 ⟨rfl, rfl⟩)
    | (at_builtin; refine wpList_append_own_at _ rfl (.tmp 24) (.tmp 25) 22 rfl w.heap.size 29 i0 _ 5 40 Tryd.underlying22 hi hz0 hz1 hz2 rfl (by decide) (.slice (some ⟨w.heap.size, 0, none⟩) 0 0) 0 [] rfl (World.ownsRow_lit (base := w.heap.size) (e := 29) (size := 5) w #[] 0 (Nat.le_refl _) (Nat.zero_le _) rfl) ad n c (ndCells L) rfl ?c1 ?c2 ?c3 ?c4 ?c5 ?c6 ?_))
  case c1 => exact HN5.out
  case c2 => exact (HTT.out.alloc _).cells
  case c3 => exact nd_one _
  case c4 => unfold maxLen; omega
  case c5 => omega
  case c6 => simp
  intro v1 w1 ho hg _ _
  have ho' : w1.ownsRow w.heap.size 29 5 v1 n (ndCells L) := by simpa using ho
  obtain ⟨A1, c1, rfl, hc1, _⟩ := own_form ho'
  have b1 : Bl w w1 := ((Below.refl _ _).alloc (Nat.le_refl _) _).grown hg (by simp) (by intro j hj; injection hj with hj; change w.heap.size = j at hj; omega)
  have t0 : Tl w A1 L w1 := ⟨b1, Lies.of_own ho' (by intro h; exact List.eq_nil_of_length_eq_zero (by rw [HN5.out, h])), b1.sig HS.out⟩
  clear ho ho' hg b1
  go_wp2_with (first
    | (go_at_call 12; (with_reducible refine (HO.out _ _ _ t0).mono ?_); rintro e x1 ⟨rfl, hb⟩; have t1 := t0.step hb; clear hb t0)
    | (go_at_call 19; (with_reducible refine (RO.out _ _ t1).mono ?_); rintro e x2 ⟨rfl, hb⟩; have t2 := t1.step hb; clear hb t1)
    | (go_at_call 16; (with_reducible refine (HA.out _ _ _ t2).mono ?_); rintro e x3 ⟨a3, rfl, hl, hb⟩; have t3 := t2.step hb; have L3 := Lib.hid hl; clear hl; clear hb t2)
    | (go_at_call 20; (with_reducible refine (RA.out _ _ t3).mono ?_); rintro e x4 ⟨a4, c4, rfl, hl, hb⟩; have t4 := t3.step hb; have L4 := Lib.hid hl; have L34 := Lib.hid (L3.out.below hb); clear hl L3; clear hb t3)
    | (go_at_call 14; (with_reducible refine (HN.out _ _ _ t4).mono ?_); rintro e x5 ⟨rfl, hb⟩; have t5 := t4.step hb; have L34 := Lib.hid (L34.out.below hb); have L4 := Lib.hid (L4.out.below hb); clear hb t4)
    | (go_at_call 21; (with_reducible refine (RN.out _ _ t5).mono ?_); rintro e x6 ⟨rfl, hb⟩; have t6 := t5.step hb; have L34 := Lib.hid (L34.out.below hb); have L4 := Lib.hid (L4.out.below hb); clear hb t5)
    | (go_at_call 15; (with_reducible refine (HT.out _ _ _ t6).mono ?_); rintro e x7 ⟨rfl, hb⟩; have t7 := t6.step hb; have L34 := Lib.hid (L34.out.below hb); have L4 := Lib.hid (L4.out.below hb); clear hb t6)
    | (go_at_call 21; (with_reducible refine (RT.out _ _ t7).mono ?_); rintro e x8 ⟨rfl, hb⟩; have t8 := t7.step hb; have L34 := Lib.hid (L34.out.below hb); have L4 := Lib.hid (L4.out.below hb); clear hb t7)
    | (go_at_call 22; (with_reducible refine (HSM.out _ _ _ _ _ L34.out L4.out).mono ?_); rintro e x9 ⟨rfl, hb⟩; have t9 := t8.step hb; clear hb t8)
    | (go_at_call 23; (with_reducible refine (HE.out _ _ _ t9).mono ?_); rintro e x10 ⟨rfl, hb⟩; have t10 := t9.step hb; clear hb t9))
  go_ret
  exact ⟨rfl, t10.1⟩
set_option maxHeartbeats 4000000 in
theorem tells_ok_false (ad : Addr) (n c : Nat) (L : List Nd) (t : Bool) (a v na ne ta te : Int) (w : World) (hs : SigT w) (hn : L.length = n) (h7 : n ≤ 70) (ht : Lies w (some ad) (ndCells L)) (ho : ofF L = (t, a, v)) (htt : t = false) (hwn : wantF L false = (na, ne)) (hwt : wantF L true = (ta, te)) (h60 : n ≤ 60) (hv0 : v = 0) (hkk : ∀ x ∈ L, 1 ≤ x.k ∧ x.k ≤ 19) :
    Calls Tryd.prog 4 #[.slice (some ad) n c] w fun e w' => e = .returned (.bool true) ∧ Below w.heap.size w w' := by
  subst htt
  subst hv0
  have HG := Lib.hid (great_any (some ad) n c w false (decide_eq_false (by omega)))
  have HO := Lib.hid (fun A1 c1 W (h : Tl w A1 L W) => of_any A1 c1 n L W h.2.2 hn (by unfold maxLen; omega) h.2.1 _ a 0 ho)
  have RO := Lib.hid (fun A1 W (h : Tl w A1 L W) => rof_any (some ad) c n L W hn (by unfold maxLen; omega) (h.1.lies ht) _ a 0 ho)
  have HA := Lib.hid (fun A1 c1 W (h : Tl w A1 L W) => all_ok A1 c1 n L W h.2.2 hn h60 h.2.1 _ a ho hkk)
  have RA := Lib.hid (fun A1 W (h : Tl w A1 L W) => rall_ok (some ad) c n L W hn h60 (h.1.lies ht) _ a ho)
  have HN := Lib.hid (fun A1 c1 W (h : Tl w A1 L W) => any_Number A1 c1 n L W h.2.2 hn (by unfold maxLen; omega) h.2.1 na ne hwn)
  have RN := Lib.hid (fun A1 W (h : Tl w A1 L W) => rwant_any (some ad) c n L W hn (by unfold maxLen; omega) (h.1.lies ht) false na ne hwn)
  have HT := Lib.hid (fun A1 c1 W (h : Tl w A1 L W) => any_Truth A1 c1 n L W h.2.2 hn (by unfold maxLen; omega) h.2.1 ta te hwt)
  have RT := Lib.hid (fun A1 W (h : Tl w A1 L W) => rwant_any (some ad) c n L W hn (by unfold maxLen; omega) (h.1.lies ht) true ta te hwt)
  have HE := Lib.hid (fun A1 c1 W (h : Tl w A1 L W) => requal_any A1 (some ad) n n c1 c L L W hn hn (by omega) (by omega) h.2.1 (h.1.lies ht) true (by simp))
  have HSM := Lib.hid (fun A2 A3 c2 c3 W (h2 : Lies W A2 (bCells (truF L))) (h3 : Lies W A3 (bCells (truF L))) => same_eq A2 A3 n c2 c3 (truF L) W (by unfold truF; rw [List.length_map, hn]) (by omega) h2 h3)
  have HS := Lib.hid hs
  have HTT := Lib.hid ht
  have HN5 := Lib.hid (show (ndCells L).length = n * 5 by rw [ndCells_length, hn])
  obtain ⟨i0, hi, hz0, hz1, hz2⟩ := info_parts nd_info
  clear hn ht ho hwn hwt hs hkk
  go_enter Tryd.func4, Tryd.ntmps4
  go_wp2_with (first
    | (go_at_call 18; refine HG.out.mono ?_; rintro e w0 ⟨rfl, rfl⟩)
    | (at_builtin; refine wpList_append_own_at _ rfl (.tmp 24) (.tmp 25) 22 rfl w.heap.size 29 i0 _ 5 40 Tryd.underlying22 hi hz0 hz1 hz2 rfl (by decide) (.slice (some ⟨w.heap.size, 0, none⟩) 0 0) 0 [] rfl (World.ownsRow_lit (base := w.heap.size) (e := 29) (size := 5) w #[] 0 (Nat.le_refl _) (Nat.zero_le _) rfl) ad n c (ndCells L) rfl ?c1 ?c2 ?c3 ?c4 ?c5 ?c6 ?_))
  case c1 => exact HN5.out
  case c2 => exact (HTT.out.alloc _).cells
  case c3 => exact nd_one _
  case c4 => unfold maxLen; omega
  case c5 => omega
  case c6 => simp
  intro v1 w1 ho hg _ _
  have ho' : w1.ownsRow w.heap.size 29 5 v1 n (ndCells L) := by simpa using ho
  obtain ⟨A1, c1, rfl, hc1, _⟩ := own_form ho'
  have b1 : Bl w w1 := ((Below.refl _ _).alloc (Nat.le_refl _) _).grown hg (by simp) (by intro j hj; injection hj with hj; change w.heap.size = j at hj; omega)
  have t0 : Tl w A1 L w1 := ⟨b1, Lies.of_own ho' (by intro h; exact List.eq_nil_of_length_eq_zero (by rw [HN5.out, h])), b1.sig HS.out⟩
  clear ho ho' hg b1
  go_wp2_with (first
    | (go_at_call 12; (with_reducible refine (HO.out _ _ _ t0).mono ?_); rintro e x1 ⟨rfl, hb⟩; have t1 := t0.step hb; clear hb t0)
    | (go_at_call 19; (with_reducible refine (RO.out _ _ t1).mono ?_); rintro e x2 ⟨rfl, hb⟩; have t2 := t1.step hb; clear hb t1)
    | (go_at_call 16; (with_reducible refine (HA.out _ _ _ t2).mono ?_); rintro e x3 ⟨a3, rfl, hl, hb⟩; have t3 := t2.step hb; have L3 := Lib.hid hl; clear hl; clear hb t2)
    | (go_at_call 20; (with_reducible refine (RA.out _ _ t3).mono ?_); rintro e x4 ⟨a4, c4, rfl, hl, hb⟩; have t4 := t3.step hb; have L4 := Lib.hid hl; have L34 := Lib.hid (L3.out.below hb); clear hl L3; clear hb t3)
    | (go_at_call 14; (with_reducible refine (HN.out _ _ _ t4).mono ?_); rintro e x5 ⟨rfl, hb⟩; have t5 := t4.step hb; have L34 := Lib.hid (L34.out.below hb); have L4 := Lib.hid (L4.out.below hb); clear hb t4)
    | (go_at_call 21; (with_reducible refine (RN.out _ _ t5).mono ?_); rintro e x6 ⟨rfl, hb⟩; have t6 := t5.step hb; have L34 := Lib.hid (L34.out.below hb); have L4 := Lib.hid (L4.out.below hb); clear hb t5)
    | (go_at_call 15; (with_reducible refine (HT.out _ _ _ t6).mono ?_); rintro e x7 ⟨rfl, hb⟩; have t7 := t6.step hb; have L34 := Lib.hid (L34.out.below hb); have L4 := Lib.hid (L4.out.below hb); clear hb t6)
    | (go_at_call 21; (with_reducible refine (RT.out _ _ t7).mono ?_); rintro e x8 ⟨rfl, hb⟩; have t8 := t7.step hb; have L34 := Lib.hid (L34.out.below hb); have L4 := Lib.hid (L4.out.below hb); clear hb t7)
    | (go_at_call 22; (with_reducible refine (HSM.out _ _ _ _ _ L34.out L4.out).mono ?_); rintro e x9 ⟨rfl, hb⟩; have t9 := t8.step hb; clear hb t8)
    | (go_at_call 23; (with_reducible refine (HE.out _ _ _ t9).mono ?_); rintro e x10 ⟨rfl, hb⟩; have t10 := t9.step hb; clear hb t9))
  go_ret
  exact ⟨rfl, t10.1⟩
theorem KindsTells_walk (A : Option Addr) (c : Nat) (L : List Nd) (w : World) (hL : L.length ≤ maxLen) (ht : Lies w A (ndCells L)) (hnc : L.length ≤ c) (hA : (A = none ∧ c = 0 ∧ L = []) ∨ ∃ ad, A = some ad) (hs : SigT w) :
    Calls Tryd.prog 4 #[.slice A L.length c] w fun e w' => e = .returned (.bool true) ∧ Below w.heap.size w w' := by
  by_cases h7 : 70 < L.length
  · exact tells_great A _ c w h7
  obtain ⟨⟨na, ne⟩, hwn⟩ : ∃ r, wantF L false = r := ⟨_, rfl⟩
  obtain ⟨⟨ta, te⟩, hwt⟩ : ∃ r, wantF L true = r := ⟨_, rfl⟩
  rcases hA with ⟨rfl, rfl, rfl⟩ | ⟨ad, rfl⟩
  · exact tells_nil 0 _ 0 [] false 0 8 na ne ta te w hs rfl (by omega) ht (of_bad checkF_nil (by decide)) rfl hwn hwt rfl rfl (by decide)
  rcases of_cases L with ⟨v, h1, h2, h3⟩ | ⟨k, x, h1, h2, h3, h4, h5, h6⟩ | ⟨m, x, h1, h2, h3, hx, h5⟩
  · exact tells_bad ad _ c L _ _ v na ne ta te w hs rfl (by omega) ht h3 rfl hwn hwt h2
  · exact tells_bad ad _ c L _ _ 42 na ne ta te w hs rfl (by omega) ht h6 rfl hwn hwt (by decide)
  · obtain ⟨E, hg⟩ := checkF_zero h1
    have hkk : ∀ x ∈ L, 1 ≤ x.k ∧ x.k ≤ 19 := by
      intro x hx
      obtain ⟨j, hj⟩ := List.mem_iff_getElem?.1 hx
      obtain ⟨h1, h2, _⟩ := node_parts hg.ext hj
      exact ⟨h1, h2⟩
    cases hgx : gvK x.k
    · rw [hgx] at h5
      exact tells_ok_false ad _ c L _ _ _ na ne ta te w hs rfl (by omega) ht h5 rfl hwn hwt hg.2.1 rfl hkk
    · rw [hgx] at h5
      exact tells_ok_true ad _ c L _ _ _ na ne ta te w hs rfl (by omega) ht h5 rfl hwn hwt hg.2.1 rfl hkk
end Go.Proofs.YtfnkofcgjbakeaaDoor.K6
