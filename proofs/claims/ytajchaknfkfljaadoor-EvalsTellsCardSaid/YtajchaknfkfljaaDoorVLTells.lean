/- EvalsTells walks to true. -/
import Derived.Test.YtajchaknfkfljaaDoorVLaw
namespace Go.Proofs.YtajchaknfkfljaaDoor.V7
open Go.ChangeShapes Go.WideShapes Go.ChangeAt Go.RowKit N4 K6
set_option linter.unusedVariables false
set_option linter.unusedSimpArgs false
set_option maxRecDepth 100000

theorem own_lit0 (W : World) (B : Nat) (hB : W.heap.size = B) : (W.alloc (.cells #[] 31)).ownsRow B 31 5 (.slice (some ⟨B, 0, none⟩) 0 0) 0 [] := by
  subst hB
  exact World.ownsRow_lit (base := W.heap.size) (e := 31) (size := 5) W #[] 0 (Nat.le_refl _) (Nat.zero_le _) rfl
/-- What the law keeps from call to call. -/
def TlV (w : World) (r : Rc) (A1 : Option Addr) (L : List Nd) (W : World) : Prop := RB w w.heap.size r W ∧ Lies W A1 (ndCells L) ∧ SigT W
theorem TlV.step {w W W' : World} {r : Rc} {A1 : Option Addr} {L : List Nd} (h : TlV w r A1 L W) (hb : Below W.heap.size W W') : TlV w r A1 L W' := ⟨h.1.step hb, h.2.1.below hb, h.2.2.stays hb⟩
theorem telv_great (A : Option Addr) (n c : Nat) (rk rt rv : Int) (w : World) (h : 70 < n) :
    Calls Tryd.prog 4 #[.slice A n c, .agg #[.int .i64 rk, .int .i64 rt, .int .i64 rv]] w fun e w' => e = .returned (.bool true) ∧ Below w.heap.size w w' := by
  have HG := Lib.hid (fun W => great_any A n c W true (decide_eq_true h))
  have b0 := fun t => RB.start w rk rt rv t
  clear h
  go_enter Tryd.func4, Tryd.ntmps4
  go_wp2_with (go_at_call 18; refine (HG.out _).mono ?_; rintro e w1 ⟨rfl, rfl⟩)
  go_ret
  exact ⟨rfl, (b0 _).bl⟩
set_option maxHeartbeats 4000000 in
theorem telv_nil (xA : Nat) (n c : Nat) (L : List Nd) (rk rt rv v : Int) (w : World) (hs : SigT w) (hn : L.length = n) (h7 : n ≤ 70) (ht : Lies w none (ndCells L)) (hn0 : n = 0) (hc0 : c = 0) (he : errF L = v) (h0 : v ≠ 0) :
    Calls Tryd.prog 4 #[.slice none n c, .agg #[.int .i64 rk, .int .i64 rt, .int .i64 rv]] w fun e w' => e = .returned (.bool true) ∧ Below w.heap.size w w' := by
  have HG := Lib.hid (fun W => great_any none n c W false (decide_eq_false (by omega)))
  have HO := Lib.hid (fun A1 c1 W (h : TlV w ⟨rk, rt, rv⟩ A1 L W) => ofv_bad A1 c1 n L ⟨rk, rt, rv⟩ W h.2.2 hn (by unfold maxLen; omega) h.2.1 v he h0)
  have RO := Lib.hid (fun A1 W (h : TlV w ⟨rk, rt, rv⟩ A1 L W) => rofv_bad none c n L ⟨rk, rt, rv⟩ W hn (by unfold maxLen; omega) (h.1.bl.lies ht) v he h0)
  have HA := Lib.hid (fun A1 c1 W (h : TlV w ⟨rk, rt, rv⟩ A1 L W) => allv_bad A1 c1 n L ⟨rk, rt, rv⟩ W h.2.2 hn (by unfold maxLen; omega) h.2.1 v he h0)
  have RA := Lib.hid (fun A1 W (h : TlV w ⟨rk, rt, rv⟩ A1 L W) => rallv_bad none c n L ⟨rk, rt, rv⟩ W hn (by unfold maxLen; omega) (h.1.bl.lies ht) v he h0)
  have HU := Lib.hid (fun A1 c1 W (h : TlV w ⟨rk, rt, rv⟩ A1 L W) => uses_bad A1 c1 n L W h.2.2 hn (by unfold maxLen; omega) h.2.1 v he h0)
  have RU := Lib.hid (fun A1 W (h : TlV w ⟨rk, rt, rv⟩ A1 L W) => ruses_bad none c n L W hn (by unfold maxLen; omega) (h.1.bl.lies ht) v he h0)
  have HE := Lib.hid (fun A1 c1 W (h : TlV w ⟨rk, rt, rv⟩ A1 L W) => requal_any A1 none n n c1 c L L W hn hn (by omega) (by omega) h.2.1 (h.1.bl.lies ht) true (by simp))
  have HSM := Lib.hid (fun W => rsame_same none none 0 0 0 [] W rfl (by decide) (.inl rfl) (.inl rfl))
  have HS := Lib.hid hs
  have b0 := fun t => RB.start w rk rt rv t
  obtain ⟨i0, hi0, _⟩ := info_parts nd_info
  have HLN := Lib.hid (show L = [] from List.eq_nil_of_length_eq_zero (by omega))
  subst hn0 hc0
  clear hn ht hs he h0
  go_enter Tryd.func4, Tryd.ntmps4
  go_wp2_with (first
    | (go_at_call 18; refine (HG.out _).mono ?_; rintro e w0 ⟨rfl, rfl⟩)
    | (at_builtin; refine wpList_append_own_none rfl (.tmp 24) (.tmp 25) 32 rfl (w.heap.size + 1) 31 i0 5 Tryd.underlying32 hi0 (.slice (some ⟨w.heap.size + 1, 0, none⟩) 0 0) 0 [] rfl (own_lit0 (w.alloc (.cells #[.int .i64 rk, .int .i64 rt, .int .i64 rv] 26)) _ (by simp)) rfl ?_))
  have t0 : TlV w ⟨rk, rt, rv⟩ (some ⟨w.heap.size + 1, 0, none⟩) L ((w.alloc (.cells #[.int .i64 rk, .int .i64 rt, .int .i64 rv] 26)).alloc (.cells #[] 31)) := ⟨(b0 _).al _, .inl (by rw [HLN.out]; rfl), ((b0 _).al _).bl.sig HS.out⟩
  obtain ⟨u0, u1, u2⟩ := t0.1.cells
  go_wp2_with (first
    | (go_at_call 9; (refine (HO.out _ _ _ t0).mono ?_); rintro e x1 ⟨rfl, hb⟩; have t1 := t0.step hb; clear u0 u1 u2; obtain ⟨u0, u1, u2⟩ := t1.1.cells; clear hb t0)
    | (go_at_call 19; (refine (RO.out _ _ t1).mono ?_); rintro e x2 ⟨rfl, hb⟩; have t2 := t1.step hb; clear u0 u1 u2; obtain ⟨u0, u1, u2⟩ := t2.1.cells; clear hb t1)
    | (go_at_call 10; (refine (HA.out _ _ _ t2).mono ?_); rintro e x3 ⟨rfl, hb⟩; have t3 := t2.step hb; clear u0 u1 u2; obtain ⟨u0, u1, u2⟩ := t3.1.cells; clear hb t2)
    | (go_at_call 20; (refine (RA.out _ _ t3).mono ?_); rintro e x4 ⟨rfl, hb⟩; have t4 := t3.step hb; clear u0 u1 u2; obtain ⟨u0, u1, u2⟩ := t4.1.cells; clear hb t3)
    | (go_at_call 11; (refine (HU.out _ _ _ t4).mono ?_); rintro e x5 ⟨rfl, hb⟩; have t5 := t4.step hb; clear u0 u1 u2; obtain ⟨u0, u1, u2⟩ := t5.1.cells; clear hb t4)
    | (go_at_call 21; (refine (RU.out _ _ t5).mono ?_); rintro e x6 ⟨rfl, hb⟩; have t6 := t5.step hb; clear u0 u1 u2; obtain ⟨u0, u1, u2⟩ := t6.1.cells; clear hb t5)
    | (go_at_call 16; (with_reducible refine (HSM.out _).mono ?_); rintro e x7 ⟨rfl, hb⟩; have t7 := t6.step hb; clear hb t6)
    | (go_at_call 22; (refine (HE.out _ _ _ t7).mono ?_); rintro e x8 ⟨rfl, hb⟩; have t8 := t7.step hb; clear hb t7))
  go_ret
  exact ⟨rfl, t8.1.bl⟩
set_option maxHeartbeats 4000000 in
theorem telv_bad (ad : Addr) (n c : Nat) (L : List Nd) (rk rt rv v : Int) (w : World) (hs : SigT w) (hn : L.length = n) (h7 : n ≤ 70) (ht : Lies w (some ad) (ndCells L)) (he : errF L = v) (h0 : v ≠ 0) :
    Calls Tryd.prog 4 #[.slice (some ad) n c, .agg #[.int .i64 rk, .int .i64 rt, .int .i64 rv]] w fun e w' => e = .returned (.bool true) ∧ Below w.heap.size w w' := by
  have HG := Lib.hid (fun W => great_any (some ad) n c W false (decide_eq_false (by omega)))
  have HO := Lib.hid (fun A1 c1 W (h : TlV w ⟨rk, rt, rv⟩ A1 L W) => ofv_bad A1 c1 n L ⟨rk, rt, rv⟩ W h.2.2 hn (by unfold maxLen; omega) h.2.1 v he h0)
  have RO := Lib.hid (fun A1 W (h : TlV w ⟨rk, rt, rv⟩ A1 L W) => rofv_bad (some ad) c n L ⟨rk, rt, rv⟩ W hn (by unfold maxLen; omega) (h.1.bl.lies ht) v he h0)
  have HA := Lib.hid (fun A1 c1 W (h : TlV w ⟨rk, rt, rv⟩ A1 L W) => allv_bad A1 c1 n L ⟨rk, rt, rv⟩ W h.2.2 hn (by unfold maxLen; omega) h.2.1 v he h0)
  have RA := Lib.hid (fun A1 W (h : TlV w ⟨rk, rt, rv⟩ A1 L W) => rallv_bad (some ad) c n L ⟨rk, rt, rv⟩ W hn (by unfold maxLen; omega) (h.1.bl.lies ht) v he h0)
  have HU := Lib.hid (fun A1 c1 W (h : TlV w ⟨rk, rt, rv⟩ A1 L W) => uses_bad A1 c1 n L W h.2.2 hn (by unfold maxLen; omega) h.2.1 v he h0)
  have RU := Lib.hid (fun A1 W (h : TlV w ⟨rk, rt, rv⟩ A1 L W) => ruses_bad (some ad) c n L W hn (by unfold maxLen; omega) (h.1.bl.lies ht) v he h0)
  have HE := Lib.hid (fun A1 c1 W (h : TlV w ⟨rk, rt, rv⟩ A1 L W) => requal_any A1 (some ad) n n c1 c L L W hn hn (by omega) (by omega) h.2.1 (h.1.bl.lies ht) true (by simp))
  have HSM := Lib.hid (fun W => rsame_same none none 0 0 0 [] W rfl (by decide) (.inl rfl) (.inl rfl))
  have HS := Lib.hid hs
  have b0 := fun t => RB.start w rk rt rv t
  have HTT := Lib.hid ht
  have HN5 := Lib.hid (show (ndCells L).length = n * 5 by rw [ndCells_length, hn])
  obtain ⟨i0, hi, hz0, hz1, hz2⟩ := info_parts nd_info
  clear hn ht hs he h0
  go_enter Tryd.func4, Tryd.ntmps4
  go_wp2_with (first
    | (go_at_call 18; refine (HG.out _).mono ?_; rintro e w0 ⟨rfl, rfl⟩)
    | (at_builtin; refine wpList_append_own_at _ rfl (.tmp 24) (.tmp 25) 32 rfl (w.heap.size + 1) 31 i0 _ 5 40 Tryd.underlying32 hi hz0 hz1 hz2 rfl (by decide) (.slice (some ⟨w.heap.size + 1, 0, none⟩) 0 0) 0 [] rfl (own_lit0 (w.alloc (.cells #[.int .i64 rk, .int .i64 rt, .int .i64 rv] 26)) _ (by simp)) ad n c (ndCells L) rfl ?c1 ?c2 ?c3 ?c4 ?c5 ?c6 ?_))
  case c1 => exact HN5.out
  case c2 => exact ((HTT.out.alloc _).alloc _).cells
  case c3 => exact nd_one _
  case c4 => unfold maxLen; omega
  case c5 => omega
  case c6 => simp
  intro v1 w1 ho hg _ _
  have ho' : w1.ownsRow (w.heap.size + 1) 31 5 v1 n (ndCells L) := by simpa using ho
  obtain ⟨A1, c1, rfl, hc1, _⟩ := own_form ho'
  have b1 : RB w w.heap.size ⟨rk, rt, rv⟩ w1 := (b0 26).step (((Below.refl _ _).alloc (Nat.le_refl _) _).grown hg (by simp) (by intro j hj; injection hj with hj; change w.heap.size + 1 = j at hj; simp; omega))
  have t0 : TlV w ⟨rk, rt, rv⟩ A1 L w1 := ⟨b1, Lies.of_own ho' (by intro h; exact List.eq_nil_of_length_eq_zero (by rw [HN5.out, h])), b1.bl.sig HS.out⟩
  clear ho ho' hg b1
  obtain ⟨u0, u1, u2⟩ := t0.1.cells
  go_wp2_with (first
    | (go_at_call 9; (refine (HO.out _ _ _ t0).mono ?_); rintro e x1 ⟨rfl, hb⟩; have t1 := t0.step hb; clear u0 u1 u2; obtain ⟨u0, u1, u2⟩ := t1.1.cells; clear hb t0)
    | (go_at_call 19; (refine (RO.out _ _ t1).mono ?_); rintro e x2 ⟨rfl, hb⟩; have t2 := t1.step hb; clear u0 u1 u2; obtain ⟨u0, u1, u2⟩ := t2.1.cells; clear hb t1)
    | (go_at_call 10; (refine (HA.out _ _ _ t2).mono ?_); rintro e x3 ⟨rfl, hb⟩; have t3 := t2.step hb; clear u0 u1 u2; obtain ⟨u0, u1, u2⟩ := t3.1.cells; clear hb t2)
    | (go_at_call 20; (refine (RA.out _ _ t3).mono ?_); rintro e x4 ⟨rfl, hb⟩; have t4 := t3.step hb; clear u0 u1 u2; obtain ⟨u0, u1, u2⟩ := t4.1.cells; clear hb t3)
    | (go_at_call 11; (refine (HU.out _ _ _ t4).mono ?_); rintro e x5 ⟨rfl, hb⟩; have t5 := t4.step hb; clear u0 u1 u2; obtain ⟨u0, u1, u2⟩ := t5.1.cells; clear hb t4)
    | (go_at_call 21; (refine (RU.out _ _ t5).mono ?_); rintro e x6 ⟨rfl, hb⟩; have t6 := t5.step hb; clear u0 u1 u2; obtain ⟨u0, u1, u2⟩ := t6.1.cells; clear hb t5)
    | (go_at_call 16; (with_reducible refine (HSM.out _).mono ?_); rintro e x7 ⟨rfl, hb⟩; have t7 := t6.step hb; clear hb t6)
    | (go_at_call 22; (refine (HE.out _ _ _ t7).mono ?_); rintro e x8 ⟨rfl, hb⟩; have t8 := t7.step hb; clear hb t7))
  go_ret
  exact ⟨rfl, t8.1.bl⟩
set_option maxHeartbeats 4000000 in
theorem telv_ok (ad : Addr) (m c : Nat) (L : List Nd) (E : List Ex) (rk rt rv v : Int) (w : World) (hs : SigT w) (hn : L.length = (m + 1)) (h7 : (m + 1) ≤ 70) (ht : Lies w (some ad) (ndCells L)) (hg : Good4 L E) (he : errF L = 0) (hv : lastV ⟨rk, rt, rv⟩ L = v) (hr : RcIn ⟨rk, rt, rv⟩) (hNI : NIn L) (b2 b3 b4 : Bool) (h2 : usesF L 2 = b2) (h3 : usesF L 3 = b3) (h4 : usesF L 4 = b4) :
    Calls Tryd.prog 4 #[.slice (some ad) (m + 1) c, .agg #[.int .i64 rk, .int .i64 rt, .int .i64 rv]] w fun e w' => e = .returned (.bool true) ∧ Below w.heap.size w w' := by
  have h60 : m + 1 ≤ 60 := by rw [← hn]; exact hg.2.1
  have HG := Lib.hid (fun W => great_any (some ad) (m + 1) c W false (decide_eq_false (by omega)))
  have HO := Lib.hid (fun A1 c1 W (h : TlV w ⟨rk, rt, rv⟩ A1 L W) => ofv_ok A1 c1 m L E ⟨rk, rt, rv⟩ W h.2.2 hn h.2.1 hg he v hv)
  have RO := Lib.hid (fun A1 W (h : TlV w ⟨rk, rt, rv⟩ A1 L W) => rofv_ok (some ad) c m L E ⟨rk, rt, rv⟩ W hr hNI hn (h.1.bl.lies ht) hg he v hv)
  have HA := Lib.hid (fun A1 c1 W (h : TlV w ⟨rk, rt, rv⟩ A1 L W) => allv_ok A1 c1 (m + 1) L E ⟨rk, rt, rv⟩ W h.2.2 hn h.2.1 hg he)
  have RA := Lib.hid (fun A1 W (h : TlV w ⟨rk, rt, rv⟩ A1 L W) => rallv_ok (some ad) c (m + 1) L E ⟨rk, rt, rv⟩ W hr hNI hn (h.1.bl.lies ht) hg he)
  have HU := Lib.hid (fun A1 c1 W (h : TlV w ⟨rk, rt, rv⟩ A1 L W) => uses_ok A1 c1 (m + 1) L W h.2.2 hn (by unfold maxLen; omega) h.2.1 he b2 b3 b4 h2 h3 h4)
  have RU := Lib.hid (fun A1 W (h : TlV w ⟨rk, rt, rv⟩ A1 L W) => ruses_ok (some ad) c (m + 1) L W hn (by unfold maxLen; omega) (h.1.bl.lies ht) he b2 b3 b4 h2 h3 h4)
  have HE := Lib.hid (fun A1 c1 W (h : TlV w ⟨rk, rt, rv⟩ A1 L W) => requal_any A1 (some ad) (m + 1) (m + 1) c1 c L L W hn hn (by omega) (by omega) h.2.1 (h.1.bl.lies ht) true (by simp))
  have HSM := Lib.hid (fun A2 A3 c2 c3 W (h2 : Lies W A2 (iCells (valsF ⟨rk, rt, rv⟩ L))) (h3 : Lies W A3 (iCells (valsF ⟨rk, rt, rv⟩ L))) => rsame_same A2 A3 (m + 1) c2 c3 (valsF ⟨rk, rt, rv⟩ L) W (by rw [vals_length, hn]) (by omega) h2 h3)
  have HS := Lib.hid hs
  have b0 := fun t => RB.start w rk rt rv t
  have HTT := Lib.hid ht
  have HN5 := Lib.hid (show (ndCells L).length = (m + 1) * 5 by rw [ndCells_length, hn])
  obtain ⟨i0, hi, hz0, hz1, hz2⟩ := info_parts nd_info
  clear hn ht hs he hg hv hr hNI h2 h3 h4
  go_enter Tryd.func4, Tryd.ntmps4
  go_wp2_with (first
    | (go_at_call 18; refine (HG.out _).mono ?_; rintro e w0 ⟨rfl, rfl⟩)
    | (at_builtin; refine wpList_append_own_at _ rfl (.tmp 24) (.tmp 25) 32 rfl (w.heap.size + 1) 31 i0 _ 5 40 Tryd.underlying32 hi hz0 hz1 hz2 rfl (by decide) (.slice (some ⟨w.heap.size + 1, 0, none⟩) 0 0) 0 [] rfl (own_lit0 (w.alloc (.cells #[.int .i64 rk, .int .i64 rt, .int .i64 rv] 26)) _ (by simp)) ad (m + 1) c (ndCells L) rfl ?c1 ?c2 ?c3 ?c4 ?c5 ?c6 ?_))
  case c1 => exact HN5.out
  case c2 => exact ((HTT.out.alloc _).alloc _).cells
  case c3 => exact nd_one _
  case c4 => unfold maxLen; omega
  case c5 => omega
  case c6 => simp
  intro v1 w1 ho hg _ _
  have ho' : w1.ownsRow (w.heap.size + 1) 31 5 v1 (m + 1) (ndCells L) := by simpa using ho
  obtain ⟨A1, c1, rfl, hc1, _⟩ := own_form ho'
  have b1 : RB w w.heap.size ⟨rk, rt, rv⟩ w1 := (b0 26).step (((Below.refl _ _).alloc (Nat.le_refl _) _).grown hg (by simp) (by intro j hj; injection hj with hj; change w.heap.size + 1 = j at hj; simp; omega))
  have t0 : TlV w ⟨rk, rt, rv⟩ A1 L w1 := ⟨b1, Lies.of_own ho' (by intro h; exact List.eq_nil_of_length_eq_zero (by rw [HN5.out, h])), b1.bl.sig HS.out⟩
  clear ho ho' hg b1
  obtain ⟨u0, u1, u2⟩ := t0.1.cells
  go_wp2_with (first
    | (go_at_call 9; (refine (HO.out _ _ _ t0).mono ?_); rintro e x1 ⟨rfl, hb⟩; have t1 := t0.step hb; clear u0 u1 u2; obtain ⟨u0, u1, u2⟩ := t1.1.cells; clear hb t0)
    | (go_at_call 19; (refine (RO.out _ _ t1).mono ?_); rintro e x2 ⟨rfl, hb⟩; have t2 := t1.step hb; clear u0 u1 u2; obtain ⟨u0, u1, u2⟩ := t2.1.cells; clear hb t1)
    | (go_at_call 10; (refine (HA.out _ _ _ t2).mono ?_); rintro e x3 ⟨a3, rfl, hl, hb⟩; have t3 := t2.step hb; clear u0 u1 u2; obtain ⟨u0, u1, u2⟩ := t3.1.cells; have L3 := Lib.hid hl; clear hl; clear hb t2)
    | (go_at_call 20; (refine (RA.out _ _ t3).mono ?_); rintro e x4 ⟨a4, c4, rfl, hl, hb⟩; have t4 := t3.step hb; clear u0 u1 u2; obtain ⟨u0, u1, u2⟩ := t4.1.cells; have L4 := Lib.hid hl; have L34 := Lib.hid (L3.out.below hb); clear hl L3; clear hb t3)
    | (go_at_call 11; (refine (HU.out _ _ _ t4).mono ?_); rintro e x5 ⟨rfl, hb⟩; have t5 := t4.step hb; clear u0 u1 u2; obtain ⟨u0, u1, u2⟩ := t5.1.cells; have L34 := Lib.hid (L34.out.below hb); have L4 := Lib.hid (L4.out.below hb); clear hb t4)
    | (go_at_call 21; (refine (RU.out _ _ t5).mono ?_); rintro e x6 ⟨rfl, hb⟩; have t6 := t5.step hb; clear u0 u1 u2; obtain ⟨u0, u1, u2⟩ := t6.1.cells; have L34 := Lib.hid (L34.out.below hb); have L4 := Lib.hid (L4.out.below hb); clear hb t5)
    | (go_at_call 16; (with_reducible refine (HSM.out _ _ _ _ _ L34.out L4.out).mono ?_); rintro e x7 ⟨rfl, hb⟩; have t7 := t6.step hb; clear hb t6)
    | (go_at_call 22; (refine (HE.out _ _ _ t7).mono ?_); rintro e x8 ⟨rfl, hb⟩; have t8 := t7.step hb; clear hb t7))
  go_ret
  exact ⟨rfl, t8.1.bl⟩
theorem EvalsTells_walk (A : Option Addr) (c : Nat) (L : List Nd) (rk rt rv : Int) (w : World) (hL : L.length ≤ maxLen) (ht : Lies w A (ndCells L)) (hnc : L.length ≤ c) (hA : (A = none ∧ c = 0 ∧ L = []) ∨ ∃ ad, A = some ad) (hbb : ∀ x ∈ L, x.n ≤ 9223372036854775807) (hr : RcIn ⟨rk, rt, rv⟩) (hs : SigT w) :
    Calls Tryd.prog 4 #[.slice A L.length c, .agg #[.int .i64 rk, .int .i64 rt, .int .i64 rv]] w fun e w' => e = .returned (.bool true) ∧ Below w.heap.size w w' := by
  by_cases h7 : 70 < L.length
  · exact telv_great A _ c rk rt rv w h7
  rcases hA with ⟨rfl, rfl, rfl⟩ | ⟨ad, rfl⟩
  · exact telv_nil 0 _ 0 [] rk rt rv 8 w hs rfl (by omega) ht rfl rfl (by unfold errF; rw [of_bad checkF_nil (by decide)]) (by decide)
  rcases err_cases L with ⟨t, a, v, h1, h2, h3⟩ | ⟨t, m, E, h1, h2, hg, hn, _⟩
  · exact telv_bad ad _ c L rk rt rv v w hs rfl (by omega) ht h2 h3
  · rw [hn]
    exact telv_ok ad m c L E rk rt rv _ w hs hn (by omega) ht hg h2 rfl hr (nin_of hg.ext hbb) _ _ _ rfl rfl rfl
end Go.Proofs.YtajchaknfkfljaaDoor.V7
