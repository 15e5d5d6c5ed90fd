/- EvalsUses walks to true. -/
import Derived.Test.YtajchaknfkfljaaDoorVLaw
namespace Go.Proofs.YtajchaknfkfljaaDoor.V7
open Go.ChangeShapes Go.WideShapes Go.ChangeAt Go.RowKit N4 K6
set_option linter.unusedVariables false
set_option linter.unusedSimpArgs false
set_option maxRecDepth 100000

theorem bl_set {w0 W : World} (h : Bl w0 W) (p : Addr) (v : Value) (hp : w0.heap.size ≤ p.block) : Bl w0 (W.setCell p v) := Below.setCell h hp v
/-- Both boxes. -/
def RB2 (w0 : World) (rk rt rv sk st sv : Int) (W : World) : Prop :=
  RB w0 w0.heap.size ⟨rk, rt, rv⟩ W ∧ RB w0 (w0.heap.size + 1) ⟨sk, st, sv⟩ W ∧ ∀ o, W.frozen? ⟨w0.heap.size + 1, o, none⟩ = false
theorem RB2.start (w : World) (rk rt rv sk st sv : Int) (t t' : TypeId) : RB2 w rk rt rv sk st sv ((w.alloc (.cells #[.int .i64 rk, .int .i64 rt, .int .i64 rv] t)).alloc (.cells #[.int .i64 sk, .int .i64 st, .int .i64 sv] t')) := by
  refine ⟨(RB.start w rk rt rv t).al _, ⟨((Below.refl _ _).alloc (Nat.le_refl _) _).alloc (by simp) _, by omega, by simp, by go_simp, by go_simp, by go_simp⟩, fun o => by go_simp⟩
theorem RB2.step {w0 W W' : World} {rk rt rv sk st sv : Int} (h : RB2 w0 rk rt rv sk st sv W) (hb : Below W.heap.size W W') : RB2 w0 rk rt rv sk st sv W' :=
  ⟨h.1.step hb, h.2.1.step hb, fun o => (hb.frozen (p := ⟨w0.heap.size + 1, o, none⟩) h.2.1.2.2.1).trans (h.2.2 o)⟩
theorem usel_great (A : Option Addr) (n c : Nat) (rk rt rv sk st sv : Int) (w : World) (hs : SigT w) (h : 70 < n) :
    Calls Tryd.prog 7 #[.slice A n c, .agg #[.int .i64 rk, .int .i64 rt, .int .i64 rv], .agg #[.int .i64 sk, .int .i64 st, .int .i64 sv]] w fun e w' => e = .returned (.bool true) ∧ Below w.heap.size w w' := by
  have HG := Lib.hid (fun W => great_any A n c W true (decide_eq_true h))
  have HS := Lib.hid hs
  have b0 := fun t t' => RB2.start w rk rt rv sk st sv t t'
  clear h hs
  go_enter Tryd.func7, Tryd.ntmps7
  go_wp2_with (first
    | (go_at_call 18; refine (HG.out _).mono ?_; rintro e w1 ⟨rfl, rfl⟩)
    | (go_at_call 17; refine (alive_any _ ((b0 _ _).1.bl.sig HS.out)).mono ?_; rintro e w1 ⟨rfl, hb⟩))
  go_ret
  exact ⟨rfl, ((b0 _ _).step hb).1.bl⟩
theorem usel_bad (A : Option Addr) (n c : Nat) (L : List Nd) (rk rt rv sk st sv : Int) (w : World) (hs : SigT w) (hn : L.length = n) (h7 : n ≤ 70) (ht : Lies w A (ndCells L)) (v : Int) (he : errF L = v) (h0 : v ≠ 0) :
    Calls Tryd.prog 7 #[.slice A n c, .agg #[.int .i64 rk, .int .i64 rt, .int .i64 rv], .agg #[.int .i64 sk, .int .i64 st, .int .i64 sv]] w fun e w' => e = .returned (.bool true) ∧ Below w.heap.size w w' := by
  have HG := Lib.hid (fun W => great_any A n c W false (decide_eq_false (by omega)))
  have HA := Lib.hid (fun W (hb : Bl w W) => rofe_any A c n L W hn (by unfold maxLen; omega) (hb.lies ht) v he)
  have hne := (bne_iff_ne (a := v) (b := 0)).2 h0
  have HS := Lib.hid hs
  have b0 := fun t t' => RB2.start w rk rt rv sk st sv t t'
  clear h0 hs hn ht he
  go_enter Tryd.func7, Tryd.ntmps7
  go_wp2_with (first
    | (go_at_call 18; refine (HG.out _).mono ?_; rintro e w1 ⟨rfl, rfl⟩)
    | (go_at_call 23; refine (HA.out _ (b0 _ _).1.bl).mono ?_; rintro e w1 ⟨⟨t, a, rfl⟩, hb⟩; have b1 := (b0 _ _).step hb; clear hb)
    | (go_at_call 17; refine (alive_any _ (b1.1.bl.sig HS.out)).mono ?_; rintro e w2 ⟨rfl, hb⟩))
  go_ret
  exact ⟨rfl, (b1.step hb).1.bl⟩
set_option maxHeartbeats 2000000 in
theorem usel_000 (A : Option Addr) (m c : Nat) (L : List Nd) (E : List Ex) (rk rt rv sk st sv : Int) (w : World) (hs : SigT w) (hn : L.length = m + 1) (ht : Lies w A (ndCells L)) (hg : Good4 L E) (he : errF L = 0) (h2 : usesF L 2 = false) (h3 : usesF L 3 = false) (h4 : usesF L 4 = false) (v : Int) (hv : lastV ⟨rk, rt, rv⟩ L = v) (hv2 : lastV ⟨sk, st, sv⟩ L = v) :
    Calls Tryd.prog 7 #[.slice A (m + 1) c, .agg #[.int .i64 rk, .int .i64 rt, .int .i64 rv], .agg #[.int .i64 sk, .int .i64 st, .int .i64 sv]] w fun e w' => e = .returned (.bool true) ∧ Below w.heap.size w w' := by
  have h60 : m + 1 ≤ 60 := by rw [← hn]; exact hg.2.1
  have HG := Lib.hid (fun W => great_any A (m + 1) c W false (decide_eq_false (by omega)))
  have HA := Lib.hid (fun W (hb : Bl w W) => rofe_any A c (m + 1) L W hn (by unfold maxLen; omega) (hb.lies ht) 0 he)
  have HU := Lib.hid (fun W (hb : Bl w W) => uses_ok A c (m + 1) L W (hb.sig hs) hn (by unfold maxLen; omega) (hb.lies ht) he _ _ _ h2 h3 h4)
  have HO := Lib.hid (fun W (hb : Bl w W) => ofv_ok A c m L E ⟨rk, rt, rv⟩ W (hb.sig hs) hn (hb.lies ht) hg he v hv)
  have HP := Lib.hid (fun W (hb : Bl w W) => ofv_ok A c m L E ⟨sk, st, sv⟩ W (hb.sig hs) hn (hb.lies ht) hg he v hv2)
  have HS := Lib.hid hs
  have b0 := fun t t' => RB2.start w rk rt rv sk st sv t t'
  clear hs hn ht hg he h2 h3 h4 hv hv2
  go_enter Tryd.func7, Tryd.ntmps7
  go_wp2_with (first
    | (go_at_call 18; refine (HG.out _).mono ?_; rintro e w1 ⟨rfl, rfl⟩)
    | (go_at_call 23; refine (HA.out _ (b0 _ _).1.bl).mono ?_; rintro e w1 ⟨⟨t, a, rfl⟩, hb⟩; have b1 := (b0 _ _).step hb; clear hb)
    | (go_at_call 11; refine (HU.out _ b1.1.bl).mono ?_; rintro e w2 ⟨rfl, hb⟩; have b2 := b1.step hb; obtain ⟨r0, r1, r2⟩ := b2.1.cells; obtain ⟨s0, s1, s2⟩ := b2.2.1.cells; have f0 := b2.2.2 0; have f1 := b2.2.2 1; have f2 := b2.2.2 2; have hz := b2.2.1.2.2.1; clear hb b1)
    | (go_at_call 9; (refine (HO.out w2 b2.1.bl).mono ?_); rintro e w3 ⟨rfl, hb⟩; have b3 := Bl.step b2.1.bl hb; have y0 : w3.cell? ⟨w.heap.size + 1, 0, none⟩ = some (.int .i64 sk) := (by rw [hb.cell (p := ⟨w.heap.size + 1, 0, none⟩) (by simpa using hz)]; go_simp); have y1 : w3.cell? ⟨w.heap.size + 1, 1, none⟩ = some (.int .i64 st) := (by rw [hb.cell (p := ⟨w.heap.size + 1, 1, none⟩) (by simpa using hz)]; go_simp); have y2 : w3.cell? ⟨w.heap.size + 1, 2, none⟩ = some (.int .i64 sv) := (by rw [hb.cell (p := ⟨w.heap.size + 1, 2, none⟩) (by simpa using hz)]; go_simp); clear hb r0 r1 r2 s0 s1 s2 f0 f1 f2 b2)
    | (go_at_call 9; (refine (HP.out _ b3).mono ?_); rintro e w4 ⟨rfl, hb⟩; have b4 := b3.step hb; clear hb b3)
    | (go_at_call 17; refine (alive_any _ (b4.sig HS.out)).mono ?_; rintro e w5 ⟨rfl, hb⟩))
  go_ret
  exact ⟨rfl, b4.step hb⟩
set_option maxHeartbeats 2000000 in
theorem usel_001 (A : Option Addr) (m c : Nat) (L : List Nd) (E : List Ex) (rk rt rv sk st sv : Int) (w : World) (hs : SigT w) (hn : L.length = m + 1) (ht : Lies w A (ndCells L)) (hg : Good4 L E) (he : errF L = 0) (h2 : usesF L 2 = false) (h3 : usesF L 3 = false) (h4 : usesF L 4 = true) (v : Int) (hv : lastV ⟨rk, rt, rv⟩ L = v) (hv2 : lastV ⟨sk, st, rv⟩ L = v) :
    Calls Tryd.prog 7 #[.slice A (m + 1) c, .agg #[.int .i64 rk, .int .i64 rt, .int .i64 rv], .agg #[.int .i64 sk, .int .i64 st, .int .i64 sv]] w fun e w' => e = .returned (.bool true) ∧ Below w.heap.size w w' := by
  have h60 : m + 1 ≤ 60 := by rw [← hn]; exact hg.2.1
  have HG := Lib.hid (fun W => great_any A (m + 1) c W false (decide_eq_false (by omega)))
  have HA := Lib.hid (fun W (hb : Bl w W) => rofe_any A c (m + 1) L W hn (by unfold maxLen; omega) (hb.lies ht) 0 he)
  have HU := Lib.hid (fun W (hb : Bl w W) => uses_ok A c (m + 1) L W (hb.sig hs) hn (by unfold maxLen; omega) (hb.lies ht) he _ _ _ h2 h3 h4)
  have HO := Lib.hid (fun W (hb : Bl w W) => ofv_ok A c m L E ⟨rk, rt, rv⟩ W (hb.sig hs) hn (hb.lies ht) hg he v hv)
  have HP := Lib.hid (fun W (hb : Bl w W) => ofv_ok A c m L E ⟨sk, st, rv⟩ W (hb.sig hs) hn (hb.lies ht) hg he v hv2)
  have HS := Lib.hid hs
  have b0 := fun t t' => RB2.start w rk rt rv sk st sv t t'
  clear hs hn ht hg he h2 h3 h4 hv hv2
  go_enter Tryd.func7, Tryd.ntmps7
  go_wp2_with (first
    | (go_at_call 18; refine (HG.out _).mono ?_; rintro e w1 ⟨rfl, rfl⟩)
    | (go_at_call 23; refine (HA.out _ (b0 _ _).1.bl).mono ?_; rintro e w1 ⟨⟨t, a, rfl⟩, hb⟩; have b1 := (b0 _ _).step hb; clear hb)
    | (go_at_call 11; refine (HU.out _ b1.1.bl).mono ?_; rintro e w2 ⟨rfl, hb⟩; have b2 := b1.step hb; obtain ⟨r0, r1, r2⟩ := b2.1.cells; obtain ⟨s0, s1, s2⟩ := b2.2.1.cells; have f0 := b2.2.2 0; have f1 := b2.2.2 1; have f2 := b2.2.2 2; have hz := b2.2.1.2.2.1; clear hb b1)
    | (go_at_call 9; (refine (HO.out (w2.setCell ⟨w.heap.size + 1, 2, none⟩ (.int .i64 rv)) (bl_set b2.1.bl ⟨w.heap.size + 1, 2, none⟩ (.int .i64 rv) (by show w.heap.size ≤ w.heap.size + 1; omega))).mono ?_); rintro e w3 ⟨rfl, hb⟩; have b3 := Bl.step (bl_set b2.1.bl ⟨w.heap.size + 1, 2, none⟩ (.int .i64 rv) (by show w.heap.size ≤ w.heap.size + 1; omega)) hb; have y0 : w3.cell? ⟨w.heap.size + 1, 0, none⟩ = some (.int .i64 sk) := (by rw [hb.cell (p := ⟨w.heap.size + 1, 0, none⟩) (by simpa using hz)]; go_simp); have y1 : w3.cell? ⟨w.heap.size + 1, 1, none⟩ = some (.int .i64 st) := (by rw [hb.cell (p := ⟨w.heap.size + 1, 1, none⟩) (by simpa using hz)]; go_simp); have y2 : w3.cell? ⟨w.heap.size + 1, 2, none⟩ = some (.int .i64 rv) := (by rw [hb.cell (p := ⟨w.heap.size + 1, 2, none⟩) (by simpa using hz)]; go_simp); clear hb r0 r1 r2 s0 s1 s2 f0 f1 f2 b2)
    | (go_at_call 9; (refine (HP.out _ b3).mono ?_); rintro e w4 ⟨rfl, hb⟩; have b4 := b3.step hb; clear hb b3)
    | (go_at_call 17; refine (alive_any _ (b4.sig HS.out)).mono ?_; rintro e w5 ⟨rfl, hb⟩))
  go_ret
  exact ⟨rfl, b4.step hb⟩
set_option maxHeartbeats 2000000 in
theorem usel_010 (A : Option Addr) (m c : Nat) (L : List Nd) (E : List Ex) (rk rt rv sk st sv : Int) (w : World) (hs : SigT w) (hn : L.length = m + 1) (ht : Lies w A (ndCells L)) (hg : Good4 L E) (he : errF L = 0) (h2 : usesF L 2 = false) (h3 : usesF L 3 = true) (h4 : usesF L 4 = false) (v : Int) (hv : lastV ⟨rk, rt, rv⟩ L = v) (hv2 : lastV ⟨sk, rt, sv⟩ L = v) :
    Calls Tryd.prog 7 #[.slice A (m + 1) c, .agg #[.int .i64 rk, .int .i64 rt, .int .i64 rv], .agg #[.int .i64 sk, .int .i64 st, .int .i64 sv]] w fun e w' => e = .returned (.bool true) ∧ Below w.heap.size w w' := by
  have h60 : m + 1 ≤ 60 := by rw [← hn]; exact hg.2.1
  have HG := Lib.hid (fun W => great_any A (m + 1) c W false (decide_eq_false (by omega)))
  have HA := Lib.hid (fun W (hb : Bl w W) => rofe_any A c (m + 1) L W hn (by unfold maxLen; omega) (hb.lies ht) 0 he)
  have HU := Lib.hid (fun W (hb : Bl w W) => uses_ok A c (m + 1) L W (hb.sig hs) hn (by unfold maxLen; omega) (hb.lies ht) he _ _ _ h2 h3 h4)
  have HO := Lib.hid (fun W (hb : Bl w W) => ofv_ok A c m L E ⟨rk, rt, rv⟩ W (hb.sig hs) hn (hb.lies ht) hg he v hv)
  have HP := Lib.hid (fun W (hb : Bl w W) => ofv_ok A c m L E ⟨sk, rt, sv⟩ W (hb.sig hs) hn (hb.lies ht) hg he v hv2)
  have HS := Lib.hid hs
  have b0 := fun t t' => RB2.start w rk rt rv sk st sv t t'
  clear hs hn ht hg he h2 h3 h4 hv hv2
  go_enter Tryd.func7, Tryd.ntmps7
  go_wp2_with (first
    | (go_at_call 18; refine (HG.out _).mono ?_; rintro e w1 ⟨rfl, rfl⟩)
    | (go_at_call 23; refine (HA.out _ (b0 _ _).1.bl).mono ?_; rintro e w1 ⟨⟨t, a, rfl⟩, hb⟩; have b1 := (b0 _ _).step hb; clear hb)
    | (go_at_call 11; refine (HU.out _ b1.1.bl).mono ?_; rintro e w2 ⟨rfl, hb⟩; have b2 := b1.step hb; obtain ⟨r0, r1, r2⟩ := b2.1.cells; obtain ⟨s0, s1, s2⟩ := b2.2.1.cells; have f0 := b2.2.2 0; have f1 := b2.2.2 1; have f2 := b2.2.2 2; have hz := b2.2.1.2.2.1; clear hb b1)
    | (go_at_call 9; (refine (HO.out (w2.setCell ⟨w.heap.size + 1, 1, none⟩ (.int .i64 rt)) (bl_set b2.1.bl ⟨w.heap.size + 1, 1, none⟩ (.int .i64 rt) (by show w.heap.size ≤ w.heap.size + 1; omega))).mono ?_); rintro e w3 ⟨rfl, hb⟩; have b3 := Bl.step (bl_set b2.1.bl ⟨w.heap.size + 1, 1, none⟩ (.int .i64 rt) (by show w.heap.size ≤ w.heap.size + 1; omega)) hb; have y0 : w3.cell? ⟨w.heap.size + 1, 0, none⟩ = some (.int .i64 sk) := (by rw [hb.cell (p := ⟨w.heap.size + 1, 0, none⟩) (by simpa using hz)]; go_simp); have y1 : w3.cell? ⟨w.heap.size + 1, 1, none⟩ = some (.int .i64 rt) := (by rw [hb.cell (p := ⟨w.heap.size + 1, 1, none⟩) (by simpa using hz)]; go_simp); have y2 : w3.cell? ⟨w.heap.size + 1, 2, none⟩ = some (.int .i64 sv) := (by rw [hb.cell (p := ⟨w.heap.size + 1, 2, none⟩) (by simpa using hz)]; go_simp); clear hb r0 r1 r2 s0 s1 s2 f0 f1 f2 b2)
    | (go_at_call 9; (refine (HP.out _ b3).mono ?_); rintro e w4 ⟨rfl, hb⟩; have b4 := b3.step hb; clear hb b3)
    | (go_at_call 17; refine (alive_any _ (b4.sig HS.out)).mono ?_; rintro e w5 ⟨rfl, hb⟩))
  go_ret
  exact ⟨rfl, b4.step hb⟩
set_option maxHeartbeats 2000000 in
theorem usel_011 (A : Option Addr) (m c : Nat) (L : List Nd) (E : List Ex) (rk rt rv sk st sv : Int) (w : World) (hs : SigT w) (hn : L.length = m + 1) (ht : Lies w A (ndCells L)) (hg : Good4 L E) (he : errF L = 0) (h2 : usesF L 2 = false) (h3 : usesF L 3 = true) (h4 : usesF L 4 = true) (v : Int) (hv : lastV ⟨rk, rt, rv⟩ L = v) (hv2 : lastV ⟨sk, rt, rv⟩ L = v) :
    Calls Tryd.prog 7 #[.slice A (m + 1) c, .agg #[.int .i64 rk, .int .i64 rt, .int .i64 rv], .agg #[.int .i64 sk, .int .i64 st, .int .i64 sv]] w fun e w' => e = .returned (.bool true) ∧ Below w.heap.size w w' := by
  have h60 : m + 1 ≤ 60 := by rw [← hn]; exact hg.2.1
  have HG := Lib.hid (fun W => great_any A (m + 1) c W false (decide_eq_false (by omega)))
  have HA := Lib.hid (fun W (hb : Bl w W) => rofe_any A c (m + 1) L W hn (by unfold maxLen; omega) (hb.lies ht) 0 he)
  have HU := Lib.hid (fun W (hb : Bl w W) => uses_ok A c (m + 1) L W (hb.sig hs) hn (by unfold maxLen; omega) (hb.lies ht) he _ _ _ h2 h3 h4)
  have HO := Lib.hid (fun W (hb : Bl w W) => ofv_ok A c m L E ⟨rk, rt, rv⟩ W (hb.sig hs) hn (hb.lies ht) hg he v hv)
  have HP := Lib.hid (fun W (hb : Bl w W) => ofv_ok A c m L E ⟨sk, rt, rv⟩ W (hb.sig hs) hn (hb.lies ht) hg he v hv2)
  have HS := Lib.hid hs
  have b0 := fun t t' => RB2.start w rk rt rv sk st sv t t'
  clear hs hn ht hg he h2 h3 h4 hv hv2
  go_enter Tryd.func7, Tryd.ntmps7
  go_wp2_with (first
    | (go_at_call 18; refine (HG.out _).mono ?_; rintro e w1 ⟨rfl, rfl⟩)
    | (go_at_call 23; refine (HA.out _ (b0 _ _).1.bl).mono ?_; rintro e w1 ⟨⟨t, a, rfl⟩, hb⟩; have b1 := (b0 _ _).step hb; clear hb)
    | (go_at_call 11; refine (HU.out _ b1.1.bl).mono ?_; rintro e w2 ⟨rfl, hb⟩; have b2 := b1.step hb; obtain ⟨r0, r1, r2⟩ := b2.1.cells; obtain ⟨s0, s1, s2⟩ := b2.2.1.cells; have f0 := b2.2.2 0; have f1 := b2.2.2 1; have f2 := b2.2.2 2; have hz := b2.2.1.2.2.1; clear hb b1)
    | (go_at_call 9; (refine (HO.out ((w2.setCell ⟨w.heap.size + 1, 1, none⟩ (.int .i64 rt)).setCell ⟨w.heap.size + 1, 2, none⟩ (.int .i64 rv)) (bl_set (bl_set b2.1.bl ⟨w.heap.size + 1, 1, none⟩ (.int .i64 rt) (by show w.heap.size ≤ w.heap.size + 1; omega)) ⟨w.heap.size + 1, 2, none⟩ (.int .i64 rv) (by show w.heap.size ≤ w.heap.size + 1; omega))).mono ?_); rintro e w3 ⟨rfl, hb⟩; have b3 := Bl.step (bl_set (bl_set b2.1.bl ⟨w.heap.size + 1, 1, none⟩ (.int .i64 rt) (by show w.heap.size ≤ w.heap.size + 1; omega)) ⟨w.heap.size + 1, 2, none⟩ (.int .i64 rv) (by show w.heap.size ≤ w.heap.size + 1; omega)) hb; have y0 : w3.cell? ⟨w.heap.size + 1, 0, none⟩ = some (.int .i64 sk) := (by rw [hb.cell (p := ⟨w.heap.size + 1, 0, none⟩) (by simpa using hz)]; go_simp); have y1 : w3.cell? ⟨w.heap.size + 1, 1, none⟩ = some (.int .i64 rt) := (by rw [hb.cell (p := ⟨w.heap.size + 1, 1, none⟩) (by simpa using hz)]; go_simp); have y2 : w3.cell? ⟨w.heap.size + 1, 2, none⟩ = some (.int .i64 rv) := (by rw [hb.cell (p := ⟨w.heap.size + 1, 2, none⟩) (by simpa using hz)]; go_simp); clear hb r0 r1 r2 s0 s1 s2 f0 f1 f2 b2)
    | (go_at_call 9; (refine (HP.out _ b3).mono ?_); rintro e w4 ⟨rfl, hb⟩; have b4 := b3.step hb; clear hb b3)
    | (go_at_call 17; refine (alive_any _ (b4.sig HS.out)).mono ?_; rintro e w5 ⟨rfl, hb⟩))
  go_ret
  exact ⟨rfl, b4.step hb⟩
set_option maxHeartbeats 2000000 in
theorem usel_100 (A : Option Addr) (m c : Nat) (L : List Nd) (E : List Ex) (rk rt rv sk st sv : Int) (w : World) (hs : SigT w) (hn : L.length = m + 1) (ht : Lies w A (ndCells L)) (hg : Good4 L E) (he : errF L = 0) (h2 : usesF L 2 = true) (h3 : usesF L 3 = false) (h4 : usesF L 4 = false) (v : Int) (hv : lastV ⟨rk, rt, rv⟩ L = v) (hv2 : lastV ⟨rk, st, sv⟩ L = v) :
    Calls Tryd.prog 7 #[.slice A (m + 1) c, .agg #[.int .i64 rk, .int .i64 rt, .int .i64 rv], .agg #[.int .i64 sk, .int .i64 st, .int .i64 sv]] w fun e w' => e = .returned (.bool true) ∧ Below w.heap.size w w' := by
  have h60 : m + 1 ≤ 60 := by rw [← hn]; exact hg.2.1
  have HG := Lib.hid (fun W => great_any A (m + 1) c W false (decide_eq_false (by omega)))
  have HA := Lib.hid (fun W (hb : Bl w W) => rofe_any A c (m + 1) L W hn (by unfold maxLen; omega) (hb.lies ht) 0 he)
  have HU := Lib.hid (fun W (hb : Bl w W) => uses_ok A c (m + 1) L W (hb.sig hs) hn (by unfold maxLen; omega) (hb.lies ht) he _ _ _ h2 h3 h4)
  have HO := Lib.hid (fun W (hb : Bl w W) => ofv_ok A c m L E ⟨rk, rt, rv⟩ W (hb.sig hs) hn (hb.lies ht) hg he v hv)
  have HP := Lib.hid (fun W (hb : Bl w W) => ofv_ok A c m L E ⟨rk, st, sv⟩ W (hb.sig hs) hn (hb.lies ht) hg he v hv2)
  have HS := Lib.hid hs
  have b0 := fun t t' => RB2.start w rk rt rv sk st sv t t'
  clear hs hn ht hg he h2 h3 h4 hv hv2
  go_enter Tryd.func7, Tryd.ntmps7
  go_wp2_with (first
    | (go_at_call 18; refine (HG.out _).mono ?_; rintro e w1 ⟨rfl, rfl⟩)
    | (go_at_call 23; refine (HA.out _ (b0 _ _).1.bl).mono ?_; rintro e w1 ⟨⟨t, a, rfl⟩, hb⟩; have b1 := (b0 _ _).step hb; clear hb)
    | (go_at_call 11; refine (HU.out _ b1.1.bl).mono ?_; rintro e w2 ⟨rfl, hb⟩; have b2 := b1.step hb; obtain ⟨r0, r1, r2⟩ := b2.1.cells; obtain ⟨s0, s1, s2⟩ := b2.2.1.cells; have f0 := b2.2.2 0; have f1 := b2.2.2 1; have f2 := b2.2.2 2; have hz := b2.2.1.2.2.1; clear hb b1)
    | (go_at_call 9; (refine (HO.out (w2.setCell ⟨w.heap.size + 1, 0, none⟩ (.int .i64 rk)) (bl_set b2.1.bl ⟨w.heap.size + 1, 0, none⟩ (.int .i64 rk) (by show w.heap.size ≤ w.heap.size + 1; omega))).mono ?_); rintro e w3 ⟨rfl, hb⟩; have b3 := Bl.step (bl_set b2.1.bl ⟨w.heap.size + 1, 0, none⟩ (.int .i64 rk) (by show w.heap.size ≤ w.heap.size + 1; omega)) hb; have y0 : w3.cell? ⟨w.heap.size + 1, 0, none⟩ = some (.int .i64 rk) := (by rw [hb.cell (p := ⟨w.heap.size + 1, 0, none⟩) (by simpa using hz)]; go_simp); have y1 : w3.cell? ⟨w.heap.size + 1, 1, none⟩ = some (.int .i64 st) := (by rw [hb.cell (p := ⟨w.heap.size + 1, 1, none⟩) (by simpa using hz)]; go_simp); have y2 : w3.cell? ⟨w.heap.size + 1, 2, none⟩ = some (.int .i64 sv) := (by rw [hb.cell (p := ⟨w.heap.size + 1, 2, none⟩) (by simpa using hz)]; go_simp); clear hb r0 r1 r2 s0 s1 s2 f0 f1 f2 b2)
    | (go_at_call 9; (refine (HP.out _ b3).mono ?_); rintro e w4 ⟨rfl, hb⟩; have b4 := b3.step hb; clear hb b3)
    | (go_at_call 17; refine (alive_any _ (b4.sig HS.out)).mono ?_; rintro e w5 ⟨rfl, hb⟩))
  go_ret
  exact ⟨rfl, b4.step hb⟩
set_option maxHeartbeats 2000000 in
theorem usel_101 (A : Option Addr) (m c : Nat) (L : List Nd) (E : List Ex) (rk rt rv sk st sv : Int) (w : World) (hs : SigT w) (hn : L.length = m + 1) (ht : Lies w A (ndCells L)) (hg : Good4 L E) (he : errF L = 0) (h2 : usesF L 2 = true) (h3 : usesF L 3 = false) (h4 : usesF L 4 = true) (v : Int) (hv : lastV ⟨rk, rt, rv⟩ L = v) (hv2 : lastV ⟨rk, st, rv⟩ L = v) :
    Calls Tryd.prog 7 #[.slice A (m + 1) c, .agg #[.int .i64 rk, .int .i64 rt, .int .i64 rv], .agg #[.int .i64 sk, .int .i64 st, .int .i64 sv]] w fun e w' => e = .returned (.bool true) ∧ Below w.heap.size w w' := by
  have h60 : m + 1 ≤ 60 := by rw [← hn]; exact hg.2.1
  have HG := Lib.hid (fun W => great_any A (m + 1) c W false (decide_eq_false (by omega)))
  have HA := Lib.hid (fun W (hb : Bl w W) => rofe_any A c (m + 1) L W hn (by unfold maxLen; omega) (hb.lies ht) 0 he)
  have HU := Lib.hid (fun W (hb : Bl w W) => uses_ok A c (m + 1) L W (hb.sig hs) hn (by unfold maxLen; omega) (hb.lies ht) he _ _ _ h2 h3 h4)
  have HO := Lib.hid (fun W (hb : Bl w W) => ofv_ok A c m L E ⟨rk, rt, rv⟩ W (hb.sig hs) hn (hb.lies ht) hg he v hv)
  have HP := Lib.hid (fun W (hb : Bl w W) => ofv_ok A c m L E ⟨rk, st, rv⟩ W (hb.sig hs) hn (hb.lies ht) hg he v hv2)
  have HS := Lib.hid hs
  have b0 := fun t t' => RB2.start w rk rt rv sk st sv t t'
  clear hs hn ht hg he h2 h3 h4 hv hv2
  go_enter Tryd.func7, Tryd.ntmps7
  go_wp2_with (first
    | (go_at_call 18; refine (HG.out _).mono ?_; rintro e w1 ⟨rfl, rfl⟩)
    | (go_at_call 23; refine (HA.out _ (b0 _ _).1.bl).mono ?_; rintro e w1 ⟨⟨t, a, rfl⟩, hb⟩; have b1 := (b0 _ _).step hb; clear hb)
    | (go_at_call 11; refine (HU.out _ b1.1.bl).mono ?_; rintro e w2 ⟨rfl, hb⟩; have b2 := b1.step hb; obtain ⟨r0, r1, r2⟩ := b2.1.cells; obtain ⟨s0, s1, s2⟩ := b2.2.1.cells; have f0 := b2.2.2 0; have f1 := b2.2.2 1; have f2 := b2.2.2 2; have hz := b2.2.1.2.2.1; clear hb b1)
    | (go_at_call 9; (refine (HO.out ((w2.setCell ⟨w.heap.size + 1, 0, none⟩ (.int .i64 rk)).setCell ⟨w.heap.size + 1, 2, none⟩ (.int .i64 rv)) (bl_set (bl_set b2.1.bl ⟨w.heap.size + 1, 0, none⟩ (.int .i64 rk) (by show w.heap.size ≤ w.heap.size + 1; omega)) ⟨w.heap.size + 1, 2, none⟩ (.int .i64 rv) (by show w.heap.size ≤ w.heap.size + 1; omega))).mono ?_); rintro e w3 ⟨rfl, hb⟩; have b3 := Bl.step (bl_set (bl_set b2.1.bl ⟨w.heap.size + 1, 0, none⟩ (.int .i64 rk) (by show w.heap.size ≤ w.heap.size + 1; omega)) ⟨w.heap.size + 1, 2, none⟩ (.int .i64 rv) (by show w.heap.size ≤ w.heap.size + 1; omega)) hb; have y0 : w3.cell? ⟨w.heap.size + 1, 0, none⟩ = some (.int .i64 rk) := (by rw [hb.cell (p := ⟨w.heap.size + 1, 0, none⟩) (by simpa using hz)]; go_simp); have y1 : w3.cell? ⟨w.heap.size + 1, 1, none⟩ = some (.int .i64 st) := (by rw [hb.cell (p := ⟨w.heap.size + 1, 1, none⟩) (by simpa using hz)]; go_simp); have y2 : w3.cell? ⟨w.heap.size + 1, 2, none⟩ = some (.int .i64 rv) := (by rw [hb.cell (p := ⟨w.heap.size + 1, 2, none⟩) (by simpa using hz)]; go_simp); clear hb r0 r1 r2 s0 s1 s2 f0 f1 f2 b2)
    | (go_at_call 9; (refine (HP.out _ b3).mono ?_); rintro e w4 ⟨rfl, hb⟩; have b4 := b3.step hb; clear hb b3)
    | (go_at_call 17; refine (alive_any _ (b4.sig HS.out)).mono ?_; rintro e w5 ⟨rfl, hb⟩))
  go_ret
  exact ⟨rfl, b4.step hb⟩
set_option maxHeartbeats 2000000 in
theorem usel_110 (A : Option Addr) (m c : Nat) (L : List Nd) (E : List Ex) (rk rt rv sk st sv : Int) (w : World) (hs : SigT w) (hn : L.length = m + 1) (ht : Lies w A (ndCells L)) (hg : Good4 L E) (he : errF L = 0) (h2 : usesF L 2 = true) (h3 : usesF L 3 = true) (h4 : usesF L 4 = false) (v : Int) (hv : lastV ⟨rk, rt, rv⟩ L = v) (hv2 : lastV ⟨rk, rt, sv⟩ L = v) :
    Calls Tryd.prog 7 #[.slice A (m + 1) c, .agg #[.int .i64 rk, .int .i64 rt, .int .i64 rv], .agg #[.int .i64 sk, .int .i64 st, .int .i64 sv]] w fun e w' => e = .returned (.bool true) ∧ Below w.heap.size w w' := by
  have h60 : m + 1 ≤ 60 := by rw [← hn]; exact hg.2.1
  have HG := Lib.hid (fun W => great_any A (m + 1) c W false (decide_eq_false (by omega)))
  have HA := Lib.hid (fun W (hb : Bl w W) => rofe_any A c (m + 1) L W hn (by unfold maxLen; omega) (hb.lies ht) 0 he)
  have HU := Lib.hid (fun W (hb : Bl w W) => uses_ok A c (m + 1) L W (hb.sig hs) hn (by unfold maxLen; omega) (hb.lies ht) he _ _ _ h2 h3 h4)
  have HO := Lib.hid (fun W (hb : Bl w W) => ofv_ok A c m L E ⟨rk, rt, rv⟩ W (hb.sig hs) hn (hb.lies ht) hg he v hv)
  have HP := Lib.hid (fun W (hb : Bl w W) => ofv_ok A c m L E ⟨rk, rt, sv⟩ W (hb.sig hs) hn (hb.lies ht) hg he v hv2)
  have HS := Lib.hid hs
  have b0 := fun t t' => RB2.start w rk rt rv sk st sv t t'
  clear hs hn ht hg he h2 h3 h4 hv hv2
  go_enter Tryd.func7, Tryd.ntmps7
  go_wp2_with (first
    | (go_at_call 18; refine (HG.out _).mono ?_; rintro e w1 ⟨rfl, rfl⟩)
    | (go_at_call 23; refine (HA.out _ (b0 _ _).1.bl).mono ?_; rintro e w1 ⟨⟨t, a, rfl⟩, hb⟩; have b1 := (b0 _ _).step hb; clear hb)
    | (go_at_call 11; refine (HU.out _ b1.1.bl).mono ?_; rintro e w2 ⟨rfl, hb⟩; have b2 := b1.step hb; obtain ⟨r0, r1, r2⟩ := b2.1.cells; obtain ⟨s0, s1, s2⟩ := b2.2.1.cells; have f0 := b2.2.2 0; have f1 := b2.2.2 1; have f2 := b2.2.2 2; have hz := b2.2.1.2.2.1; clear hb b1)
    | (go_at_call 9; (refine (HO.out ((w2.setCell ⟨w.heap.size + 1, 0, none⟩ (.int .i64 rk)).setCell ⟨w.heap.size + 1, 1, none⟩ (.int .i64 rt)) (bl_set (bl_set b2.1.bl ⟨w.heap.size + 1, 0, none⟩ (.int .i64 rk) (by show w.heap.size ≤ w.heap.size + 1; omega)) ⟨w.heap.size + 1, 1, none⟩ (.int .i64 rt) (by show w.heap.size ≤ w.heap.size + 1; omega))).mono ?_); rintro e w3 ⟨rfl, hb⟩; have b3 := Bl.step (bl_set (bl_set b2.1.bl ⟨w.heap.size + 1, 0, none⟩ (.int .i64 rk) (by show w.heap.size ≤ w.heap.size + 1; omega)) ⟨w.heap.size + 1, 1, none⟩ (.int .i64 rt) (by show w.heap.size ≤ w.heap.size + 1; omega)) hb; have y0 : w3.cell? ⟨w.heap.size + 1, 0, none⟩ = some (.int .i64 rk) := (by rw [hb.cell (p := ⟨w.heap.size + 1, 0, none⟩) (by simpa using hz)]; go_simp); have y1 : w3.cell? ⟨w.heap.size + 1, 1, none⟩ = some (.int .i64 rt) := (by rw [hb.cell (p := ⟨w.heap.size + 1, 1, none⟩) (by simpa using hz)]; go_simp); have y2 : w3.cell? ⟨w.heap.size + 1, 2, none⟩ = some (.int .i64 sv) := (by rw [hb.cell (p := ⟨w.heap.size + 1, 2, none⟩) (by simpa using hz)]; go_simp); clear hb r0 r1 r2 s0 s1 s2 f0 f1 f2 b2)
    | (go_at_call 9; (refine (HP.out _ b3).mono ?_); rintro e w4 ⟨rfl, hb⟩; have b4 := b3.step hb; clear hb b3)
    | (go_at_call 17; refine (alive_any _ (b4.sig HS.out)).mono ?_; rintro e w5 ⟨rfl, hb⟩))
  go_ret
  exact ⟨rfl, b4.step hb⟩
set_option maxHeartbeats 2000000 in
theorem usel_111 (A : Option Addr) (m c : Nat) (L : List Nd) (E : List Ex) (rk rt rv sk st sv : Int) (w : World) (hs : SigT w) (hn : L.length = m + 1) (ht : Lies w A (ndCells L)) (hg : Good4 L E) (he : errF L = 0) (h2 : usesF L 2 = true) (h3 : usesF L 3 = true) (h4 : usesF L 4 = true) (v : Int) (hv : lastV ⟨rk, rt, rv⟩ L = v) (hv2 : lastV ⟨rk, rt, rv⟩ L = v) :
    Calls Tryd.prog 7 #[.slice A (m + 1) c, .agg #[.int .i64 rk, .int .i64 rt, .int .i64 rv], .agg #[.int .i64 sk, .int .i64 st, .int .i64 sv]] w fun e w' => e = .returned (.bool true) ∧ Below w.heap.size w w' := by
  have h60 : m + 1 ≤ 60 := by rw [← hn]; exact hg.2.1
  have HG := Lib.hid (fun W => great_any A (m + 1) c W false (decide_eq_false (by omega)))
  have HA := Lib.hid (fun W (hb : Bl w W) => rofe_any A c (m + 1) L W hn (by unfold maxLen; omega) (hb.lies ht) 0 he)
  have HU := Lib.hid (fun W (hb : Bl w W) => uses_ok A c (m + 1) L W (hb.sig hs) hn (by unfold maxLen; omega) (hb.lies ht) he _ _ _ h2 h3 h4)
  have HO := Lib.hid (fun W (hb : Bl w W) => ofv_ok A c m L E ⟨rk, rt, rv⟩ W (hb.sig hs) hn (hb.lies ht) hg he v hv)
  have HP := Lib.hid (fun W (hb : Bl w W) => ofv_ok A c m L E ⟨rk, rt, rv⟩ W (hb.sig hs) hn (hb.lies ht) hg he v hv2)
  have HS := Lib.hid hs
  have b0 := fun t t' => RB2.start w rk rt rv sk st sv t t'
  clear hs hn ht hg he h2 h3 h4 hv hv2
  go_enter Tryd.func7, Tryd.ntmps7
  go_wp2_with (first
    | (go_at_call 18; refine (HG.out _).mono ?_; rintro e w1 ⟨rfl, rfl⟩)
    | (go_at_call 23; refine (HA.out _ (b0 _ _).1.bl).mono ?_; rintro e w1 ⟨⟨t, a, rfl⟩, hb⟩; have b1 := (b0 _ _).step hb; clear hb)
    | (go_at_call 11; refine (HU.out _ b1.1.bl).mono ?_; rintro e w2 ⟨rfl, hb⟩; have b2 := b1.step hb; obtain ⟨r0, r1, r2⟩ := b2.1.cells; obtain ⟨s0, s1, s2⟩ := b2.2.1.cells; have f0 := b2.2.2 0; have f1 := b2.2.2 1; have f2 := b2.2.2 2; have hz := b2.2.1.2.2.1; clear hb b1)
    | (go_at_call 9; (refine (HO.out (((w2.setCell ⟨w.heap.size + 1, 0, none⟩ (.int .i64 rk)).setCell ⟨w.heap.size + 1, 1, none⟩ (.int .i64 rt)).setCell ⟨w.heap.size + 1, 2, none⟩ (.int .i64 rv)) (bl_set (bl_set (bl_set b2.1.bl ⟨w.heap.size + 1, 0, none⟩ (.int .i64 rk) (by show w.heap.size ≤ w.heap.size + 1; omega)) ⟨w.heap.size + 1, 1, none⟩ (.int .i64 rt) (by show w.heap.size ≤ w.heap.size + 1; omega)) ⟨w.heap.size + 1, 2, none⟩ (.int .i64 rv) (by show w.heap.size ≤ w.heap.size + 1; omega))).mono ?_); rintro e w3 ⟨rfl, hb⟩; have b3 := Bl.step (bl_set (bl_set (bl_set b2.1.bl ⟨w.heap.size + 1, 0, none⟩ (.int .i64 rk) (by show w.heap.size ≤ w.heap.size + 1; omega)) ⟨w.heap.size + 1, 1, none⟩ (.int .i64 rt) (by show w.heap.size ≤ w.heap.size + 1; omega)) ⟨w.heap.size + 1, 2, none⟩ (.int .i64 rv) (by show w.heap.size ≤ w.heap.size + 1; omega)) hb; have y0 : w3.cell? ⟨w.heap.size + 1, 0, none⟩ = some (.int .i64 rk) := (by rw [hb.cell (p := ⟨w.heap.size + 1, 0, none⟩) (by simpa using hz)]; go_simp); have y1 : w3.cell? ⟨w.heap.size + 1, 1, none⟩ = some (.int .i64 rt) := (by rw [hb.cell (p := ⟨w.heap.size + 1, 1, none⟩) (by simpa using hz)]; go_simp); have y2 : w3.cell? ⟨w.heap.size + 1, 2, none⟩ = some (.int .i64 rv) := (by rw [hb.cell (p := ⟨w.heap.size + 1, 2, none⟩) (by simpa using hz)]; go_simp); clear hb r0 r1 r2 s0 s1 s2 f0 f1 f2 b2)
    | (go_at_call 9; (refine (HP.out _ b3).mono ?_); rintro e w4 ⟨rfl, hb⟩; have b4 := b3.step hb; clear hb b3)
    | (go_at_call 17; refine (alive_any _ (b4.sig HS.out)).mono ?_; rintro e w5 ⟨rfl, hb⟩))
  go_ret
  exact ⟨rfl, b4.step hb⟩
theorem EvalsUses_walk (A : Option Addr) (c : Nat) (L : List Nd) (rk rt rv sk st sv : Int) (w : World) (hL : L.length ≤ maxLen) (ht : Lies w A (ndCells L)) (hnc : L.length ≤ c) (hA : (A = none ∧ c = 0 ∧ L = []) ∨ ∃ ad, A = some ad) (hbb : ∀ x ∈ L, x.n ≤ 9223372036854775807) (hr : RcIn ⟨rk, rt, rv⟩) (hr2 : RcIn ⟨sk, st, sv⟩) (hs : SigT w) :
    Calls Tryd.prog 7 #[.slice A L.length c, .agg #[.int .i64 rk, .int .i64 rt, .int .i64 rv], .agg #[.int .i64 sk, .int .i64 st, .int .i64 sv]] w fun e w' => e = .returned (.bool true) ∧ Below w.heap.size w w' := by
  by_cases h7 : 70 < L.length
  · exact usel_great A _ c rk rt rv sk st sv w hs h7
  rcases err_cases L with ⟨t, a, v, h1, h2, h3⟩ | ⟨t, m, E, h1, h2, hg, hn, _⟩
  · exact usel_bad A _ c L rk rt rv sk st sv w hs rfl (by omega) ht v h2 h3
  · rw [hn]
    have hsame : ∀ r s : Rc, (usesF L 2 = true → r.k = s.k) → (usesF L 3 = true → r.t = s.t) → (usesF L 4 = true → r.v = s.v) → lastV s L = lastV r L := by
      intro r s a b c
      unfold lastV
      rw [vals_same r s L a b c]
    cases u2 : usesF L 2 <;> cases u3 : usesF L 3 <;> cases u4 : usesF L 4
    · exact usel_000 A m c L E rk rt rv sk st sv w hs hn ht hg h2 u2 u3 u4 _ rfl (hsame ⟨rk, rt, rv⟩ _ (by rw [u2]; exact fun h => by cases h) (by rw [u3]; exact fun h => by cases h) (by rw [u4]; exact fun h => by cases h))
    · exact usel_001 A m c L E rk rt rv sk st sv w hs hn ht hg h2 u2 u3 u4 _ rfl (hsame ⟨rk, rt, rv⟩ _ (by rw [u2]; exact fun h => by cases h) (by rw [u3]; exact fun h => by cases h) (by rw [u4]; exact fun _ => rfl))
    · exact usel_010 A m c L E rk rt rv sk st sv w hs hn ht hg h2 u2 u3 u4 _ rfl (hsame ⟨rk, rt, rv⟩ _ (by rw [u2]; exact fun h => by cases h) (by rw [u3]; exact fun _ => rfl) (by rw [u4]; exact fun h => by cases h))
    · exact usel_011 A m c L E rk rt rv sk st sv w hs hn ht hg h2 u2 u3 u4 _ rfl (hsame ⟨rk, rt, rv⟩ _ (by rw [u2]; exact fun h => by cases h) (by rw [u3]; exact fun _ => rfl) (by rw [u4]; exact fun _ => rfl))
    · exact usel_100 A m c L E rk rt rv sk st sv w hs hn ht hg h2 u2 u3 u4 _ rfl (hsame ⟨rk, rt, rv⟩ _ (by rw [u2]; exact fun _ => rfl) (by rw [u3]; exact fun h => by cases h) (by rw [u4]; exact fun h => by cases h))
    · exact usel_101 A m c L E rk rt rv sk st sv w hs hn ht hg h2 u2 u3 u4 _ rfl (hsame ⟨rk, rt, rv⟩ _ (by rw [u2]; exact fun _ => rfl) (by rw [u3]; exact fun h => by cases h) (by rw [u4]; exact fun _ => rfl))
    · exact usel_110 A m c L E rk rt rv sk st sv w hs hn ht hg h2 u2 u3 u4 _ rfl (hsame ⟨rk, rt, rv⟩ _ (by rw [u2]; exact fun _ => rfl) (by rw [u3]; exact fun _ => rfl) (by rw [u4]; exact fun h => by cases h))
    · exact usel_111 A m c L E rk rt rv sk st sv w hs hn ht hg h2 u2 u3 u4 _ rfl (hsame ⟨rk, rt, rv⟩ _ (by rw [u2]; exact fun _ => rfl) (by rw [u3]; exact fun _ => rfl) (by rw [u4]; exact fun _ => rfl))
end Go.Proofs.YtajchaknfkfljaaDoor.V7
