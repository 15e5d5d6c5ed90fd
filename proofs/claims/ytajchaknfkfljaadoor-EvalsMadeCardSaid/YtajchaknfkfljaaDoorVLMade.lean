/- EvalsMade walks to true. -/
import Derived.Test.YtajchaknfkfljaaDoorVLaw
namespace Go.Proofs.YtajchaknfkfljaaDoor.V7
open Go.ChangeShapes Go.WideShapes Go.ChangeAt Go.RowKit N4 K6
set_option linter.unusedVariables false
set_option linter.unusedSimpArgs false
set_option maxRecDepth 100000

theorem ofv_any (A : Option Addr) (c n : Nat) (L : List Nd) (r : Rc) (w : World) (hs : SigT w) (hn : L.length = n) (hL : n ≤ maxLen) (ht : Lies w A (ndCells L)) (v : Int) (h : errF L = v) :
    Calls Tryd.prog 9 #[.slice A n c, rcV r] w fun e w' => (∃ u, e = .returned (.tuple #[.int .i64 u, .int .i64 v])) ∧ Below w.heap.size w w' := by
  rcases err_cases L with ⟨t, a, v', h1, h2, h3⟩ | ⟨t, m, E, h1, h2, hg, hm, _⟩
  · obtain rfl : v' = v := h2.symm.trans h
    exact (ofv_bad A c n L r w hs hn hL ht _ h h3).mono fun e w' h => ⟨⟨_, h.1⟩, h.2⟩
  · obtain rfl : 0 = v := h2.symm.trans h
    obtain rfl : n = m + 1 := by omega
    exact (ofv_ok A c m L E r w hs hn ht hg h2 _ rfl).mono fun e w' h => ⟨⟨_, h.1⟩, h.2⟩
theorem mdv_g1 (A : Option Addr) (n c : Nat) (P : List Nd) (B : Option Addr) (p d : Nat) (Q : List Nd) (kk rk rt rv : Int) (w : World) (hs : SigT w) (h : 70 < n) :
    Calls Tryd.prog 8 #[.slice A n c, .slice B p d, .int .u8 kk, .agg #[.int .i64 rk, .int .i64 rt, .int .i64 rv]] w fun e w' => e = .returned (.bool true) ∧ Below w.heap.size w w' := by
  have HG := Lib.hid (fun W => great_any A n c W true (decide_eq_true h))
  have HS := Lib.hid hs
  have b0 := fun t => RB.start w rk rt rv t
  clear h hs
  go_enter Tryd.func8, Tryd.ntmps8
  go_wp2_with (first
    | (go_at_call 18; (with_reducible refine (HG.out _).mono ?_); rintro e w1 ⟨rfl, rfl⟩; clear HG)
    | (go_at_call 17; refine (alive_any _ ((b0 _).bl.sig HS.out)).mono ?_; rintro e w1 ⟨rfl, hb⟩))
  go_ret
  exact ⟨rfl, ((b0 _).step hb).bl⟩
theorem mdv_g2 (A : Option Addr) (n c : Nat) (P : List Nd) (B : Option Addr) (p d : Nat) (Q : List Nd) (kk rk rt rv : Int) (w : World) (hs : SigT w) (h : ¬ 70 < n) (h2 : 70 < p) :
    Calls Tryd.prog 8 #[.slice A n c, .slice B p d, .int .u8 kk, .agg #[.int .i64 rk, .int .i64 rt, .int .i64 rv]] w fun e w' => e = .returned (.bool true) ∧ Below w.heap.size w w' := by
  have HG := Lib.hid (fun W => great_any A n c W false (decide_eq_false h))
  have HH := Lib.hid (fun W => great_any B p d W true (decide_eq_true h2))
  have HS := Lib.hid hs
  have b0 := fun t => RB.start w rk rt rv t
  clear h h2 hs
  go_enter Tryd.func8, Tryd.ntmps8
  go_wp2_with (first
    | (go_at_call 18; (with_reducible refine (HG.out _).mono ?_); rintro e w1 ⟨rfl, rfl⟩; clear HG)
    | (go_at_call 18; (with_reducible refine (HH.out _).mono ?_); rintro e w1 ⟨rfl, rfl⟩; clear HH)
    | (go_at_call 17; refine (alive_any _ ((b0 _).bl.sig HS.out)).mono ?_; rintro e w1 ⟨rfl, hb⟩))
  go_ret
  exact ⟨rfl, ((b0 _).step hb).bl⟩
theorem mdv_k1 (A : Option Addr) (n c : Nat) (P : List Nd) (B : Option Addr) (p d : Nat) (Q : List Nd) (kk rk rt rv : Int) (w : World) (hs : SigT w) (h : ¬ 70 < n) (h2 : ¬ 70 < p) (h3 : kk < 7) :
    Calls Tryd.prog 8 #[.slice A n c, .slice B p d, .int .u8 kk, .agg #[.int .i64 rk, .int .i64 rt, .int .i64 rv]] w fun e w' => e = .returned (.bool true) ∧ Below w.heap.size w w' := by
  have HG := Lib.hid (fun W => great_any A n c W false (decide_eq_false h))
  have HH := Lib.hid (fun W => great_any B p d W false (decide_eq_false h2))
  have HS := Lib.hid hs
  have b0 := fun t => RB.start w rk rt rv t
  clear h h2 hs
  go_enter Tryd.func8, Tryd.ntmps8
  go_wp2_with (first
    | (go_at_call 18; (with_reducible refine (HG.out _).mono ?_); rintro e w1 ⟨rfl, rfl⟩; clear HG)
    | (go_at_call 18; (with_reducible refine (HH.out _).mono ?_); rintro e w1 ⟨rfl, rfl⟩; clear HH)
    | (go_at_call 17; refine (alive_any _ ((b0 _).bl.sig HS.out)).mono ?_; rintro e w1 ⟨rfl, hb⟩))
  go_ret
  exact ⟨rfl, ((b0 _).step hb).bl⟩
theorem mdv_k2 (A : Option Addr) (n c : Nat) (P : List Nd) (B : Option Addr) (p d : Nat) (Q : List Nd) (kk rk rt rv : Int) (w : World) (hs : SigT w) (h : ¬ 70 < n) (h2 : ¬ 70 < p) (h3 : ¬ kk < 7) (h4 : 19 < kk) :
    Calls Tryd.prog 8 #[.slice A n c, .slice B p d, .int .u8 kk, .agg #[.int .i64 rk, .int .i64 rt, .int .i64 rv]] w fun e w' => e = .returned (.bool true) ∧ Below w.heap.size w w' := by
  have HG := Lib.hid (fun W => great_any A n c W false (decide_eq_false h))
  have HH := Lib.hid (fun W => great_any B p d W false (decide_eq_false h2))
  have HS := Lib.hid hs
  have b0 := fun t => RB.start w rk rt rv t
  clear h h2 hs
  go_enter Tryd.func8, Tryd.ntmps8
  go_wp2_with (first
    | (go_at_call 18; (with_reducible refine (HG.out _).mono ?_); rintro e w1 ⟨rfl, rfl⟩; clear HG)
    | (go_at_call 18; (with_reducible refine (HH.out _).mono ?_); rintro e w1 ⟨rfl, rfl⟩; clear HH)
    | (go_at_call 17; refine (alive_any _ ((b0 _).bl.sig HS.out)).mono ?_; rintro e w1 ⟨rfl, hb⟩))
  go_ret
  exact ⟨rfl, ((b0 _).step hb).bl⟩
theorem mdv_a (A : Option Addr) (n c : Nat) (P : List Nd) (B : Option Addr) (p d : Nat) (Q : List Nd) (kk rk rt rv : Int) (w : World) (hs : SigT w) (h7 : n ≤ 70) (h8 : p ≤ 70) (k1 : 7 ≤ kk) (k2 : kk ≤ 19) (hn : P.length = n) (hp : Q.length = p) (ht : Lies w A (ndCells P)) (hu : Lies w B (ndCells Q)) (v z : Int) (h1 : errF P = v) (h0 : v ≠ 0) (h2 : errF Q = z) :
    Calls Tryd.prog 8 #[.slice A n c, .slice B p d, .int .u8 kk, .agg #[.int .i64 rk, .int .i64 rt, .int .i64 rv]] w fun e w' => e = .returned (.bool true) ∧ Below w.heap.size w w' := by
  have HG := Lib.hid (fun W => great_any A n c W false (decide_eq_false (by omega)))
  have HH := Lib.hid (fun W => great_any B p d W false (decide_eq_false (by omega)))
  have HA := Lib.hid (fun W (hb : Bl w W) => ofv_any A c n P ⟨rk, rt, rv⟩ W (hb.sig hs) hn (by unfold maxLen; omega) (hb.lies ht) _ h1)
  have HB := Lib.hid (fun W (hb : Bl w W) => ofv_any B d p Q ⟨rk, rt, rv⟩ W (hb.sig hs) hp (by unfold maxLen; omega) (hb.lies hu) _ h2)
  have hne := errno_ne h0
  have HS := Lib.hid hs
  have b0 := fun t => RB.start w rk rt rv t
  have j1 : ¬ kk < 7 := by omega
  have j2 : ¬ 19 < kk := by omega
  clear h0 h1 h2 hs hn hp ht hu
  go_enter Tryd.func8, Tryd.ntmps8
  go_wp2_with (first
    | (go_at_call 18; (with_reducible refine (HG.out _).mono ?_); rintro e w1 ⟨rfl, rfl⟩; clear HG)
    | (go_at_call 18; (with_reducible refine (HH.out _).mono ?_); rintro e w1 ⟨rfl, rfl⟩; clear HH)
    | (go_at_call 9; (refine (HA.out _ (b0 _).bl).mono ?_); rintro e w1 ⟨⟨xx, rfl⟩, hb⟩; have b1 := (b0 _).step hb; clear HA; obtain ⟨u0, u1, u2⟩ := b1.cells; clear hb)
    | (go_at_call 9; (refine (HB.out _ b1.bl).mono ?_); rintro e w2 ⟨⟨yy, rfl⟩, hb⟩; have b2 := b1.step hb; clear u0 u1 u2 hb b1)
    | (go_at_call 17; refine (alive_any _ (b2.bl.sig HS.out)).mono ?_; rintro e w3 ⟨rfl, hb⟩))
  go_ret
  exact ⟨rfl, (b2.step hb).bl⟩
theorem mdv_b (A : Option Addr) (n c : Nat) (P : List Nd) (B : Option Addr) (p d : Nat) (Q : List Nd) (kk rk rt rv : Int) (w : World) (hs : SigT w) (h7 : n ≤ 70) (h8 : p ≤ 70) (k1 : 7 ≤ kk) (k2 : kk ≤ 19) (hn : P.length = n) (hp : Q.length = p) (ht : Lies w A (ndCells P)) (hu : Lies w B (ndCells Q)) (v z : Int) (h1 : errF P = 0) (hv : v = 0) (h2 : errF Q = z) (h0 : z ≠ 0) :
    Calls Tryd.prog 8 #[.slice A n c, .slice B p d, .int .u8 kk, .agg #[.int .i64 rk, .int .i64 rt, .int .i64 rv]] w fun e w' => e = .returned (.bool true) ∧ Below w.heap.size w w' := by
  subst hv
  have HG := Lib.hid (fun W => great_any A n c W false (decide_eq_false (by omega)))
  have HH := Lib.hid (fun W => great_any B p d W false (decide_eq_false (by omega)))
  have HA := Lib.hid (fun W (hb : Bl w W) => ofv_any A c n P ⟨rk, rt, rv⟩ W (hb.sig hs) hn (by unfold maxLen; omega) (hb.lies ht) _ h1)
  have HB := Lib.hid (fun W (hb : Bl w W) => ofv_any B d p Q ⟨rk, rt, rv⟩ W (hb.sig hs) hp (by unfold maxLen; omega) (hb.lies hu) _ h2)
  have hne := errno_ne h0
  have HS := Lib.hid hs
  have b0 := fun t => RB.start w rk rt rv t
  have j1 : ¬ kk < 7 := by omega
  have j2 : ¬ 19 < kk := by omega
  clear h0 h1 h2 hs hn hp ht hu
  go_enter Tryd.func8, Tryd.ntmps8
  go_wp2_with (first
    | (go_at_call 18; (with_reducible refine (HG.out _).mono ?_); rintro e w1 ⟨rfl, rfl⟩; clear HG)
    | (go_at_call 18; (with_reducible refine (HH.out _).mono ?_); rintro e w1 ⟨rfl, rfl⟩; clear HH)
    | (go_at_call 9; (refine (HA.out _ (b0 _).bl).mono ?_); rintro e w1 ⟨⟨xx, rfl⟩, hb⟩; have b1 := (b0 _).step hb; clear HA; obtain ⟨u0, u1, u2⟩ := b1.cells; clear hb)
    | (go_at_call 9; (refine (HB.out _ b1.bl).mono ?_); rintro e w2 ⟨⟨yy, rfl⟩, hb⟩; have b2 := b1.step hb; clear u0 u1 u2 hb b1)
    | (go_at_call 17; refine (alive_any _ (b2.bl.sig HS.out)).mono ?_; rintro e w3 ⟨rfl, hb⟩))
  go_ret
  exact ⟨rfl, (b2.step hb).bl⟩
set_option maxHeartbeats 2000000 in
theorem mdv_n4 (A : Option Addr) (n c : Nat) (P : List Nd) (B : Option Addr) (p d : Nat) (Q : List Nd) (kk rk rt rv : Int) (w : World) (hs : SigT w) (h7 : n ≤ 70) (h8 : p ≤ 70) (k1 : 7 ≤ kk) (k2 : kk ≤ 19) (hn : P.length = n) (hp : Q.length = p) (ht : Lies w A (ndCells P)) (hu : Lies w B (ndCells Q)) (m m2 : Nat) (E F : List Ex) (xx yy : Int) (hm : n = m + 1) (hm2 : p = m2 + 1) (hg : Good4 P E) (hf : Good4 Q F) (h1 : errF P = 0) (h2 : errF Q = 0) (hx : lastV ⟨rk, rt, rv⟩ P = xx) (hy : lastV ⟨rk, rt, rv⟩ Q = yy) (hc : checkF (made2 kk 0 0 P Q) = 4) :
    Calls Tryd.prog 8 #[.slice A n c, .slice B p d, .int .u8 kk, .agg #[.int .i64 rk, .int .i64 rt, .int .i64 rv]] w fun e w' => e = .returned (.bool true) ∧ Below w.heap.size w w' := by
  subst hm hm2
  have HG := Lib.hid (fun W => great_any A (m + 1) c W false (decide_eq_false (by omega)))
  have HH := Lib.hid (fun W => great_any B (m2 + 1) d W false (decide_eq_false (by omega)))
  have HA := Lib.hid (fun W (hb : Bl w W) => ofv_ok A c m P E ⟨rk, rt, rv⟩ W (hb.sig hs) hn (hb.lies ht) hg h1 xx hx)
  have HB := Lib.hid (fun W (hb : Bl w W) => ofv_ok B d m2 Q F ⟨rk, rt, rv⟩ W (hb.sig hs) hp (hb.lies hu) hf h2 yy hy)
  have HN := Lib.hid (fun PA pc W (hb : Bl w W) hpp => node_2 PA pc kk 0 0 W A c (m + 1) P hn (hb.lies ht) (checkF_ok hg) B d (m2 + 1) Q hp (hb.lies hu) (checkF_ok hf) hpp (by simp [okK]; omega) (by simp [fitsF]) (by unfold cnt; rw [if_neg (by omega), if_neg (by omega)]))
  have HNE := Lib.hid (fun PA pc W (hb : Bl w W) hpp => node_err (HN.out PA pc W hb hpp) hc (by decide))
  have HS := Lib.hid hs
  have b0 := fun t => RB.start w rk rt rv t
  have j1 : ¬ kk < 7 := by omega
  have j2 : ¬ 19 < kk := by omega
  clear hg hf h1 h2 hx hy hc HN hs hn hp ht hu
  go_enter Tryd.func8, Tryd.ntmps8
  go_wp2_with (first
    | (go_at_call 18; (with_reducible refine (HG.out _).mono ?_); rintro e w1 ⟨rfl, rfl⟩; clear HG)
    | (go_at_call 18; (with_reducible refine (HH.out _).mono ?_); rintro e w1 ⟨rfl, rfl⟩; clear HH)
    | (go_at_call 9; (refine (HA.out _ (b0 _).bl).mono ?_); rintro e w1 ⟨rfl, hb⟩; have b1 := (b0 _).step hb; clear HA; obtain ⟨u0, u1, u2⟩ := b1.cells; clear hb)
    | (go_at_call 9; (refine (HB.out _ b1.bl).mono ?_); rintro e w2 ⟨rfl, hb⟩; have b2 := b1.step hb; clear u0 u1 u2; obtain ⟨u0, u1, u2⟩ := b2.cells; clear HB hb b1)
    | (go_at_call 28; refine (HNE.out _ _ _ (b2.al _).bl (lies_vals w2 _ rfl _ _ _ rfl)).mono ?_; rintro e w3 ⟨rfl, hb⟩; have b3 := (b2.al _).step hb; clear u0 u1 u2; obtain ⟨u0, u1, u2⟩ := b3.cells; clear hb b2)
    | (go_at_call 17; refine (alive_any _ (b3.bl.sig HS.out)).mono ?_; rintro e w6 ⟨rfl, hb⟩))
  go_ret
  exact ⟨rfl, (b3.step hb).bl⟩
set_option maxHeartbeats 2000000 in
theorem mdv_n34 (A : Option Addr) (n c : Nat) (P : List Nd) (B : Option Addr) (p d : Nat) (Q : List Nd) (kk rk rt rv : Int) (w : World) (hs : SigT w) (h7 : n ≤ 70) (h8 : p ≤ 70) (k1 : 7 ≤ kk) (k2 : kk ≤ 19) (hn : P.length = n) (hp : Q.length = p) (ht : Lies w A (ndCells P)) (hu : Lies w B (ndCells Q)) (m m2 : Nat) (E F : List Ex) (xx yy : Int) (hm : n = m + 1) (hm2 : p = m2 + 1) (hg : Good4 P E) (hf : Good4 Q F) (h1 : errF P = 0) (h2 : errF Q = 0) (hx : lastV ⟨rk, rt, rv⟩ P = xx) (hy : lastV ⟨rk, rt, rv⟩ Q = yy) (hc : checkF (made2 kk 0 0 P Q) = 34) :
    Calls Tryd.prog 8 #[.slice A n c, .slice B p d, .int .u8 kk, .agg #[.int .i64 rk, .int .i64 rt, .int .i64 rv]] w fun e w' => e = .returned (.bool true) ∧ Below w.heap.size w w' := by
  subst hm hm2
  have HG := Lib.hid (fun W => great_any A (m + 1) c W false (decide_eq_false (by omega)))
  have HH := Lib.hid (fun W => great_any B (m2 + 1) d W false (decide_eq_false (by omega)))
  have HA := Lib.hid (fun W (hb : Bl w W) => ofv_ok A c m P E ⟨rk, rt, rv⟩ W (hb.sig hs) hn (hb.lies ht) hg h1 xx hx)
  have HB := Lib.hid (fun W (hb : Bl w W) => ofv_ok B d m2 Q F ⟨rk, rt, rv⟩ W (hb.sig hs) hp (hb.lies hu) hf h2 yy hy)
  have HN := Lib.hid (fun PA pc W (hb : Bl w W) hpp => node_2 PA pc kk 0 0 W A c (m + 1) P hn (hb.lies ht) (checkF_ok hg) B d (m2 + 1) Q hp (hb.lies hu) (checkF_ok hf) hpp (by simp [okK]; omega) (by simp [fitsF]) (by unfold cnt; rw [if_neg (by omega), if_neg (by omega)]))
  have HNE := Lib.hid (fun PA pc W (hb : Bl w W) hpp => node_err (HN.out PA pc W hb hpp) hc (by decide))
  have HS := Lib.hid hs
  have b0 := fun t => RB.start w rk rt rv t
  have j1 : ¬ kk < 7 := by omega
  have j2 : ¬ 19 < kk := by omega
  clear hg hf h1 h2 hx hy hc HN hs hn hp ht hu
  go_enter Tryd.func8, Tryd.ntmps8
  go_wp2_with (first
    | (go_at_call 18; (with_reducible refine (HG.out _).mono ?_); rintro e w1 ⟨rfl, rfl⟩; clear HG)
    | (go_at_call 18; (with_reducible refine (HH.out _).mono ?_); rintro e w1 ⟨rfl, rfl⟩; clear HH)
    | (go_at_call 9; (refine (HA.out _ (b0 _).bl).mono ?_); rintro e w1 ⟨rfl, hb⟩; have b1 := (b0 _).step hb; clear HA; obtain ⟨u0, u1, u2⟩ := b1.cells; clear hb)
    | (go_at_call 9; (refine (HB.out _ b1.bl).mono ?_); rintro e w2 ⟨rfl, hb⟩; have b2 := b1.step hb; clear u0 u1 u2; obtain ⟨u0, u1, u2⟩ := b2.cells; clear HB hb b1)
    | (go_at_call 28; refine (HNE.out _ _ _ (b2.al _).bl (lies_vals w2 _ rfl _ _ _ rfl)).mono ?_; rintro e w3 ⟨rfl, hb⟩; have b3 := (b2.al _).step hb; clear u0 u1 u2; obtain ⟨u0, u1, u2⟩ := b3.cells; clear hb b2)
    | (go_at_call 17; refine (alive_any _ (b3.bl.sig HS.out)).mono ?_; rintro e w6 ⟨rfl, hb⟩))
  go_ret
  exact ⟨rfl, (b3.step hb).bl⟩
set_option maxHeartbeats 2000000 in
theorem mdv_n42 (A : Option Addr) (n c : Nat) (P : List Nd) (B : Option Addr) (p d : Nat) (Q : List Nd) (kk rk rt rv : Int) (w : World) (hs : SigT w) (h7 : n ≤ 70) (h8 : p ≤ 70) (k1 : 7 ≤ kk) (k2 : kk ≤ 19) (hn : P.length = n) (hp : Q.length = p) (ht : Lies w A (ndCells P)) (hu : Lies w B (ndCells Q)) (m m2 : Nat) (E F : List Ex) (xx yy : Int) (hm : n = m + 1) (hm2 : p = m2 + 1) (hg : Good4 P E) (hf : Good4 Q F) (h1 : errF P = 0) (h2 : errF Q = 0) (hx : lastV ⟨rk, rt, rv⟩ P = xx) (hy : lastV ⟨rk, rt, rv⟩ Q = yy) (hc : checkF (made2 kk 0 0 P Q) = 0) (he : errF (made2 kk 0 0 P Q) = 42) :
    Calls Tryd.prog 8 #[.slice A n c, .slice B p d, .int .u8 kk, .agg #[.int .i64 rk, .int .i64 rt, .int .i64 rv]] w fun e w' => e = .returned (.bool true) ∧ Below w.heap.size w w' := by
  subst hm hm2
  have HG := Lib.hid (fun W => great_any A (m + 1) c W false (decide_eq_false (by omega)))
  have HH := Lib.hid (fun W => great_any B (m2 + 1) d W false (decide_eq_false (by omega)))
  have HA := Lib.hid (fun W (hb : Bl w W) => ofv_ok A c m P E ⟨rk, rt, rv⟩ W (hb.sig hs) hn (hb.lies ht) hg h1 xx hx)
  have HB := Lib.hid (fun W (hb : Bl w W) => ofv_ok B d m2 Q F ⟨rk, rt, rv⟩ W (hb.sig hs) hp (hb.lies hu) hf h2 yy hy)
  have HN := Lib.hid (fun PA pc W (hb : Bl w W) hpp => node_2 PA pc kk 0 0 W A c (m + 1) P hn (hb.lies ht) (checkF_ok hg) B d (m2 + 1) Q hp (hb.lies hu) (checkF_ok hf) hpp (by simp [okK]; omega) (by simp [fitsF]) (by unfold cnt; rw [if_neg (by omega), if_neg (by omega)]))
  have HNE := Lib.hid (fun PA pc W (hb : Bl w W) hpp => node_ok (HN.out PA pc W hb hpp) hc (n := m + m2 + 2 + 1) (by rw [made2_len, hn, hp]; omega))
  have h60 := (checkF_zero hc).choose_spec.2.1
  rw [made2_len, hn, hp] at h60
  have HO := Lib.hid (fun C cc W (hb : Bl w W) hl => ofv_bad C cc (m + m2 + 2 + 1) (made2 kk 0 0 P Q) ⟨rk, rt, rv⟩ W (hb.sig hs) (by rw [made2_len, hn, hp]; omega) (by unfold maxLen; omega) hl 42 he (by decide))
  have HD := Lib.hid (fun W => do_op kk xx yy (by omega) k2 W)
  have HS := Lib.hid hs
  have b0 := fun t => RB.start w rk rt rv t
  have j1 : ¬ kk < 7 := by omega
  have j2 : ¬ 19 < kk := by omega
  clear hg hf h1 h2 hx hy hc he HN hs hn hp ht hu
  go_enter Tryd.func8, Tryd.ntmps8
  go_wp2_with (first
    | (go_at_call 18; (with_reducible refine (HG.out _).mono ?_); rintro e w1 ⟨rfl, rfl⟩; clear HG)
    | (go_at_call 18; (with_reducible refine (HH.out _).mono ?_); rintro e w1 ⟨rfl, rfl⟩; clear HH)
    | (go_at_call 9; (refine (HA.out _ (b0 _).bl).mono ?_); rintro e w1 ⟨rfl, hb⟩; have b1 := (b0 _).step hb; clear HA; obtain ⟨u0, u1, u2⟩ := b1.cells; clear hb)
    | (go_at_call 9; (refine (HB.out _ b1.bl).mono ?_); rintro e w2 ⟨rfl, hb⟩; have b2 := b1.step hb; clear u0 u1 u2; obtain ⟨u0, u1, u2⟩ := b2.cells; clear HB hb b1)
    | (go_at_call 28; refine (HNE.out _ _ _ (b2.al _).bl (lies_vals w2 _ rfl _ _ _ rfl)).mono ?_; rintro e w3 ⟨C, cc, rfl, lc, hb⟩; have b3 := (b2.al _).step hb; clear u0 u1 u2; obtain ⟨u0, u1, u2⟩ := b3.cells; clear hb b2)
    | (go_at_call 9; (refine (HO.out _ _ _ b3.bl lc).mono ?_); rintro e w4 ⟨rfl, hb⟩; have b4 := b3.step hb; clear hb b3)
    | (go_at_call 26; refine (HD.out _).mono ?_; rintro e w5 ⟨rfl, rfl⟩)
    | (go_at_call 17; refine (alive_any _ (b4.bl.sig HS.out)).mono ?_; rintro e w6 ⟨rfl, hb⟩))
  go_ret
  exact ⟨rfl, (b4.step hb).bl⟩
set_option maxHeartbeats 2000000 in
theorem mdv_nok (A : Option Addr) (n c : Nat) (P : List Nd) (B : Option Addr) (p d : Nat) (Q : List Nd) (kk rk rt rv : Int) (w : World) (hs : SigT w) (h7 : n ≤ 70) (h8 : p ≤ 70) (k1 : 7 ≤ kk) (k2 : kk ≤ 19) (hn : P.length = n) (hp : Q.length = p) (ht : Lies w A (ndCells P)) (hu : Lies w B (ndCells Q)) (m m2 : Nat) (E F : List Ex) (xx yy : Int) (hm : n = m + 1) (hm2 : p = m2 + 1) (hg : Good4 P E) (hf : Good4 Q F) (h1 : errF P = 0) (h2 : errF Q = 0) (hx : lastV ⟨rk, rt, rv⟩ P = xx) (hy : lastV ⟨rk, rt, rv⟩ Q = yy) (G : List Ex) (hc : checkF (made2 kk 0 0 P Q) = 0) (he : errF (made2 kk 0 0 P Q) = 0) (hgg : Good4 (made2 kk 0 0 P Q) G) (hv : lastV ⟨rk, rt, rv⟩ (made2 kk 0 0 P Q) = opV kk xx yy) :
    Calls Tryd.prog 8 #[.slice A n c, .slice B p d, .int .u8 kk, .agg #[.int .i64 rk, .int .i64 rt, .int .i64 rv]] w fun e w' => e = .returned (.bool true) ∧ Below w.heap.size w w' := by
  subst hm hm2
  have HG := Lib.hid (fun W => great_any A (m + 1) c W false (decide_eq_false (by omega)))
  have HH := Lib.hid (fun W => great_any B (m2 + 1) d W false (decide_eq_false (by omega)))
  have HA := Lib.hid (fun W (hb : Bl w W) => ofv_ok A c m P E ⟨rk, rt, rv⟩ W (hb.sig hs) hn (hb.lies ht) hg h1 xx hx)
  have HB := Lib.hid (fun W (hb : Bl w W) => ofv_ok B d m2 Q F ⟨rk, rt, rv⟩ W (hb.sig hs) hp (hb.lies hu) hf h2 yy hy)
  have HN := Lib.hid (fun PA pc W (hb : Bl w W) hpp => node_2 PA pc kk 0 0 W A c (m + 1) P hn (hb.lies ht) (checkF_ok hg) B d (m2 + 1) Q hp (hb.lies hu) (checkF_ok hf) hpp (by simp [okK]; omega) (by simp [fitsF]) (by unfold cnt; rw [if_neg (by omega), if_neg (by omega)]))
  have HNE := Lib.hid (fun PA pc W (hb : Bl w W) hpp => node_ok (HN.out PA pc W hb hpp) hc (n := m + m2 + 2 + 1) (by rw [made2_len, hn, hp]; omega))
  have HO := Lib.hid (fun C cc W (hb : Bl w W) hl => ofv_ok C cc (m + m2 + 2) (made2 kk 0 0 P Q) G ⟨rk, rt, rv⟩ W (hb.sig hs) (by rw [made2_len, hn, hp]; omega) hl hgg he _ hv)
  have HD := Lib.hid (fun W => do_op kk xx yy (by omega) k2 W)
  have HS := Lib.hid hs
  have b0 := fun t => RB.start w rk rt rv t
  have j1 : ¬ kk < 7 := by omega
  have j2 : ¬ 19 < kk := by omega
  clear hg hf h1 h2 hx hy hc he hgg HN hs hn hp ht hu
  go_enter Tryd.func8, Tryd.ntmps8
  go_wp2_with (first
    | (go_at_call 18; (with_reducible refine (HG.out _).mono ?_); rintro e w1 ⟨rfl, rfl⟩; clear HG)
    | (go_at_call 18; (with_reducible refine (HH.out _).mono ?_); rintro e w1 ⟨rfl, rfl⟩; clear HH)
    | (go_at_call 9; (refine (HA.out _ (b0 _).bl).mono ?_); rintro e w1 ⟨rfl, hb⟩; have b1 := (b0 _).step hb; clear HA; obtain ⟨u0, u1, u2⟩ := b1.cells; clear hb)
    | (go_at_call 9; (refine (HB.out _ b1.bl).mono ?_); rintro e w2 ⟨rfl, hb⟩; have b2 := b1.step hb; clear u0 u1 u2; obtain ⟨u0, u1, u2⟩ := b2.cells; clear HB hb b1)
    | (go_at_call 28; refine (HNE.out _ _ _ (b2.al _).bl (lies_vals w2 _ rfl _ _ _ rfl)).mono ?_; rintro e w3 ⟨C, cc, rfl, lc, hb⟩; have b3 := (b2.al _).step hb; clear u0 u1 u2; obtain ⟨u0, u1, u2⟩ := b3.cells; clear hb b2)
    | (go_at_call 9; (refine (HO.out _ _ _ b3.bl lc).mono ?_); rintro e w4 ⟨rfl, hb⟩; have b4 := b3.step hb; clear hb b3)
    | (go_at_call 26; refine (HD.out _).mono ?_; rintro e w5 ⟨rfl, rfl⟩)
    | (go_at_call 17; refine (alive_any _ (b4.bl.sig HS.out)).mono ?_; rintro e w6 ⟨rfl, hb⟩))
  go_ret
  exact ⟨rfl, (b4.step hb).bl⟩
theorem EvalsMade_walk (A : Option Addr) (c : Nat) (P : List Nd) (B : Option Addr) (d : Nat) (Q : List Nd) (kk rk rt rv : Int) (w : World)
    (hL : P.length ≤ maxLen) (hp : Lies w A (ndCells P)) (hnc : P.length ≤ c) (hA : (A = none ∧ c = 0 ∧ P = []) ∨ ∃ ad, A = some ad) (_ : ∀ x ∈ P, x.n ≤ 9223372036854775807)
    (hM : Q.length ≤ maxLen) (hq : Lies w B (ndCells Q)) (hmd : Q.length ≤ d) (hB : (B = none ∧ d = 0 ∧ Q = []) ∨ ∃ ad, B = some ad) (_ : ∀ x ∈ Q, x.n ≤ 9223372036854775807) (_ : (Lit.int .u8 kk).wf = true) (hr : RcIn ⟨rk, rt, rv⟩) (hs : SigT w) :
    Calls Tryd.prog 8 #[.slice A P.length c, .slice B Q.length d, .int .u8 kk, .agg #[.int .i64 rk, .int .i64 rt, .int .i64 rv]] w fun e w' => e = .returned (.bool true) ∧ Below w.heap.size w w' := by
  by_cases h7 : 70 < P.length
  · exact mdv_g1 A _ c P B _ d Q kk rk rt rv w hs h7
  by_cases h8 : 70 < Q.length
  · exact mdv_g2 A _ c P B _ d Q kk rk rt rv w hs h7 h8
  by_cases k1 : kk < 7
  · exact mdv_k1 A _ c P B _ d Q kk rk rt rv w hs h7 h8 k1
  by_cases k2 : 19 < kk
  · exact mdv_k2 A _ c P B _ d Q kk rk rt rv w hs h7 h8 k1 k2
  rcases err_cases P with ⟨t, a, v, h1, h2, h3⟩ | ⟨t, m, E, h1, h2, hg, hn, hc1, _⟩
  · exact mdv_a A _ c P B _ d Q kk rk rt rv w hs (by omega) (by omega) (by omega) (by omega) rfl rfl hp hq v _ h2 h3 rfl
  rcases err_cases Q with ⟨t', a', v', h1', h2', h3'⟩ | ⟨t', m2, F, h1', h2', hf, hn', hc2, _⟩
  · exact mdv_b A _ c P B _ d Q kk rk rt rv w hs (by omega) (by omega) (by omega) (by omega) rfl rfl hp hq 0 v' h2 rfl h2' h3'
  rcases made2_check (k := kk) hg hf (by omega) (by omega) with hck | hck | hck
  · have hof := made2_of hg hf (by omega : 6 < kk) h1 h1' hck
    obtain ⟨G, hgg⟩ := checkF_zero hck
    cases hfit : fitK kk t t'
    · rw [hfit, if_neg (by decide)] at hof
      exact mdv_n42 A _ c P B _ d Q kk rk rt rv w hs (by omega) (by omega) (by omega) (by omega) rfl rfl hp hq m m2 E F _ _ hn hn' hg hf h2 h2' rfl rfl hck (by unfold errF; rw [hof])
    · rw [hfit, if_pos rfl] at hof
      have e1 := last_at ⟨rk, rt, rv⟩ hn
      have e2 := last_at ⟨rk, rt, rv⟩ hn'
      have hv := vals_made2 ⟨rk, rt, rv⟩ hg hf (by omega : 6 < kk) hck (u := lastV ⟨rk, rt, rv⟩ P) (v := lastV ⟨rk, rt, rv⟩ Q) (by rw [hn]; exact e1) (by rw [hn']; exact e2)
      have e3 := last_at ⟨rk, rt, rv⟩ (made2_len (P := P) (Q := Q) (k := kk))
      rw [e3] at hv
      injection hv with hv
      exact mdv_nok A _ c P B _ d Q kk rk rt rv w hs (by omega) (by omega) (by omega) (by omega) rfl rfl hp hq m m2 E F _ _ hn hn' hg hf h2 h2' rfl rfl G hck (by unfold errF; rw [hof]) hgg hv
  · exact mdv_n4 A _ c P B _ d Q kk rk rt rv w hs (by omega) (by omega) (by omega) (by omega) rfl rfl hp hq m m2 E F _ _ hn hn' hg hf h2 h2' rfl rfl hck
  · exact mdv_n34 A _ c P B _ d Q kk rk rt rv w hs (by omega) (by omega) (by omega) (by omega) rfl rfl hp hq m m2 E F _ _ hn hn' hg hf h2 h2' rfl rfl hck
end Go.Proofs.YtajchaknfkfljaaDoor.V7
