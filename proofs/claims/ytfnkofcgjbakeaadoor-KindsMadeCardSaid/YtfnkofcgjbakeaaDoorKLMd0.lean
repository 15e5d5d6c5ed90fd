/- KindsMade: where it asks for nothing, and kinds with one part. -/
import Derived.Test.YtfnkofcgjbakeaaDoorKAlive
namespace Go.Proofs.YtfnkofcgjbakeaaDoor.K6
open Go.ChangeShapes Go.WideShapes Go.ChangeAt Go.RowKit N4
set_option linter.unusedVariables false
set_option linter.unusedSimpArgs false
set_option maxRecDepth 100000

theorem node_few (PA : Option Addr) (pc : Nat) (k : Int) (w : World) (h0 : okK k = true) (hc : cnt k = 2) :
    Calls Tryd.prog 27 #[.int .u8 k, .int .i64 0, .int .i64 0, .slice PA 1 pc] w fun e w' => e = .returned (.tuple #[.slice none 0 0, .int .i64 2]) ∧ Below w.heap.size w w' := by
  have HP := Lib.hid (fun w => show Calls Tryd.prog 26 #[.int .u8 k] w fun e w' => e = .returned (.tuple #[.int .i64 2, .int .i64 0]) ∧ w = w' by have := parts_any k w; rwa [show partsN k = 2 from partsN_of h0 hc, show partsE k = 0 by simp [partsE, h0]] at this)
  clear h0 hc
  go_enter Tryd.func27, Tryd.ntmps27
  go_wp2_with (go_at_call 26; refine (HP.out _).mono ?_; rintro e w' ⟨rfl, rfl⟩)
  go_ret2
  exact ⟨rfl, Below.refl _ _⟩
theorem md_g1 (A : Option Addr) (n c : Nat) (B : Option Addr) (m d : Nat) (kk : Int) (w : World) (hs : SigT w) (h : 70 < n) :
    Calls Tryd.prog 7 #[.slice A n c, .slice B m d, .int .u8 kk] w fun e w' => e = .returned (.bool true) ∧ Below w.heap.size w w' := by
  have HG := Lib.hid (great_any A n c w true (decide_eq_true h))
  have HS := Lib.hid hs
  clear h hs
  go_enter Tryd.func7, Tryd.ntmps7
  go_wp2_with (first
    | (go_at_call 18; (with_reducible refine HG.out.mono ?_); rintro e w1 ⟨rfl, rfl⟩)
    | (go_at_call 17; refine (alive_any _ HS.out).mono ?_; rintro e w1 ⟨rfl, hb⟩))
  go_ret
  exact ⟨rfl, hb⟩
theorem md_g2 (A : Option Addr) (n c : Nat) (B : Option Addr) (m d : Nat) (kk : Int) (w : World) (hs : SigT w) (h0 : ¬ 70 < n) (h : 70 < m) :
    Calls Tryd.prog 7 #[.slice A n c, .slice B m d, .int .u8 kk] w fun e w' => e = .returned (.bool true) ∧ Below w.heap.size w w' := by
  have HG := Lib.hid (great_any A n c w false (decide_eq_false h0))
  have HG2 := Lib.hid (great_any B m d w true (decide_eq_true h))
  have HS := Lib.hid hs
  clear h hs h0
  go_enter Tryd.func7, Tryd.ntmps7
  go_wp2_with (first
    | (go_at_call 18; (with_reducible refine HG.out.mono ?_); rintro e w1 ⟨rfl, rfl⟩; clear HG)
    | (go_at_call 18; (with_reducible refine HG2.out.mono ?_); rintro e w1 ⟨rfl, rfl⟩)
    | (go_at_call 17; refine (alive_any _ HS.out).mono ?_; rintro e w1 ⟨rfl, hb⟩))
  go_ret
  exact ⟨rfl, hb⟩
set_option maxHeartbeats 1000000 in
theorem md_no_p (A : Option Addr) (n c : Nat) (P : List Nd) (B : Option Addr) (m d : Nat) (Q : List Nd) (kk pn pe : Int) (w : World) (hs : SigT w) (hn : P.length = n) (hm : Q.length = m) (h7 : n ≤ 70) (h8 : m ≤ 70) (hp : Lies w A (ndCells P)) (hq : Lies w B (ndCells Q)) (xt yt : Bool) (xa xe ya ye : Int) (ho1 : ofF P = (xt, xa, xe)) (ho2 : ofF Q = (yt, ya, ye)) (hpn : partsN kk = pn) (hpe : partsE kk = pe) (h : pe ≠ 0) :
    Calls Tryd.prog 7 #[.slice A n c, .slice B m d, .int .u8 kk] w fun e w' => e = .returned (.bool true) ∧ Below w.heap.size w w' := by
  have HG := Lib.hid (great_any A n c w false (decide_eq_false (by omega)))
  have HG2 := Lib.hid (great_any B m d w false (decide_eq_false (by omega)))
  have HOA := Lib.hid (fun W (hb : Bl w W) => of_any A c n P W (hb.sig hs) hn (by unfold maxLen; omega) (hb.lies hp) xt xa xe ho1)
  have HOB := Lib.hid (fun W (hb : Bl w W) => of_any B d m Q W (hb.sig hs) hm (by unfold maxLen; omega) (hb.lies hq) yt ya ye ho2)
  have HS := Lib.hid hs
  have HP := Lib.hid (fun W => show Calls Tryd.prog 26 #[.int .u8 kk] W fun e w' => e = .returned (.tuple #[.int .i64 pn, .int .i64 pe]) ∧ W = w' by have := parts_any kk W; rwa [hpn, hpe] at this)
  clear hs hn hm hp hq ho1 ho2 hpn hpe
  have hne := (bne_iff_ne (a := pe) (b := 0)).2 h
  clear h
  go_enter Tryd.func7, Tryd.ntmps7
  go_wp2_with (first
    | (go_at_call 18; (with_reducible refine HG.out.mono ?_); rintro e w1 ⟨rfl, rfl⟩; have b0 := Bl.start w; clear HG)
    | (go_at_call 18; (with_reducible refine HG2.out.mono ?_); rintro e w1 ⟨rfl, rfl⟩)
    | (go_at_call 26; refine (HP.out _).mono ?_; rintro e w1 ⟨rfl, rfl⟩)
    | (go_at_call 12; (with_reducible refine (HOA.out _ b0).mono ?_); rintro e w1 ⟨rfl, hb⟩; have b1 := b0.step hb; clear hb b0)
    | (go_at_call 12; (with_reducible refine (HOB.out _ b1).mono ?_); rintro e w2 ⟨rfl, hb⟩; have b2 := b1.step hb; clear hb b1)
    | (go_at_call 17; refine (alive_any _ (b2.sig HS.out)).mono ?_; rintro e w9 ⟨rfl, hb⟩; have b9 := b2.step hb; clear hb))
  go_ret
  exact ⟨rfl, b9⟩
set_option maxHeartbeats 1000000 in
theorem md_no_a (A : Option Addr) (n c : Nat) (P : List Nd) (B : Option Addr) (m d : Nat) (Q : List Nd) (kk pn pe : Int) (w : World) (hs : SigT w) (hn : P.length = n) (hm : Q.length = m) (h7 : n ≤ 70) (h8 : m ≤ 70) (hp : Lies w A (ndCells P)) (hq : Lies w B (ndCells Q)) (xt yt : Bool) (xa xe ya ye : Int) (ho1 : ofF P = (xt, xa, xe)) (ho2 : ofF Q = (yt, ya, ye)) (hpn : partsN kk = pn) (hpe : partsE kk = pe) (h0 : pe = 0) (h : xe ≠ 0) :
    Calls Tryd.prog 7 #[.slice A n c, .slice B m d, .int .u8 kk] w fun e w' => e = .returned (.bool true) ∧ Below w.heap.size w w' := by
  have HG := Lib.hid (great_any A n c w false (decide_eq_false (by omega)))
  have HG2 := Lib.hid (great_any B m d w false (decide_eq_false (by omega)))
  have HOA := Lib.hid (fun W (hb : Bl w W) => of_any A c n P W (hb.sig hs) hn (by unfold maxLen; omega) (hb.lies hp) xt xa xe ho1)
  have HOB := Lib.hid (fun W (hb : Bl w W) => of_any B d m Q W (hb.sig hs) hm (by unfold maxLen; omega) (hb.lies hq) yt ya ye ho2)
  have HS := Lib.hid hs
  have HP := Lib.hid (fun W => show Calls Tryd.prog 26 #[.int .u8 kk] W fun e w' => e = .returned (.tuple #[.int .i64 pn, .int .i64 pe]) ∧ W = w' by have := parts_any kk W; rwa [hpn, hpe] at this)
  clear hs hn hm hp hq ho1 ho2 hpn hpe
  subst h0
  have hne := (bne_iff_ne (a := xe) (b := 0)).2 h
  clear h
  go_enter Tryd.func7, Tryd.ntmps7
  go_wp2_with (first
    | (go_at_call 18; (with_reducible refine HG.out.mono ?_); rintro e w1 ⟨rfl, rfl⟩; have b0 := Bl.start w; clear HG)
    | (go_at_call 18; (with_reducible refine HG2.out.mono ?_); rintro e w1 ⟨rfl, rfl⟩)
    | (go_at_call 26; refine (HP.out _).mono ?_; rintro e w1 ⟨rfl, rfl⟩)
    | (go_at_call 12; (with_reducible refine (HOA.out _ b0).mono ?_); rintro e w1 ⟨rfl, hb⟩; have b1 := b0.step hb; clear hb b0)
    | (go_at_call 12; (with_reducible refine (HOB.out _ b1).mono ?_); rintro e w2 ⟨rfl, hb⟩; have b2 := b1.step hb; clear hb b1)
    | (go_at_call 17; refine (alive_any _ (b2.sig HS.out)).mono ?_; rintro e w9 ⟨rfl, hb⟩; have b9 := b2.step hb; clear hb))
  go_ret
  exact ⟨rfl, b9⟩
set_option maxHeartbeats 1000000 in
theorem md_no_b (A : Option Addr) (n c : Nat) (P : List Nd) (B : Option Addr) (m d : Nat) (Q : List Nd) (kk pn pe : Int) (w : World) (hs : SigT w) (hn : P.length = n) (hm : Q.length = m) (h7 : n ≤ 70) (h8 : m ≤ 70) (hp : Lies w A (ndCells P)) (hq : Lies w B (ndCells Q)) (xt yt : Bool) (xa xe ya ye : Int) (ho1 : ofF P = (xt, xa, xe)) (ho2 : ofF Q = (yt, ya, ye)) (hpn : partsN kk = pn) (hpe : partsE kk = pe) (h0 : pe = 0) (h1 : xe = 0) (h : ye ≠ 0) :
    Calls Tryd.prog 7 #[.slice A n c, .slice B m d, .int .u8 kk] w fun e w' => e = .returned (.bool true) ∧ Below w.heap.size w w' := by
  have HG := Lib.hid (great_any A n c w false (decide_eq_false (by omega)))
  have HG2 := Lib.hid (great_any B m d w false (decide_eq_false (by omega)))
  have HOA := Lib.hid (fun W (hb : Bl w W) => of_any A c n P W (hb.sig hs) hn (by unfold maxLen; omega) (hb.lies hp) xt xa xe ho1)
  have HOB := Lib.hid (fun W (hb : Bl w W) => of_any B d m Q W (hb.sig hs) hm (by unfold maxLen; omega) (hb.lies hq) yt ya ye ho2)
  have HS := Lib.hid hs
  have HP := Lib.hid (fun W => show Calls Tryd.prog 26 #[.int .u8 kk] W fun e w' => e = .returned (.tuple #[.int .i64 pn, .int .i64 pe]) ∧ W = w' by have := parts_any kk W; rwa [hpn, hpe] at this)
  clear hs hn hm hp hq ho1 ho2 hpn hpe
  subst h0 h1
  have hne := (bne_iff_ne (a := ye) (b := 0)).2 h
  clear h
  go_enter Tryd.func7, Tryd.ntmps7
  go_wp2_with (first
    | (go_at_call 18; (with_reducible refine HG.out.mono ?_); rintro e w1 ⟨rfl, rfl⟩; have b0 := Bl.start w; clear HG)
    | (go_at_call 18; (with_reducible refine HG2.out.mono ?_); rintro e w1 ⟨rfl, rfl⟩)
    | (go_at_call 26; refine (HP.out _).mono ?_; rintro e w1 ⟨rfl, rfl⟩)
    | (go_at_call 12; (with_reducible refine (HOA.out _ b0).mono ?_); rintro e w1 ⟨rfl, hb⟩; have b1 := b0.step hb; clear hb b0)
    | (go_at_call 12; (with_reducible refine (HOB.out _ b1).mono ?_); rintro e w2 ⟨rfl, hb⟩; have b2 := b1.step hb; clear hb b1)
    | (go_at_call 17; refine (alive_any _ (b2.sig HS.out)).mono ?_; rintro e w9 ⟨rfl, hb⟩; have b9 := b2.step hb; clear hb))
  go_ret
  exact ⟨rfl, b9⟩
set_option maxHeartbeats 1000000 in
theorem md_no_z (A : Option Addr) (n c : Nat) (P : List Nd) (B : Option Addr) (m d : Nat) (Q : List Nd) (kk pn pe : Int) (w : World) (hs : SigT w) (hn : P.length = n) (hm : Q.length = m) (h7 : n ≤ 70) (h8 : m ≤ 70) (hp : Lies w A (ndCells P)) (hq : Lies w B (ndCells Q)) (xt yt : Bool) (xa xe ya ye : Int) (ho1 : ofF P = (xt, xa, xe)) (ho2 : ofF Q = (yt, ya, ye)) (hpn : partsN kk = pn) (hpe : partsE kk = pe) (h0 : pe = 0) (h1 : xe = 0) (h2 : ye = 0) (h : pn = 0) :
    Calls Tryd.prog 7 #[.slice A n c, .slice B m d, .int .u8 kk] w fun e w' => e = .returned (.bool true) ∧ Below w.heap.size w w' := by
  have HG := Lib.hid (great_any A n c w false (decide_eq_false (by omega)))
  have HG2 := Lib.hid (great_any B m d w false (decide_eq_false (by omega)))
  have HOA := Lib.hid (fun W (hb : Bl w W) => of_any A c n P W (hb.sig hs) hn (by unfold maxLen; omega) (hb.lies hp) xt xa xe ho1)
  have HOB := Lib.hid (fun W (hb : Bl w W) => of_any B d m Q W (hb.sig hs) hm (by unfold maxLen; omega) (hb.lies hq) yt ya ye ho2)
  have HS := Lib.hid hs
  have HP := Lib.hid (fun W => show Calls Tryd.prog 26 #[.int .u8 kk] W fun e w' => e = .returned (.tuple #[.int .i64 pn, .int .i64 pe]) ∧ W = w' by have := parts_any kk W; rwa [hpn, hpe] at this)
  clear hs hn hm hp hq ho1 ho2 hpn hpe
  subst h0 h1 h2 h
  go_enter Tryd.func7, Tryd.ntmps7
  go_wp2_with (first
    | (go_at_call 18; (with_reducible refine HG.out.mono ?_); rintro e w1 ⟨rfl, rfl⟩; have b0 := Bl.start w; clear HG)
    | (go_at_call 18; (with_reducible refine HG2.out.mono ?_); rintro e w1 ⟨rfl, rfl⟩)
    | (go_at_call 26; refine (HP.out _).mono ?_; rintro e w1 ⟨rfl, rfl⟩)
    | (go_at_call 12; (with_reducible refine (HOA.out _ b0).mono ?_); rintro e w1 ⟨rfl, hb⟩; have b1 := b0.step hb; clear hb b0)
    | (go_at_call 12; (with_reducible refine (HOB.out _ b1).mono ?_); rintro e w2 ⟨rfl, hb⟩; have b2 := b1.step hb; clear hb b1)
    | (go_at_call 17; refine (alive_any _ (b2.sig HS.out)).mono ?_; rintro e w9 ⟨rfl, hb⟩; have b9 := b2.step hb; clear hb))
  go_ret
  exact ⟨rfl, b9⟩
set_option maxHeartbeats 2000000 in
theorem md_u5_true_ok (A : Option Addr) (n c : Nat) (P : List Nd) (B : Option Addr) (m d : Nat) (Q : List Nd) (w : World) (hs : SigT w) (hn : P.length = n) (hm : Q.length = m) (h7 : n ≤ 60) (h8 : m ≤ 70) (hp : Lies w A (ndCells P)) (hq : Lies w B (ndCells Q)) (yt : Bool) (xa ya : Int) (ho1 : ofF P = (true, xa, 0)) (ho2 : ofF Q = (yt, ya, 0)) (hc1 : checkF P = 0) (hck : checkF (made1 5 0 0 P) = 0) (hol : ofF (made1 5 0 0 P) = (false, (n : Int), 42)) :
    Calls Tryd.prog 7 #[.slice A n c, .slice B m d, .int .u8 5] w fun e w' => e = .returned (.bool true) ∧ Below w.heap.size w w' := by
  have HG := Lib.hid (great_any A n c w false (decide_eq_false (by omega)))
  have HG2 := Lib.hid (great_any B m d w false (decide_eq_false (by omega)))
  have HOA := Lib.hid (fun W (hb : Bl w W) => of_any A c n P W (hb.sig hs) hn (by unfold maxLen; omega) (hb.lies hp) true xa 0 ho1)
  have HOB := Lib.hid (fun W (hb : Bl w W) => of_any B d m Q W (hb.sig hs) hm (by unfold maxLen; omega) (hb.lies hq) yt ya 0 ho2)
  have HS := Lib.hid hs
  have HP := Lib.hid (fun W => show Calls Tryd.prog 26 #[.int .u8 5] W fun e w' => e = .returned (.tuple #[.int .i64 1, .int .i64 0]) ∧ W = w' from parts_any 5 W)
  have HN := Lib.hid (fun PA pc W (hb : Bl w W) (hl : Lies W PA [.slice A n c]) => node_ok (n := n + 1) (node_1 PA pc 5 0 0 W A c n P hn (hb.lies hp) hc1 hl rfl rfl rfl) hck (by rw [made1_len, hn]))
  have HOL := Lib.hid (fun D e W (hb : Bl w W) hl => of_any D e (n + 1) (made1 5 0 0 P) W (hb.sig hs) (by rw [made1_len, hn]) (by unfold maxLen; omega) hl _ _ _ hol)
  have e1 : ((n + 1 : Nat) : Int) - 1 = n := by omega
  clear hs hn hm hp hq ho1 ho2 hc1 hck hol
  go_enter Tryd.func7, Tryd.ntmps7
  go_wp2_with (first
    | (go_at_call 18; (with_reducible refine HG.out.mono ?_); rintro e w1 ⟨rfl, rfl⟩; have b0 := Bl.start w; clear HG)
    | (go_at_call 18; (with_reducible refine HG2.out.mono ?_); rintro e w1 ⟨rfl, rfl⟩)
    | (go_at_call 26; refine (HP.out _).mono ?_; rintro e w1 ⟨rfl, rfl⟩)
    | (go_at_call 12; (with_reducible refine (HOA.out _ b0).mono ?_); rintro e w1 ⟨rfl, hb⟩; have b1 := b0.step hb; clear hb b0)
    | (go_at_call 12; (with_reducible refine (HOB.out _ b1).mono ?_); rintro e w2 ⟨rfl, hb⟩; have b2 := b1.step hb; clear hb b1)
    | (go_at_call 27; refine (HN.out _ _ _ (b2.al _) (lies_vals w2 _ rfl _ _ _ rfl)).mono ?_; rintro e w3 ⟨A3, c3, rfl, hl3, hb⟩; have b3 := (b2.al _).step hb; have HL3 := Lib.hid hl3; clear hb b2 hl3)
    | (go_at_call 12; (with_reducible refine (HOL.out _ _ _ b3 HL3.out).mono ?_); rintro e w4 ⟨rfl, hb⟩; have b4 := b3.step hb; clear hb b3)
    | (go_at_call 17; refine (alive_any _ (b4.sig HS.out)).mono ?_; rintro e w9 ⟨rfl, hb⟩; have b9 := b4.step hb; clear hb))
  go_ret
  exact ⟨rfl, b9⟩
set_option maxHeartbeats 2000000 in
theorem md_u5_true_4 (A : Option Addr) (n c : Nat) (P : List Nd) (B : Option Addr) (m d : Nat) (Q : List Nd) (w : World) (hs : SigT w) (hn : P.length = n) (hm : Q.length = m) (h7 : n ≤ 60) (h8 : m ≤ 70) (hp : Lies w A (ndCells P)) (hq : Lies w B (ndCells Q)) (yt : Bool) (xa ya : Int) (ho1 : ofF P = (true, xa, 0)) (ho2 : ofF Q = (yt, ya, 0)) (hc1 : checkF P = 0) (hck : checkF (made1 5 0 0 P) = 4) :
    Calls Tryd.prog 7 #[.slice A n c, .slice B m d, .int .u8 5] w fun e w' => e = .returned (.bool true) ∧ Below w.heap.size w w' := by
  have HG := Lib.hid (great_any A n c w false (decide_eq_false (by omega)))
  have HG2 := Lib.hid (great_any B m d w false (decide_eq_false (by omega)))
  have HOA := Lib.hid (fun W (hb : Bl w W) => of_any A c n P W (hb.sig hs) hn (by unfold maxLen; omega) (hb.lies hp) true xa 0 ho1)
  have HOB := Lib.hid (fun W (hb : Bl w W) => of_any B d m Q W (hb.sig hs) hm (by unfold maxLen; omega) (hb.lies hq) yt ya 0 ho2)
  have HS := Lib.hid hs
  have HP := Lib.hid (fun W => show Calls Tryd.prog 26 #[.int .u8 5] W fun e w' => e = .returned (.tuple #[.int .i64 1, .int .i64 0]) ∧ W = w' from parts_any 5 W)
  have HN := Lib.hid (fun PA pc W (hb : Bl w W) (hl : Lies W PA [.slice A n c]) => node_err (node_1 PA pc 5 0 0 W A c n P hn (hb.lies hp) hc1 hl rfl rfl rfl) hck (by decide))
  clear hs hn hm hp hq ho1 ho2 hc1 hck
  go_enter Tryd.func7, Tryd.ntmps7
  go_wp2_with (first
    | (go_at_call 18; (with_reducible refine HG.out.mono ?_); rintro e w1 ⟨rfl, rfl⟩; have b0 := Bl.start w; clear HG)
    | (go_at_call 18; (with_reducible refine HG2.out.mono ?_); rintro e w1 ⟨rfl, rfl⟩)
    | (go_at_call 26; refine (HP.out _).mono ?_; rintro e w1 ⟨rfl, rfl⟩)
    | (go_at_call 12; (with_reducible refine (HOA.out _ b0).mono ?_); rintro e w1 ⟨rfl, hb⟩; have b1 := b0.step hb; clear hb b0)
    | (go_at_call 12; (with_reducible refine (HOB.out _ b1).mono ?_); rintro e w2 ⟨rfl, hb⟩; have b2 := b1.step hb; clear hb b1)
    | (go_at_call 27; refine (HN.out _ _ _ (b2.al _) (lies_vals w2 _ rfl _ _ _ rfl)).mono ?_; rintro e w3 ⟨rfl, hb⟩; have b4 := (b2.al _).step hb; clear hb b2)
    | (go_at_call 17; refine (alive_any _ (b4.sig HS.out)).mono ?_; rintro e w9 ⟨rfl, hb⟩; have b9 := b4.step hb; clear hb))
  go_ret
  exact ⟨rfl, b9⟩
set_option maxHeartbeats 2000000 in
theorem md_u5_true_34 (A : Option Addr) (n c : Nat) (P : List Nd) (B : Option Addr) (m d : Nat) (Q : List Nd) (w : World) (hs : SigT w) (hn : P.length = n) (hm : Q.length = m) (h7 : n ≤ 60) (h8 : m ≤ 70) (hp : Lies w A (ndCells P)) (hq : Lies w B (ndCells Q)) (yt : Bool) (xa ya : Int) (ho1 : ofF P = (true, xa, 0)) (ho2 : ofF Q = (yt, ya, 0)) (hc1 : checkF P = 0) (hck : checkF (made1 5 0 0 P) = 34) :
    Calls Tryd.prog 7 #[.slice A n c, .slice B m d, .int .u8 5] w fun e w' => e = .returned (.bool true) ∧ Below w.heap.size w w' := by
  have HG := Lib.hid (great_any A n c w false (decide_eq_false (by omega)))
  have HG2 := Lib.hid (great_any B m d w false (decide_eq_false (by omega)))
  have HOA := Lib.hid (fun W (hb : Bl w W) => of_any A c n P W (hb.sig hs) hn (by unfold maxLen; omega) (hb.lies hp) true xa 0 ho1)
  have HOB := Lib.hid (fun W (hb : Bl w W) => of_any B d m Q W (hb.sig hs) hm (by unfold maxLen; omega) (hb.lies hq) yt ya 0 ho2)
  have HS := Lib.hid hs
  have HP := Lib.hid (fun W => show Calls Tryd.prog 26 #[.int .u8 5] W fun e w' => e = .returned (.tuple #[.int .i64 1, .int .i64 0]) ∧ W = w' from parts_any 5 W)
  have HN := Lib.hid (fun PA pc W (hb : Bl w W) (hl : Lies W PA [.slice A n c]) => node_err (node_1 PA pc 5 0 0 W A c n P hn (hb.lies hp) hc1 hl rfl rfl rfl) hck (by decide))
  clear hs hn hm hp hq ho1 ho2 hc1 hck
  go_enter Tryd.func7, Tryd.ntmps7
  go_wp2_with (first
    | (go_at_call 18; (with_reducible refine HG.out.mono ?_); rintro e w1 ⟨rfl, rfl⟩; have b0 := Bl.start w; clear HG)
    | (go_at_call 18; (with_reducible refine HG2.out.mono ?_); rintro e w1 ⟨rfl, rfl⟩)
    | (go_at_call 26; refine (HP.out _).mono ?_; rintro e w1 ⟨rfl, rfl⟩)
    | (go_at_call 12; (with_reducible refine (HOA.out _ b0).mono ?_); rintro e w1 ⟨rfl, hb⟩; have b1 := b0.step hb; clear hb b0)
    | (go_at_call 12; (with_reducible refine (HOB.out _ b1).mono ?_); rintro e w2 ⟨rfl, hb⟩; have b2 := b1.step hb; clear hb b1)
    | (go_at_call 27; refine (HN.out _ _ _ (b2.al _) (lies_vals w2 _ rfl _ _ _ rfl)).mono ?_; rintro e w3 ⟨rfl, hb⟩; have b4 := (b2.al _).step hb; clear hb b2)
    | (go_at_call 17; refine (alive_any _ (b4.sig HS.out)).mono ?_; rintro e w9 ⟨rfl, hb⟩; have b9 := b4.step hb; clear hb))
  go_ret
  exact ⟨rfl, b9⟩
set_option maxHeartbeats 2000000 in
theorem md_u5_false_ok (A : Option Addr) (n c : Nat) (P : List Nd) (B : Option Addr) (m d : Nat) (Q : List Nd) (w : World) (hs : SigT w) (hn : P.length = n) (hm : Q.length = m) (h7 : n ≤ 60) (h8 : m ≤ 70) (hp : Lies w A (ndCells P)) (hq : Lies w B (ndCells Q)) (yt : Bool) (xa ya : Int) (ho1 : ofF P = (false, xa, 0)) (ho2 : ofF Q = (yt, ya, 0)) (hc1 : checkF P = 0) (hck : checkF (made1 5 0 0 P) = 0) (hol : ofF (made1 5 0 0 P) = (gvK 5, (n : Int), 0)) :
    Calls Tryd.prog 7 #[.slice A n c, .slice B m d, .int .u8 5] w fun e w' => e = .returned (.bool true) ∧ Below w.heap.size w w' := by
  have HG := Lib.hid (great_any A n c w false (decide_eq_false (by omega)))
  have HG2 := Lib.hid (great_any B m d w false (decide_eq_false (by omega)))
  have HOA := Lib.hid (fun W (hb : Bl w W) => of_any A c n P W (hb.sig hs) hn (by unfold maxLen; omega) (hb.lies hp) false xa 0 ho1)
  have HOB := Lib.hid (fun W (hb : Bl w W) => of_any B d m Q W (hb.sig hs) hm (by unfold maxLen; omega) (hb.lies hq) yt ya 0 ho2)
  have HS := Lib.hid hs
  have HP := Lib.hid (fun W => show Calls Tryd.prog 26 #[.int .u8 5] W fun e w' => e = .returned (.tuple #[.int .i64 1, .int .i64 0]) ∧ W = w' from parts_any 5 W)
  have HN := Lib.hid (fun PA pc W (hb : Bl w W) (hl : Lies W PA [.slice A n c]) => node_ok (n := n + 1) (node_1 PA pc 5 0 0 W A c n P hn (hb.lies hp) hc1 hl rfl rfl rfl) hck (by rw [made1_len, hn]))
  have HOL := Lib.hid (fun D e W (hb : Bl w W) hl => of_any D e (n + 1) (made1 5 0 0 P) W (hb.sig hs) (by rw [made1_len, hn]) (by unfold maxLen; omega) hl _ _ _ hol)
  rw [show gvK 5 = false from rfl] at HOL
  have e1 : ((n + 1 : Nat) : Int) - 1 = n := by omega
  clear hs hn hm hp hq ho1 ho2 hc1 hck hol
  go_enter Tryd.func7, Tryd.ntmps7
  go_wp2_with (first
    | (go_at_call 18; (with_reducible refine HG.out.mono ?_); rintro e w1 ⟨rfl, rfl⟩; have b0 := Bl.start w; clear HG)
    | (go_at_call 18; (with_reducible refine HG2.out.mono ?_); rintro e w1 ⟨rfl, rfl⟩)
    | (go_at_call 26; refine (HP.out _).mono ?_; rintro e w1 ⟨rfl, rfl⟩)
    | (go_at_call 12; (with_reducible refine (HOA.out _ b0).mono ?_); rintro e w1 ⟨rfl, hb⟩; have b1 := b0.step hb; clear hb b0)
    | (go_at_call 12; (with_reducible refine (HOB.out _ b1).mono ?_); rintro e w2 ⟨rfl, hb⟩; have b2 := b1.step hb; clear hb b1)
    | (go_at_call 27; refine (HN.out _ _ _ (b2.al _) (lies_vals w2 _ rfl _ _ _ rfl)).mono ?_; rintro e w3 ⟨A3, c3, rfl, hl3, hb⟩; have b3 := (b2.al _).step hb; have HL3 := Lib.hid hl3; clear hb b2 hl3)
    | (go_at_call 12; (with_reducible refine (HOL.out _ _ _ b3 HL3.out).mono ?_); rintro e w4 ⟨rfl, hb⟩; have b4 := b3.step hb; clear hb b3)
    | (go_at_call 17; refine (alive_any _ (b4.sig HS.out)).mono ?_; rintro e w9 ⟨rfl, hb⟩; have b9 := b4.step hb; clear hb))
  go_ret
  exact ⟨rfl, b9⟩
set_option maxHeartbeats 2000000 in
theorem md_u5_false_4 (A : Option Addr) (n c : Nat) (P : List Nd) (B : Option Addr) (m d : Nat) (Q : List Nd) (w : World) (hs : SigT w) (hn : P.length = n) (hm : Q.length = m) (h7 : n ≤ 60) (h8 : m ≤ 70) (hp : Lies w A (ndCells P)) (hq : Lies w B (ndCells Q)) (yt : Bool) (xa ya : Int) (ho1 : ofF P = (false, xa, 0)) (ho2 : ofF Q = (yt, ya, 0)) (hc1 : checkF P = 0) (hck : checkF (made1 5 0 0 P) = 4) :
    Calls Tryd.prog 7 #[.slice A n c, .slice B m d, .int .u8 5] w fun e w' => e = .returned (.bool true) ∧ Below w.heap.size w w' := by
  have HG := Lib.hid (great_any A n c w false (decide_eq_false (by omega)))
  have HG2 := Lib.hid (great_any B m d w false (decide_eq_false (by omega)))
  have HOA := Lib.hid (fun W (hb : Bl w W) => of_any A c n P W (hb.sig hs) hn (by unfold maxLen; omega) (hb.lies hp) false xa 0 ho1)
  have HOB := Lib.hid (fun W (hb : Bl w W) => of_any B d m Q W (hb.sig hs) hm (by unfold maxLen; omega) (hb.lies hq) yt ya 0 ho2)
  have HS := Lib.hid hs
  have HP := Lib.hid (fun W => show Calls Tryd.prog 26 #[.int .u8 5] W fun e w' => e = .returned (.tuple #[.int .i64 1, .int .i64 0]) ∧ W = w' from parts_any 5 W)
  have HN := Lib.hid (fun PA pc W (hb : Bl w W) (hl : Lies W PA [.slice A n c]) => node_err (node_1 PA pc 5 0 0 W A c n P hn (hb.lies hp) hc1 hl rfl rfl rfl) hck (by decide))
  clear hs hn hm hp hq ho1 ho2 hc1 hck
  go_enter Tryd.func7, Tryd.ntmps7
  go_wp2_with (first
    | (go_at_call 18; (with_reducible refine HG.out.mono ?_); rintro e w1 ⟨rfl, rfl⟩; have b0 := Bl.start w; clear HG)
    | (go_at_call 18; (with_reducible refine HG2.out.mono ?_); rintro e w1 ⟨rfl, rfl⟩)
    | (go_at_call 26; refine (HP.out _).mono ?_; rintro e w1 ⟨rfl, rfl⟩)
    | (go_at_call 12; (with_reducible refine (HOA.out _ b0).mono ?_); rintro e w1 ⟨rfl, hb⟩; have b1 := b0.step hb; clear hb b0)
    | (go_at_call 12; (with_reducible refine (HOB.out _ b1).mono ?_); rintro e w2 ⟨rfl, hb⟩; have b2 := b1.step hb; clear hb b1)
    | (go_at_call 27; refine (HN.out _ _ _ (b2.al _) (lies_vals w2 _ rfl _ _ _ rfl)).mono ?_; rintro e w3 ⟨rfl, hb⟩; have b4 := (b2.al _).step hb; clear hb b2)
    | (go_at_call 17; refine (alive_any _ (b4.sig HS.out)).mono ?_; rintro e w9 ⟨rfl, hb⟩; have b9 := b4.step hb; clear hb))
  go_ret
  exact ⟨rfl, b9⟩
set_option maxHeartbeats 2000000 in
theorem md_u5_false_34 (A : Option Addr) (n c : Nat) (P : List Nd) (B : Option Addr) (m d : Nat) (Q : List Nd) (w : World) (hs : SigT w) (hn : P.length = n) (hm : Q.length = m) (h7 : n ≤ 60) (h8 : m ≤ 70) (hp : Lies w A (ndCells P)) (hq : Lies w B (ndCells Q)) (yt : Bool) (xa ya : Int) (ho1 : ofF P = (false, xa, 0)) (ho2 : ofF Q = (yt, ya, 0)) (hc1 : checkF P = 0) (hck : checkF (made1 5 0 0 P) = 34) :
    Calls Tryd.prog 7 #[.slice A n c, .slice B m d, .int .u8 5] w fun e w' => e = .returned (.bool true) ∧ Below w.heap.size w w' := by
  have HG := Lib.hid (great_any A n c w false (decide_eq_false (by omega)))
  have HG2 := Lib.hid (great_any B m d w false (decide_eq_false (by omega)))
  have HOA := Lib.hid (fun W (hb : Bl w W) => of_any A c n P W (hb.sig hs) hn (by unfold maxLen; omega) (hb.lies hp) false xa 0 ho1)
  have HOB := Lib.hid (fun W (hb : Bl w W) => of_any B d m Q W (hb.sig hs) hm (by unfold maxLen; omega) (hb.lies hq) yt ya 0 ho2)
  have HS := Lib.hid hs
  have HP := Lib.hid (fun W => show Calls Tryd.prog 26 #[.int .u8 5] W fun e w' => e = .returned (.tuple #[.int .i64 1, .int .i64 0]) ∧ W = w' from parts_any 5 W)
  have HN := Lib.hid (fun PA pc W (hb : Bl w W) (hl : Lies W PA [.slice A n c]) => node_err (node_1 PA pc 5 0 0 W A c n P hn (hb.lies hp) hc1 hl rfl rfl rfl) hck (by decide))
  clear hs hn hm hp hq ho1 ho2 hc1 hck
  go_enter Tryd.func7, Tryd.ntmps7
  go_wp2_with (first
    | (go_at_call 18; (with_reducible refine HG.out.mono ?_); rintro e w1 ⟨rfl, rfl⟩; have b0 := Bl.start w; clear HG)
    | (go_at_call 18; (with_reducible refine HG2.out.mono ?_); rintro e w1 ⟨rfl, rfl⟩)
    | (go_at_call 26; refine (HP.out _).mono ?_; rintro e w1 ⟨rfl, rfl⟩)
    | (go_at_call 12; (with_reducible refine (HOA.out _ b0).mono ?_); rintro e w1 ⟨rfl, hb⟩; have b1 := b0.step hb; clear hb b0)
    | (go_at_call 12; (with_reducible refine (HOB.out _ b1).mono ?_); rintro e w2 ⟨rfl, hb⟩; have b2 := b1.step hb; clear hb b1)
    | (go_at_call 27; refine (HN.out _ _ _ (b2.al _) (lies_vals w2 _ rfl _ _ _ rfl)).mono ?_; rintro e w3 ⟨rfl, hb⟩; have b4 := (b2.al _).step hb; clear hb b2)
    | (go_at_call 17; refine (alive_any _ (b4.sig HS.out)).mono ?_; rintro e w9 ⟨rfl, hb⟩; have b9 := b4.step hb; clear hb))
  go_ret
  exact ⟨rfl, b9⟩
set_option maxHeartbeats 2000000 in
theorem md_u6_true_ok (A : Option Addr) (n c : Nat) (P : List Nd) (B : Option Addr) (m d : Nat) (Q : List Nd) (w : World) (hs : SigT w) (hn : P.length = n) (hm : Q.length = m) (h7 : n ≤ 60) (h8 : m ≤ 70) (hp : Lies w A (ndCells P)) (hq : Lies w B (ndCells Q)) (yt : Bool) (xa ya : Int) (ho1 : ofF P = (true, xa, 0)) (ho2 : ofF Q = (yt, ya, 0)) (hc1 : checkF P = 0) (hck : checkF (made1 6 0 0 P) = 0) (hol : ofF (made1 6 0 0 P) = (gvK 6, (n : Int), 0)) :
    Calls Tryd.prog 7 #[.slice A n c, .slice B m d, .int .u8 6] w fun e w' => e = .returned (.bool true) ∧ Below w.heap.size w w' := by
  have HG := Lib.hid (great_any A n c w false (decide_eq_false (by omega)))
  have HG2 := Lib.hid (great_any B m d w false (decide_eq_false (by omega)))
  have HOA := Lib.hid (fun W (hb : Bl w W) => of_any A c n P W (hb.sig hs) hn (by unfold maxLen; omega) (hb.lies hp) true xa 0 ho1)
  have HOB := Lib.hid (fun W (hb : Bl w W) => of_any B d m Q W (hb.sig hs) hm (by unfold maxLen; omega) (hb.lies hq) yt ya 0 ho2)
  have HS := Lib.hid hs
  have HP := Lib.hid (fun W => show Calls Tryd.prog 26 #[.int .u8 6] W fun e w' => e = .returned (.tuple #[.int .i64 1, .int .i64 0]) ∧ W = w' from parts_any 6 W)
  have HN := Lib.hid (fun PA pc W (hb : Bl w W) (hl : Lies W PA [.slice A n c]) => node_ok (n := n + 1) (node_1 PA pc 6 0 0 W A c n P hn (hb.lies hp) hc1 hl rfl rfl rfl) hck (by rw [made1_len, hn]))
  have HOL := Lib.hid (fun D e W (hb : Bl w W) hl => of_any D e (n + 1) (made1 6 0 0 P) W (hb.sig hs) (by rw [made1_len, hn]) (by unfold maxLen; omega) hl _ _ _ hol)
  rw [show gvK 6 = true from rfl] at HOL
  have e1 : ((n + 1 : Nat) : Int) - 1 = n := by omega
  clear hs hn hm hp hq ho1 ho2 hc1 hck hol
  go_enter Tryd.func7, Tryd.ntmps7
  go_wp2_with (first
    | (go_at_call 18; (with_reducible refine HG.out.mono ?_); rintro e w1 ⟨rfl, rfl⟩; have b0 := Bl.start w; clear HG)
    | (go_at_call 18; (with_reducible refine HG2.out.mono ?_); rintro e w1 ⟨rfl, rfl⟩)
    | (go_at_call 26; refine (HP.out _).mono ?_; rintro e w1 ⟨rfl, rfl⟩)
    | (go_at_call 12; (with_reducible refine (HOA.out _ b0).mono ?_); rintro e w1 ⟨rfl, hb⟩; have b1 := b0.step hb; clear hb b0)
    | (go_at_call 12; (with_reducible refine (HOB.out _ b1).mono ?_); rintro e w2 ⟨rfl, hb⟩; have b2 := b1.step hb; clear hb b1)
    | (go_at_call 27; refine (HN.out _ _ _ (b2.al _) (lies_vals w2 _ rfl _ _ _ rfl)).mono ?_; rintro e w3 ⟨A3, c3, rfl, hl3, hb⟩; have b3 := (b2.al _).step hb; have HL3 := Lib.hid hl3; clear hb b2 hl3)
    | (go_at_call 12; (with_reducible refine (HOL.out _ _ _ b3 HL3.out).mono ?_); rintro e w4 ⟨rfl, hb⟩; have b4 := b3.step hb; clear hb b3)
    | (go_at_call 17; refine (alive_any _ (b4.sig HS.out)).mono ?_; rintro e w9 ⟨rfl, hb⟩; have b9 := b4.step hb; clear hb))
  go_ret
  exact ⟨rfl, b9⟩
set_option maxHeartbeats 2000000 in
theorem md_u6_true_4 (A : Option Addr) (n c : Nat) (P : List Nd) (B : Option Addr) (m d : Nat) (Q : List Nd) (w : World) (hs : SigT w) (hn : P.length = n) (hm : Q.length = m) (h7 : n ≤ 60) (h8 : m ≤ 70) (hp : Lies w A (ndCells P)) (hq : Lies w B (ndCells Q)) (yt : Bool) (xa ya : Int) (ho1 : ofF P = (true, xa, 0)) (ho2 : ofF Q = (yt, ya, 0)) (hc1 : checkF P = 0) (hck : checkF (made1 6 0 0 P) = 4) :
    Calls Tryd.prog 7 #[.slice A n c, .slice B m d, .int .u8 6] w fun e w' => e = .returned (.bool true) ∧ Below w.heap.size w w' := by
  have HG := Lib.hid (great_any A n c w false (decide_eq_false (by omega)))
  have HG2 := Lib.hid (great_any B m d w false (decide_eq_false (by omega)))
  have HOA := Lib.hid (fun W (hb : Bl w W) => of_any A c n P W (hb.sig hs) hn (by unfold maxLen; omega) (hb.lies hp) true xa 0 ho1)
  have HOB := Lib.hid (fun W (hb : Bl w W) => of_any B d m Q W (hb.sig hs) hm (by unfold maxLen; omega) (hb.lies hq) yt ya 0 ho2)
  have HS := Lib.hid hs
  have HP := Lib.hid (fun W => show Calls Tryd.prog 26 #[.int .u8 6] W fun e w' => e = .returned (.tuple #[.int .i64 1, .int .i64 0]) ∧ W = w' from parts_any 6 W)
  have HN := Lib.hid (fun PA pc W (hb : Bl w W) (hl : Lies W PA [.slice A n c]) => node_err (node_1 PA pc 6 0 0 W A c n P hn (hb.lies hp) hc1 hl rfl rfl rfl) hck (by decide))
  clear hs hn hm hp hq ho1 ho2 hc1 hck
  go_enter Tryd.func7, Tryd.ntmps7
  go_wp2_with (first
    | (go_at_call 18; (with_reducible refine HG.out.mono ?_); rintro e w1 ⟨rfl, rfl⟩; have b0 := Bl.start w; clear HG)
    | (go_at_call 18; (with_reducible refine HG2.out.mono ?_); rintro e w1 ⟨rfl, rfl⟩)
    | (go_at_call 26; refine (HP.out _).mono ?_; rintro e w1 ⟨rfl, rfl⟩)
    | (go_at_call 12; (with_reducible refine (HOA.out _ b0).mono ?_); rintro e w1 ⟨rfl, hb⟩; have b1 := b0.step hb; clear hb b0)
    | (go_at_call 12; (with_reducible refine (HOB.out _ b1).mono ?_); rintro e w2 ⟨rfl, hb⟩; have b2 := b1.step hb; clear hb b1)
    | (go_at_call 27; refine (HN.out _ _ _ (b2.al _) (lies_vals w2 _ rfl _ _ _ rfl)).mono ?_; rintro e w3 ⟨rfl, hb⟩; have b4 := (b2.al _).step hb; clear hb b2)
    | (go_at_call 17; refine (alive_any _ (b4.sig HS.out)).mono ?_; rintro e w9 ⟨rfl, hb⟩; have b9 := b4.step hb; clear hb))
  go_ret
  exact ⟨rfl, b9⟩
set_option maxHeartbeats 2000000 in
theorem md_u6_true_34 (A : Option Addr) (n c : Nat) (P : List Nd) (B : Option Addr) (m d : Nat) (Q : List Nd) (w : World) (hs : SigT w) (hn : P.length = n) (hm : Q.length = m) (h7 : n ≤ 60) (h8 : m ≤ 70) (hp : Lies w A (ndCells P)) (hq : Lies w B (ndCells Q)) (yt : Bool) (xa ya : Int) (ho1 : ofF P = (true, xa, 0)) (ho2 : ofF Q = (yt, ya, 0)) (hc1 : checkF P = 0) (hck : checkF (made1 6 0 0 P) = 34) :
    Calls Tryd.prog 7 #[.slice A n c, .slice B m d, .int .u8 6] w fun e w' => e = .returned (.bool true) ∧ Below w.heap.size w w' := by
  have HG := Lib.hid (great_any A n c w false (decide_eq_false (by omega)))
  have HG2 := Lib.hid (great_any B m d w false (decide_eq_false (by omega)))
  have HOA := Lib.hid (fun W (hb : Bl w W) => of_any A c n P W (hb.sig hs) hn (by unfold maxLen; omega) (hb.lies hp) true xa 0 ho1)
  have HOB := Lib.hid (fun W (hb : Bl w W) => of_any B d m Q W (hb.sig hs) hm (by unfold maxLen; omega) (hb.lies hq) yt ya 0 ho2)
  have HS := Lib.hid hs
  have HP := Lib.hid (fun W => show Calls Tryd.prog 26 #[.int .u8 6] W fun e w' => e = .returned (.tuple #[.int .i64 1, .int .i64 0]) ∧ W = w' from parts_any 6 W)
  have HN := Lib.hid (fun PA pc W (hb : Bl w W) (hl : Lies W PA [.slice A n c]) => node_err (node_1 PA pc 6 0 0 W A c n P hn (hb.lies hp) hc1 hl rfl rfl rfl) hck (by decide))
  clear hs hn hm hp hq ho1 ho2 hc1 hck
  go_enter Tryd.func7, Tryd.ntmps7
  go_wp2_with (first
    | (go_at_call 18; (with_reducible refine HG.out.mono ?_); rintro e w1 ⟨rfl, rfl⟩; have b0 := Bl.start w; clear HG)
    | (go_at_call 18; (with_reducible refine HG2.out.mono ?_); rintro e w1 ⟨rfl, rfl⟩)
    | (go_at_call 26; refine (HP.out _).mono ?_; rintro e w1 ⟨rfl, rfl⟩)
    | (go_at_call 12; (with_reducible refine (HOA.out _ b0).mono ?_); rintro e w1 ⟨rfl, hb⟩; have b1 := b0.step hb; clear hb b0)
    | (go_at_call 12; (with_reducible refine (HOB.out _ b1).mono ?_); rintro e w2 ⟨rfl, hb⟩; have b2 := b1.step hb; clear hb b1)
    | (go_at_call 27; refine (HN.out _ _ _ (b2.al _) (lies_vals w2 _ rfl _ _ _ rfl)).mono ?_; rintro e w3 ⟨rfl, hb⟩; have b4 := (b2.al _).step hb; clear hb b2)
    | (go_at_call 17; refine (alive_any _ (b4.sig HS.out)).mono ?_; rintro e w9 ⟨rfl, hb⟩; have b9 := b4.step hb; clear hb))
  go_ret
  exact ⟨rfl, b9⟩
set_option maxHeartbeats 2000000 in
theorem md_u6_false_ok (A : Option Addr) (n c : Nat) (P : List Nd) (B : Option Addr) (m d : Nat) (Q : List Nd) (w : World) (hs : SigT w) (hn : P.length = n) (hm : Q.length = m) (h7 : n ≤ 60) (h8 : m ≤ 70) (hp : Lies w A (ndCells P)) (hq : Lies w B (ndCells Q)) (yt : Bool) (xa ya : Int) (ho1 : ofF P = (false, xa, 0)) (ho2 : ofF Q = (yt, ya, 0)) (hc1 : checkF P = 0) (hck : checkF (made1 6 0 0 P) = 0) (hol : ofF (made1 6 0 0 P) = (false, (n : Int), 42)) :
    Calls Tryd.prog 7 #[.slice A n c, .slice B m d, .int .u8 6] w fun e w' => e = .returned (.bool true) ∧ Below w.heap.size w w' := by
  have HG := Lib.hid (great_any A n c w false (decide_eq_false (by omega)))
  have HG2 := Lib.hid (great_any B m d w false (decide_eq_false (by omega)))
  have HOA := Lib.hid (fun W (hb : Bl w W) => of_any A c n P W (hb.sig hs) hn (by unfold maxLen; omega) (hb.lies hp) false xa 0 ho1)
  have HOB := Lib.hid (fun W (hb : Bl w W) => of_any B d m Q W (hb.sig hs) hm (by unfold maxLen; omega) (hb.lies hq) yt ya 0 ho2)
  have HS := Lib.hid hs
  have HP := Lib.hid (fun W => show Calls Tryd.prog 26 #[.int .u8 6] W fun e w' => e = .returned (.tuple #[.int .i64 1, .int .i64 0]) ∧ W = w' from parts_any 6 W)
  have HN := Lib.hid (fun PA pc W (hb : Bl w W) (hl : Lies W PA [.slice A n c]) => node_ok (n := n + 1) (node_1 PA pc 6 0 0 W A c n P hn (hb.lies hp) hc1 hl rfl rfl rfl) hck (by rw [made1_len, hn]))
  have HOL := Lib.hid (fun D e W (hb : Bl w W) hl => of_any D e (n + 1) (made1 6 0 0 P) W (hb.sig hs) (by rw [made1_len, hn]) (by unfold maxLen; omega) hl _ _ _ hol)
  have e1 : ((n + 1 : Nat) : Int) - 1 = n := by omega
  clear hs hn hm hp hq ho1 ho2 hc1 hck hol
  go_enter Tryd.func7, Tryd.ntmps7
  go_wp2_with (first
    | (go_at_call 18; (with_reducible refine HG.out.mono ?_); rintro e w1 ⟨rfl, rfl⟩; have b0 := Bl.start w; clear HG)
    | (go_at_call 18; (with_reducible refine HG2.out.mono ?_); rintro e w1 ⟨rfl, rfl⟩)
    | (go_at_call 26; refine (HP.out _).mono ?_; rintro e w1 ⟨rfl, rfl⟩)
    | (go_at_call 12; (with_reducible refine (HOA.out _ b0).mono ?_); rintro e w1 ⟨rfl, hb⟩; have b1 := b0.step hb; clear hb b0)
    | (go_at_call 12; (with_reducible refine (HOB.out _ b1).mono ?_); rintro e w2 ⟨rfl, hb⟩; have b2 := b1.step hb; clear hb b1)
    | (go_at_call 27; refine (HN.out _ _ _ (b2.al _) (lies_vals w2 _ rfl _ _ _ rfl)).mono ?_; rintro e w3 ⟨A3, c3, rfl, hl3, hb⟩; have b3 := (b2.al _).step hb; have HL3 := Lib.hid hl3; clear hb b2 hl3)
    | (go_at_call 12; (with_reducible refine (HOL.out _ _ _ b3 HL3.out).mono ?_); rintro e w4 ⟨rfl, hb⟩; have b4 := b3.step hb; clear hb b3)
    | (go_at_call 17; refine (alive_any _ (b4.sig HS.out)).mono ?_; rintro e w9 ⟨rfl, hb⟩; have b9 := b4.step hb; clear hb))
  go_ret
  exact ⟨rfl, b9⟩
set_option maxHeartbeats 2000000 in
theorem md_u6_false_4 (A : Option Addr) (n c : Nat) (P : List Nd) (B : Option Addr) (m d : Nat) (Q : List Nd) (w : World) (hs : SigT w) (hn : P.length = n) (hm : Q.length = m) (h7 : n ≤ 60) (h8 : m ≤ 70) (hp : Lies w A (ndCells P)) (hq : Lies w B (ndCells Q)) (yt : Bool) (xa ya : Int) (ho1 : ofF P = (false, xa, 0)) (ho2 : ofF Q = (yt, ya, 0)) (hc1 : checkF P = 0) (hck : checkF (made1 6 0 0 P) = 4) :
    Calls Tryd.prog 7 #[.slice A n c, .slice B m d, .int .u8 6] w fun e w' => e = .returned (.bool true) ∧ Below w.heap.size w w' := by
  have HG := Lib.hid (great_any A n c w false (decide_eq_false (by omega)))
  have HG2 := Lib.hid (great_any B m d w false (decide_eq_false (by omega)))
  have HOA := Lib.hid (fun W (hb : Bl w W) => of_any A c n P W (hb.sig hs) hn (by unfold maxLen; omega) (hb.lies hp) false xa 0 ho1)
  have HOB := Lib.hid (fun W (hb : Bl w W) => of_any B d m Q W (hb.sig hs) hm (by unfold maxLen; omega) (hb.lies hq) yt ya 0 ho2)
  have HS := Lib.hid hs
  have HP := Lib.hid (fun W => show Calls Tryd.prog 26 #[.int .u8 6] W fun e w' => e = .returned (.tuple #[.int .i64 1, .int .i64 0]) ∧ W = w' from parts_any 6 W)
  have HN := Lib.hid (fun PA pc W (hb : Bl w W) (hl : Lies W PA [.slice A n c]) => node_err (node_1 PA pc 6 0 0 W A c n P hn (hb.lies hp) hc1 hl rfl rfl rfl) hck (by decide))
  clear hs hn hm hp hq ho1 ho2 hc1 hck
  go_enter Tryd.func7, Tryd.ntmps7
  go_wp2_with (first
    | (go_at_call 18; (with_reducible refine HG.out.mono ?_); rintro e w1 ⟨rfl, rfl⟩; have b0 := Bl.start w; clear HG)
    | (go_at_call 18; (with_reducible refine HG2.out.mono ?_); rintro e w1 ⟨rfl, rfl⟩)
    | (go_at_call 26; refine (HP.out _).mono ?_; rintro e w1 ⟨rfl, rfl⟩)
    | (go_at_call 12; (with_reducible refine (HOA.out _ b0).mono ?_); rintro e w1 ⟨rfl, hb⟩; have b1 := b0.step hb; clear hb b0)
    | (go_at_call 12; (with_reducible refine (HOB.out _ b1).mono ?_); rintro e w2 ⟨rfl, hb⟩; have b2 := b1.step hb; clear hb b1)
    | (go_at_call 27; refine (HN.out _ _ _ (b2.al _) (lies_vals w2 _ rfl _ _ _ rfl)).mono ?_; rintro e w3 ⟨rfl, hb⟩; have b4 := (b2.al _).step hb; clear hb b2)
    | (go_at_call 17; refine (alive_any _ (b4.sig HS.out)).mono ?_; rintro e w9 ⟨rfl, hb⟩; have b9 := b4.step hb; clear hb))
  go_ret
  exact ⟨rfl, b9⟩
set_option maxHeartbeats 2000000 in
theorem md_u6_false_34 (A : Option Addr) (n c : Nat) (P : List Nd) (B : Option Addr) (m d : Nat) (Q : List Nd) (w : World) (hs : SigT w) (hn : P.length = n) (hm : Q.length = m) (h7 : n ≤ 60) (h8 : m ≤ 70) (hp : Lies w A (ndCells P)) (hq : Lies w B (ndCells Q)) (yt : Bool) (xa ya : Int) (ho1 : ofF P = (false, xa, 0)) (ho2 : ofF Q = (yt, ya, 0)) (hc1 : checkF P = 0) (hck : checkF (made1 6 0 0 P) = 34) :
    Calls Tryd.prog 7 #[.slice A n c, .slice B m d, .int .u8 6] w fun e w' => e = .returned (.bool true) ∧ Below w.heap.size w w' := by
  have HG := Lib.hid (great_any A n c w false (decide_eq_false (by omega)))
  have HG2 := Lib.hid (great_any B m d w false (decide_eq_false (by omega)))
  have HOA := Lib.hid (fun W (hb : Bl w W) => of_any A c n P W (hb.sig hs) hn (by unfold maxLen; omega) (hb.lies hp) false xa 0 ho1)
  have HOB := Lib.hid (fun W (hb : Bl w W) => of_any B d m Q W (hb.sig hs) hm (by unfold maxLen; omega) (hb.lies hq) yt ya 0 ho2)
  have HS := Lib.hid hs
  have HP := Lib.hid (fun W => show Calls Tryd.prog 26 #[.int .u8 6] W fun e w' => e = .returned (.tuple #[.int .i64 1, .int .i64 0]) ∧ W = w' from parts_any 6 W)
  have HN := Lib.hid (fun PA pc W (hb : Bl w W) (hl : Lies W PA [.slice A n c]) => node_err (node_1 PA pc 6 0 0 W A c n P hn (hb.lies hp) hc1 hl rfl rfl rfl) hck (by decide))
  clear hs hn hm hp hq ho1 ho2 hc1 hck
  go_enter Tryd.func7, Tryd.ntmps7
  go_wp2_with (first
    | (go_at_call 18; (with_reducible refine HG.out.mono ?_); rintro e w1 ⟨rfl, rfl⟩; have b0 := Bl.start w; clear HG)
    | (go_at_call 18; (with_reducible refine HG2.out.mono ?_); rintro e w1 ⟨rfl, rfl⟩)
    | (go_at_call 26; refine (HP.out _).mono ?_; rintro e w1 ⟨rfl, rfl⟩)
    | (go_at_call 12; (with_reducible refine (HOA.out _ b0).mono ?_); rintro e w1 ⟨rfl, hb⟩; have b1 := b0.step hb; clear hb b0)
    | (go_at_call 12; (with_reducible refine (HOB.out _ b1).mono ?_); rintro e w2 ⟨rfl, hb⟩; have b2 := b1.step hb; clear hb b1)
    | (go_at_call 27; refine (HN.out _ _ _ (b2.al _) (lies_vals w2 _ rfl _ _ _ rfl)).mono ?_; rintro e w3 ⟨rfl, hb⟩; have b4 := (b2.al _).step hb; clear hb b2)
    | (go_at_call 17; refine (alive_any _ (b4.sig HS.out)).mono ?_; rintro e w9 ⟨rfl, hb⟩; have b9 := b4.step hb; clear hb))
  go_ret
  exact ⟨rfl, b9⟩
end Go.Proofs.YtfnkofcgjbakeaaDoor.K6
