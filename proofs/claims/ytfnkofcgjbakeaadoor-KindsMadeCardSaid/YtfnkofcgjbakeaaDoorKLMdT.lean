/- KindsMade: kinds with two parts, the first one a truth value. -/
import Derived.Test.YtfnkofcgjbakeaaDoorKLMd0
namespace Go.Proofs.YtfnkofcgjbakeaaDoor.K6
open Go.ChangeShapes Go.WideShapes Go.ChangeAt Go.RowKit N4
set_option linter.unusedVariables false
set_option linter.unusedSimpArgs false
set_option maxRecDepth 100000

set_option maxHeartbeats 2000000 in
theorem md_bnum_true_true_ok (A : Option Addr) (n c : Nat) (P : List Nd) (B : Option Addr) (m d : Nat) (Q : List Nd) (kk : Int) (w : World) (hs : SigT w) (hn : P.length = n) (hm : Q.length = m) (h7 : n ≤ 60) (h8 : m ≤ 60) (hp : Lies w A (ndCells P)) (hq : Lies w B (ndCells Q)) (xa ya : Int) (ho1 : ofF P = (true, xa, 0)) (ho2 : ofF Q = (true, ya, 0)) (hc1 : checkF P = 0) (hc2 : checkF Q = 0) (hk1 : 7 ≤ kk) (hk2 : kk ≤ 11) (hck : checkF (made2 kk 0 0 P Q) = 0) (hol : ofF (made2 kk 0 0 P Q) = (false, (n : Int) + m, 42)) :
    Calls Tryd.prog 7 #[.slice A n c, .slice B m d, .int .u8 kk] w fun e w' => e = .returned (.bool true) ∧ Below w.heap.size w w' := by
  have HG := Lib.hid (great_any A n c w false (decide_eq_false (by omega)))
  have HG2 := Lib.hid (great_any B m d w false (decide_eq_false (by omega)))
  have HOA := Lib.hid (fun W (hb : Bl w W) => of_any A c n P W (hb.sig hs) hn (by unfold maxLen; omega) (hb.lies hp) true xa 0 ho1)
  have HOB := Lib.hid (fun W (hb : Bl w W) => of_any B d m Q W (hb.sig hs) hm (by unfold maxLen; omega) (hb.lies hq) true ya 0 ho2)
  have HS := Lib.hid hs
  have hok : okK kk = true := by simp [okK]; omega
  have hcn : cnt kk = 2 := by unfold cnt; rw [if_neg (by omega), if_neg (by omega)]
  have HP := Lib.hid (fun W => show Calls Tryd.prog 26 #[.int .u8 kk] W fun e w' => e = .returned (.tuple #[.int .i64 2, .int .i64 0]) ∧ W = w' by have := parts_any kk W; rwa [show partsN kk = 2 from partsN_of hok hcn, show partsE kk = 0 by simp [partsE, hok]] at this)
  have HF := Lib.hid (fun PA pc W => node_few PA pc kk W hok hcn)
  have HN := Lib.hid (fun PA pc W (hb : Bl w W) (hl : Lies W PA [.slice A n c, .slice B m d]) => node_ok (n := n + m + 1) (node_2 PA pc kk 0 0 W A c n P hn (hb.lies hp) hc1 B d m Q hm (hb.lies hq) hc2 hl hok (by simp [fitsF]) hcn) hck (by rw [made2_len, hn, hm]))
  have HOL := Lib.hid (fun D e W (hb : Bl w W) hl => of_any D e (n + m + 1) (made2 kk 0 0 P Q) W (hb.sig hs) (by rw [made2_len, hn, hm]) (by unfold maxLen; omega) hl _ _ _ hol)
  have e1 : ((n + m + 1 : Nat) : Int) - 1 = (n : Int) + m := by omega
  have k5 : (kk == 5) = false := by rw [beq_eq_false_iff_ne]; omega
  have k6 : (kk == 6) = false := by rw [beq_eq_false_iff_ne]; omega
  have k17 : kk ≤ 17 := by omega
  have k16 : ¬ 16 ≤ kk := by omega
  have k12 : ¬ 12 ≤ kk := by omega
  have d17 : decide (kk ≤ 17) = true := by simp; omega
  have d16 : decide (16 ≤ kk) = false := by simp; omega
  have d12 : decide (12 ≤ kk) = false := by simp; omega
  clear hs hn hm hp hq ho1 ho2 hc1 hc2 hck hk1 hk2 hok hcn hol
  go_enter Tryd.func7, Tryd.ntmps7
  go_wp2_with (first
    | (go_at_call 18; (with_reducible refine HG.out.mono ?_); rintro e w1 ⟨rfl, rfl⟩; have b0 := Bl.start w; clear HG)
    | (go_at_call 18; (with_reducible refine HG2.out.mono ?_); rintro e w1 ⟨rfl, rfl⟩)
    | (go_at_call 26; refine (HP.out _).mono ?_; rintro e w1 ⟨rfl, rfl⟩)
    | (go_at_call 12; (with_reducible refine (HOA.out _ b0).mono ?_); rintro e w1 ⟨rfl, hb⟩; have b1 := b0.step hb; clear hb b0)
    | (go_at_call 12; (with_reducible refine (HOB.out _ b1).mono ?_); rintro e w2 ⟨rfl, hb⟩; have b2 := b1.step hb; clear hb b1)
    | (go_at_call 27; (with_reducible refine (HF.out _ _ _).mono ?_); rintro e w3 ⟨rfl, hb⟩; have b3 := (b2.al _).step hb; clear hb b2)
    | (go_at_call 27; refine (HN.out _ _ _ (b3.al _) (lies_vals w3 _ rfl _ _ _ rfl)).mono ?_; rintro e w4 ⟨A4, c4, rfl, hl4, hb⟩; have b4 := (b3.al _).step hb; have HL4 := Lib.hid hl4; clear hb b3 hl4)
    | (go_at_call 12; (with_reducible refine (HOL.out _ _ _ b4 HL4.out).mono ?_); rintro e w5 ⟨rfl, hb⟩; have b5 := b4.step hb; clear hb b4)
    | (go_at_call 17; refine (alive_any _ (b5.sig HS.out)).mono ?_; rintro e w9 ⟨rfl, hb⟩; have b9 := b5.step hb; clear hb))
  go_ret
  exact ⟨rfl, b9⟩
set_option maxHeartbeats 2000000 in
theorem md_bnum_true_true_4 (A : Option Addr) (n c : Nat) (P : List Nd) (B : Option Addr) (m d : Nat) (Q : List Nd) (kk : Int) (w : World) (hs : SigT w) (hn : P.length = n) (hm : Q.length = m) (h7 : n ≤ 60) (h8 : m ≤ 60) (hp : Lies w A (ndCells P)) (hq : Lies w B (ndCells Q)) (xa ya : Int) (ho1 : ofF P = (true, xa, 0)) (ho2 : ofF Q = (true, ya, 0)) (hc1 : checkF P = 0) (hc2 : checkF Q = 0) (hk1 : 7 ≤ kk) (hk2 : kk ≤ 11) (hck : checkF (made2 kk 0 0 P Q) = 4) :
    Calls Tryd.prog 7 #[.slice A n c, .slice B m d, .int .u8 kk] w fun e w' => e = .returned (.bool true) ∧ Below w.heap.size w w' := by
  have HG := Lib.hid (great_any A n c w false (decide_eq_false (by omega)))
  have HG2 := Lib.hid (great_any B m d w false (decide_eq_false (by omega)))
  have HOA := Lib.hid (fun W (hb : Bl w W) => of_any A c n P W (hb.sig hs) hn (by unfold maxLen; omega) (hb.lies hp) true xa 0 ho1)
  have HOB := Lib.hid (fun W (hb : Bl w W) => of_any B d m Q W (hb.sig hs) hm (by unfold maxLen; omega) (hb.lies hq) true ya 0 ho2)
  have HS := Lib.hid hs
  have hok : okK kk = true := by simp [okK]; omega
  have hcn : cnt kk = 2 := by unfold cnt; rw [if_neg (by omega), if_neg (by omega)]
  have HP := Lib.hid (fun W => show Calls Tryd.prog 26 #[.int .u8 kk] W fun e w' => e = .returned (.tuple #[.int .i64 2, .int .i64 0]) ∧ W = w' by have := parts_any kk W; rwa [show partsN kk = 2 from partsN_of hok hcn, show partsE kk = 0 by simp [partsE, hok]] at this)
  have HF := Lib.hid (fun PA pc W => node_few PA pc kk W hok hcn)
  have HN := Lib.hid (fun PA pc W (hb : Bl w W) (hl : Lies W PA [.slice A n c, .slice B m d]) => node_err (node_2 PA pc kk 0 0 W A c n P hn (hb.lies hp) hc1 B d m Q hm (hb.lies hq) hc2 hl hok (by simp [fitsF]) hcn) hck (by decide))
  have k5 : (kk == 5) = false := by rw [beq_eq_false_iff_ne]; omega
  have k6 : (kk == 6) = false := by rw [beq_eq_false_iff_ne]; omega
  have k17 : kk ≤ 17 := by omega
  have k16 : ¬ 16 ≤ kk := by omega
  have k12 : ¬ 12 ≤ kk := by omega
  have d17 : decide (kk ≤ 17) = true := by simp; omega
  have d16 : decide (16 ≤ kk) = false := by simp; omega
  have d12 : decide (12 ≤ kk) = false := by simp; omega
  clear hs hn hm hp hq ho1 ho2 hc1 hc2 hck hk1 hk2 hok hcn
  go_enter Tryd.func7, Tryd.ntmps7
  go_wp2_with (first
    | (go_at_call 18; (with_reducible refine HG.out.mono ?_); rintro e w1 ⟨rfl, rfl⟩; have b0 := Bl.start w; clear HG)
    | (go_at_call 18; (with_reducible refine HG2.out.mono ?_); rintro e w1 ⟨rfl, rfl⟩)
    | (go_at_call 26; refine (HP.out _).mono ?_; rintro e w1 ⟨rfl, rfl⟩)
    | (go_at_call 12; (with_reducible refine (HOA.out _ b0).mono ?_); rintro e w1 ⟨rfl, hb⟩; have b1 := b0.step hb; clear hb b0)
    | (go_at_call 12; (with_reducible refine (HOB.out _ b1).mono ?_); rintro e w2 ⟨rfl, hb⟩; have b2 := b1.step hb; clear hb b1)
    | (go_at_call 27; (with_reducible refine (HF.out _ _ _).mono ?_); rintro e w3 ⟨rfl, hb⟩; have b3 := (b2.al _).step hb; clear hb b2)
    | (go_at_call 27; refine (HN.out _ _ _ (b3.al _) (lies_vals w3 _ rfl _ _ _ rfl)).mono ?_; rintro e w4 ⟨rfl, hb⟩; have b5 := (b3.al _).step hb; clear hb b3)
    | (go_at_call 17; refine (alive_any _ (b5.sig HS.out)).mono ?_; rintro e w9 ⟨rfl, hb⟩; have b9 := b5.step hb; clear hb))
  go_ret
  exact ⟨rfl, b9⟩
set_option maxHeartbeats 2000000 in
theorem md_bnum_true_true_34 (A : Option Addr) (n c : Nat) (P : List Nd) (B : Option Addr) (m d : Nat) (Q : List Nd) (kk : Int) (w : World) (hs : SigT w) (hn : P.length = n) (hm : Q.length = m) (h7 : n ≤ 60) (h8 : m ≤ 60) (hp : Lies w A (ndCells P)) (hq : Lies w B (ndCells Q)) (xa ya : Int) (ho1 : ofF P = (true, xa, 0)) (ho2 : ofF Q = (true, ya, 0)) (hc1 : checkF P = 0) (hc2 : checkF Q = 0) (hk1 : 7 ≤ kk) (hk2 : kk ≤ 11) (hck : checkF (made2 kk 0 0 P Q) = 34) :
    Calls Tryd.prog 7 #[.slice A n c, .slice B m d, .int .u8 kk] w fun e w' => e = .returned (.bool true) ∧ Below w.heap.size w w' := by
  have HG := Lib.hid (great_any A n c w false (decide_eq_false (by omega)))
  have HG2 := Lib.hid (great_any B m d w false (decide_eq_false (by omega)))
  have HOA := Lib.hid (fun W (hb : Bl w W) => of_any A c n P W (hb.sig hs) hn (by unfold maxLen; omega) (hb.lies hp) true xa 0 ho1)
  have HOB := Lib.hid (fun W (hb : Bl w W) => of_any B d m Q W (hb.sig hs) hm (by unfold maxLen; omega) (hb.lies hq) true ya 0 ho2)
  have HS := Lib.hid hs
  have hok : okK kk = true := by simp [okK]; omega
  have hcn : cnt kk = 2 := by unfold cnt; rw [if_neg (by omega), if_neg (by omega)]
  have HP := Lib.hid (fun W => show Calls Tryd.prog 26 #[.int .u8 kk] W fun e w' => e = .returned (.tuple #[.int .i64 2, .int .i64 0]) ∧ W = w' by have := parts_any kk W; rwa [show partsN kk = 2 from partsN_of hok hcn, show partsE kk = 0 by simp [partsE, hok]] at this)
  have HF := Lib.hid (fun PA pc W => node_few PA pc kk W hok hcn)
  have HN := Lib.hid (fun PA pc W (hb : Bl w W) (hl : Lies W PA [.slice A n c, .slice B m d]) => node_err (node_2 PA pc kk 0 0 W A c n P hn (hb.lies hp) hc1 B d m Q hm (hb.lies hq) hc2 hl hok (by simp [fitsF]) hcn) hck (by decide))
  have k5 : (kk == 5) = false := by rw [beq_eq_false_iff_ne]; omega
  have k6 : (kk == 6) = false := by rw [beq_eq_false_iff_ne]; omega
  have k17 : kk ≤ 17 := by omega
  have k16 : ¬ 16 ≤ kk := by omega
  have k12 : ¬ 12 ≤ kk := by omega
  have d17 : decide (kk ≤ 17) = true := by simp; omega
  have d16 : decide (16 ≤ kk) = false := by simp; omega
  have d12 : decide (12 ≤ kk) = false := by simp; omega
  clear hs hn hm hp hq ho1 ho2 hc1 hc2 hck hk1 hk2 hok hcn
  go_enter Tryd.func7, Tryd.ntmps7
  go_wp2_with (first
    | (go_at_call 18; (with_reducible refine HG.out.mono ?_); rintro e w1 ⟨rfl, rfl⟩; have b0 := Bl.start w; clear HG)
    | (go_at_call 18; (with_reducible refine HG2.out.mono ?_); rintro e w1 ⟨rfl, rfl⟩)
    | (go_at_call 26; refine (HP.out _).mono ?_; rintro e w1 ⟨rfl, rfl⟩)
    | (go_at_call 12; (with_reducible refine (HOA.out _ b0).mono ?_); rintro e w1 ⟨rfl, hb⟩; have b1 := b0.step hb; clear hb b0)
    | (go_at_call 12; (with_reducible refine (HOB.out _ b1).mono ?_); rintro e w2 ⟨rfl, hb⟩; have b2 := b1.step hb; clear hb b1)
    | (go_at_call 27; (with_reducible refine (HF.out _ _ _).mono ?_); rintro e w3 ⟨rfl, hb⟩; have b3 := (b2.al _).step hb; clear hb b2)
    | (go_at_call 27; refine (HN.out _ _ _ (b3.al _) (lies_vals w3 _ rfl _ _ _ rfl)).mono ?_; rintro e w4 ⟨rfl, hb⟩; have b5 := (b3.al _).step hb; clear hb b3)
    | (go_at_call 17; refine (alive_any _ (b5.sig HS.out)).mono ?_; rintro e w9 ⟨rfl, hb⟩; have b9 := b5.step hb; clear hb))
  go_ret
  exact ⟨rfl, b9⟩
set_option maxHeartbeats 2000000 in
theorem md_bcmp_true_true_ok (A : Option Addr) (n c : Nat) (P : List Nd) (B : Option Addr) (m d : Nat) (Q : List Nd) (kk : Int) (w : World) (hs : SigT w) (hn : P.length = n) (hm : Q.length = m) (h7 : n ≤ 60) (h8 : m ≤ 60) (hp : Lies w A (ndCells P)) (hq : Lies w B (ndCells Q)) (xa ya : Int) (ho1 : ofF P = (true, xa, 0)) (ho2 : ofF Q = (true, ya, 0)) (hc1 : checkF P = 0) (hc2 : checkF Q = 0) (hk1 : 12 ≤ kk) (hk2 : kk ≤ 15) (hck : checkF (made2 kk 0 0 P Q) = 0) (hol : ofF (made2 kk 0 0 P Q) = (false, (n : Int) + m, 42)) :
    Calls Tryd.prog 7 #[.slice A n c, .slice B m d, .int .u8 kk] w fun e w' => e = .returned (.bool true) ∧ Below w.heap.size w w' := by
  have HG := Lib.hid (great_any A n c w false (decide_eq_false (by omega)))
  have HG2 := Lib.hid (great_any B m d w false (decide_eq_false (by omega)))
  have HOA := Lib.hid (fun W (hb : Bl w W) => of_any A c n P W (hb.sig hs) hn (by unfold maxLen; omega) (hb.lies hp) true xa 0 ho1)
  have HOB := Lib.hid (fun W (hb : Bl w W) => of_any B d m Q W (hb.sig hs) hm (by unfold maxLen; omega) (hb.lies hq) true ya 0 ho2)
  have HS := Lib.hid hs
  have hok : okK kk = true := by simp [okK]; omega
  have hcn : cnt kk = 2 := by unfold cnt; rw [if_neg (by omega), if_neg (by omega)]
  have HP := Lib.hid (fun W => show Calls Tryd.prog 26 #[.int .u8 kk] W fun e w' => e = .returned (.tuple #[.int .i64 2, .int .i64 0]) ∧ W = w' by have := parts_any kk W; rwa [show partsN kk = 2 from partsN_of hok hcn, show partsE kk = 0 by simp [partsE, hok]] at this)
  have HF := Lib.hid (fun PA pc W => node_few PA pc kk W hok hcn)
  have HN := Lib.hid (fun PA pc W (hb : Bl w W) (hl : Lies W PA [.slice A n c, .slice B m d]) => node_ok (n := n + m + 1) (node_2 PA pc kk 0 0 W A c n P hn (hb.lies hp) hc1 B d m Q hm (hb.lies hq) hc2 hl hok (by simp [fitsF]) hcn) hck (by rw [made2_len, hn, hm]))
  have HOL := Lib.hid (fun D e W (hb : Bl w W) hl => of_any D e (n + m + 1) (made2 kk 0 0 P Q) W (hb.sig hs) (by rw [made2_len, hn, hm]) (by unfold maxLen; omega) hl _ _ _ hol)
  have e1 : ((n + m + 1 : Nat) : Int) - 1 = (n : Int) + m := by omega
  have k5 : (kk == 5) = false := by rw [beq_eq_false_iff_ne]; omega
  have k6 : (kk == 6) = false := by rw [beq_eq_false_iff_ne]; omega
  have k17 : kk ≤ 17 := by omega
  have k16 : ¬ 16 ≤ kk := by omega
  have k12 : 12 ≤ kk := by omega
  have d17 : decide (kk ≤ 17) = true := by simp; omega
  have d16 : decide (16 ≤ kk) = false := by simp; omega
  have d12 : decide (12 ≤ kk) = true := by simp; omega
  clear hs hn hm hp hq ho1 ho2 hc1 hc2 hck hk1 hk2 hok hcn hol
  go_enter Tryd.func7, Tryd.ntmps7
  go_wp2_with (first
    | (go_at_call 18; (with_reducible refine HG.out.mono ?_); rintro e w1 ⟨rfl, rfl⟩; have b0 := Bl.start w; clear HG)
    | (go_at_call 18; (with_reducible refine HG2.out.mono ?_); rintro e w1 ⟨rfl, rfl⟩)
    | (go_at_call 26; refine (HP.out _).mono ?_; rintro e w1 ⟨rfl, rfl⟩)
    | (go_at_call 12; (with_reducible refine (HOA.out _ b0).mono ?_); rintro e w1 ⟨rfl, hb⟩; have b1 := b0.step hb; clear hb b0)
    | (go_at_call 12; (with_reducible refine (HOB.out _ b1).mono ?_); rintro e w2 ⟨rfl, hb⟩; have b2 := b1.step hb; clear hb b1)
    | (go_at_call 27; (with_reducible refine (HF.out _ _ _).mono ?_); rintro e w3 ⟨rfl, hb⟩; have b3 := (b2.al _).step hb; clear hb b2)
    | (go_at_call 27; refine (HN.out _ _ _ (b3.al _) (lies_vals w3 _ rfl _ _ _ rfl)).mono ?_; rintro e w4 ⟨A4, c4, rfl, hl4, hb⟩; have b4 := (b3.al _).step hb; have HL4 := Lib.hid hl4; clear hb b3 hl4)
    | (go_at_call 12; (with_reducible refine (HOL.out _ _ _ b4 HL4.out).mono ?_); rintro e w5 ⟨rfl, hb⟩; have b5 := b4.step hb; clear hb b4)
    | (go_at_call 17; refine (alive_any _ (b5.sig HS.out)).mono ?_; rintro e w9 ⟨rfl, hb⟩; have b9 := b5.step hb; clear hb))
  go_ret
  exact ⟨rfl, b9⟩
set_option maxHeartbeats 2000000 in
theorem md_bcmp_true_true_4 (A : Option Addr) (n c : Nat) (P : List Nd) (B : Option Addr) (m d : Nat) (Q : List Nd) (kk : Int) (w : World) (hs : SigT w) (hn : P.length = n) (hm : Q.length = m) (h7 : n ≤ 60) (h8 : m ≤ 60) (hp : Lies w A (ndCells P)) (hq : Lies w B (ndCells Q)) (xa ya : Int) (ho1 : ofF P = (true, xa, 0)) (ho2 : ofF Q = (true, ya, 0)) (hc1 : checkF P = 0) (hc2 : checkF Q = 0) (hk1 : 12 ≤ kk) (hk2 : kk ≤ 15) (hck : checkF (made2 kk 0 0 P Q) = 4) :
    Calls Tryd.prog 7 #[.slice A n c, .slice B m d, .int .u8 kk] w fun e w' => e = .returned (.bool true) ∧ Below w.heap.size w w' := by
  have HG := Lib.hid (great_any A n c w false (decide_eq_false (by omega)))
  have HG2 := Lib.hid (great_any B m d w false (decide_eq_false (by omega)))
  have HOA := Lib.hid (fun W (hb : Bl w W) => of_any A c n P W (hb.sig hs) hn (by unfold maxLen; omega) (hb.lies hp) true xa 0 ho1)
  have HOB := Lib.hid (fun W (hb : Bl w W) => of_any B d m Q W (hb.sig hs) hm (by unfold maxLen; omega) (hb.lies hq) true ya 0 ho2)
  have HS := Lib.hid hs
  have hok : okK kk = true := by simp [okK]; omega
  have hcn : cnt kk = 2 := by unfold cnt; rw [if_neg (by omega), if_neg (by omega)]
  have HP := Lib.hid (fun W => show Calls Tryd.prog 26 #[.int .u8 kk] W fun e w' => e = .returned (.tuple #[.int .i64 2, .int .i64 0]) ∧ W = w' by have := parts_any kk W; rwa [show partsN kk = 2 from partsN_of hok hcn, show partsE kk = 0 by simp [partsE, hok]] at this)
  have HF := Lib.hid (fun PA pc W => node_few PA pc kk W hok hcn)
  have HN := Lib.hid (fun PA pc W (hb : Bl w W) (hl : Lies W PA [.slice A n c, .slice B m d]) => node_err (node_2 PA pc kk 0 0 W A c n P hn (hb.lies hp) hc1 B d m Q hm (hb.lies hq) hc2 hl hok (by simp [fitsF]) hcn) hck (by decide))
  have k5 : (kk == 5) = false := by rw [beq_eq_false_iff_ne]; omega
  have k6 : (kk == 6) = false := by rw [beq_eq_false_iff_ne]; omega
  have k17 : kk ≤ 17 := by omega
  have k16 : ¬ 16 ≤ kk := by omega
  have k12 : 12 ≤ kk := by omega
  have d17 : decide (kk ≤ 17) = true := by simp; omega
  have d16 : decide (16 ≤ kk) = false := by simp; omega
  have d12 : decide (12 ≤ kk) = true := by simp; omega
  clear hs hn hm hp hq ho1 ho2 hc1 hc2 hck hk1 hk2 hok hcn
  go_enter Tryd.func7, Tryd.ntmps7
  go_wp2_with (first
    | (go_at_call 18; (with_reducible refine HG.out.mono ?_); rintro e w1 ⟨rfl, rfl⟩; have b0 := Bl.start w; clear HG)
    | (go_at_call 18; (with_reducible refine HG2.out.mono ?_); rintro e w1 ⟨rfl, rfl⟩)
    | (go_at_call 26; refine (HP.out _).mono ?_; rintro e w1 ⟨rfl, rfl⟩)
    | (go_at_call 12; (with_reducible refine (HOA.out _ b0).mono ?_); rintro e w1 ⟨rfl, hb⟩; have b1 := b0.step hb; clear hb b0)
    | (go_at_call 12; (with_reducible refine (HOB.out _ b1).mono ?_); rintro e w2 ⟨rfl, hb⟩; have b2 := b1.step hb; clear hb b1)
    | (go_at_call 27; (with_reducible refine (HF.out _ _ _).mono ?_); rintro e w3 ⟨rfl, hb⟩; have b3 := (b2.al _).step hb; clear hb b2)
    | (go_at_call 27; refine (HN.out _ _ _ (b3.al _) (lies_vals w3 _ rfl _ _ _ rfl)).mono ?_; rintro e w4 ⟨rfl, hb⟩; have b5 := (b3.al _).step hb; clear hb b3)
    | (go_at_call 17; refine (alive_any _ (b5.sig HS.out)).mono ?_; rintro e w9 ⟨rfl, hb⟩; have b9 := b5.step hb; clear hb))
  go_ret
  exact ⟨rfl, b9⟩
set_option maxHeartbeats 2000000 in
theorem md_bcmp_true_true_34 (A : Option Addr) (n c : Nat) (P : List Nd) (B : Option Addr) (m d : Nat) (Q : List Nd) (kk : Int) (w : World) (hs : SigT w) (hn : P.length = n) (hm : Q.length = m) (h7 : n ≤ 60) (h8 : m ≤ 60) (hp : Lies w A (ndCells P)) (hq : Lies w B (ndCells Q)) (xa ya : Int) (ho1 : ofF P = (true, xa, 0)) (ho2 : ofF Q = (true, ya, 0)) (hc1 : checkF P = 0) (hc2 : checkF Q = 0) (hk1 : 12 ≤ kk) (hk2 : kk ≤ 15) (hck : checkF (made2 kk 0 0 P Q) = 34) :
    Calls Tryd.prog 7 #[.slice A n c, .slice B m d, .int .u8 kk] w fun e w' => e = .returned (.bool true) ∧ Below w.heap.size w w' := by
  have HG := Lib.hid (great_any A n c w false (decide_eq_false (by omega)))
  have HG2 := Lib.hid (great_any B m d w false (decide_eq_false (by omega)))
  have HOA := Lib.hid (fun W (hb : Bl w W) => of_any A c n P W (hb.sig hs) hn (by unfold maxLen; omega) (hb.lies hp) true xa 0 ho1)
  have HOB := Lib.hid (fun W (hb : Bl w W) => of_any B d m Q W (hb.sig hs) hm (by unfold maxLen; omega) (hb.lies hq) true ya 0 ho2)
  have HS := Lib.hid hs
  have hok : okK kk = true := by simp [okK]; omega
  have hcn : cnt kk = 2 := by unfold cnt; rw [if_neg (by omega), if_neg (by omega)]
  have HP := Lib.hid (fun W => show Calls Tryd.prog 26 #[.int .u8 kk] W fun e w' => e = .returned (.tuple #[.int .i64 2, .int .i64 0]) ∧ W = w' by have := parts_any kk W; rwa [show partsN kk = 2 from partsN_of hok hcn, show partsE kk = 0 by simp [partsE, hok]] at this)
  have HF := Lib.hid (fun PA pc W => node_few PA pc kk W hok hcn)
  have HN := Lib.hid (fun PA pc W (hb : Bl w W) (hl : Lies W PA [.slice A n c, .slice B m d]) => node_err (node_2 PA pc kk 0 0 W A c n P hn (hb.lies hp) hc1 B d m Q hm (hb.lies hq) hc2 hl hok (by simp [fitsF]) hcn) hck (by decide))
  have k5 : (kk == 5) = false := by rw [beq_eq_false_iff_ne]; omega
  have k6 : (kk == 6) = false := by rw [beq_eq_false_iff_ne]; omega
  have k17 : kk ≤ 17 := by omega
  have k16 : ¬ 16 ≤ kk := by omega
  have k12 : 12 ≤ kk := by omega
  have d17 : decide (kk ≤ 17) = true := by simp; omega
  have d16 : decide (16 ≤ kk) = false := by simp; omega
  have d12 : decide (12 ≤ kk) = true := by simp; omega
  clear hs hn hm hp hq ho1 ho2 hc1 hc2 hck hk1 hk2 hok hcn
  go_enter Tryd.func7, Tryd.ntmps7
  go_wp2_with (first
    | (go_at_call 18; (with_reducible refine HG.out.mono ?_); rintro e w1 ⟨rfl, rfl⟩; have b0 := Bl.start w; clear HG)
    | (go_at_call 18; (with_reducible refine HG2.out.mono ?_); rintro e w1 ⟨rfl, rfl⟩)
    | (go_at_call 26; refine (HP.out _).mono ?_; rintro e w1 ⟨rfl, rfl⟩)
    | (go_at_call 12; (with_reducible refine (HOA.out _ b0).mono ?_); rintro e w1 ⟨rfl, hb⟩; have b1 := b0.step hb; clear hb b0)
    | (go_at_call 12; (with_reducible refine (HOB.out _ b1).mono ?_); rintro e w2 ⟨rfl, hb⟩; have b2 := b1.step hb; clear hb b1)
    | (go_at_call 27; (with_reducible refine (HF.out _ _ _).mono ?_); rintro e w3 ⟨rfl, hb⟩; have b3 := (b2.al _).step hb; clear hb b2)
    | (go_at_call 27; refine (HN.out _ _ _ (b3.al _) (lies_vals w3 _ rfl _ _ _ rfl)).mono ?_; rintro e w4 ⟨rfl, hb⟩; have b5 := (b3.al _).step hb; clear hb b3)
    | (go_at_call 17; refine (alive_any _ (b5.sig HS.out)).mono ?_; rintro e w9 ⟨rfl, hb⟩; have b9 := b5.step hb; clear hb))
  go_ret
  exact ⟨rfl, b9⟩
set_option maxHeartbeats 2000000 in
theorem md_beq_true_true_ok (A : Option Addr) (n c : Nat) (P : List Nd) (B : Option Addr) (m d : Nat) (Q : List Nd) (kk : Int) (w : World) (hs : SigT w) (hn : P.length = n) (hm : Q.length = m) (h7 : n ≤ 60) (h8 : m ≤ 60) (hp : Lies w A (ndCells P)) (hq : Lies w B (ndCells Q)) (xa ya : Int) (ho1 : ofF P = (true, xa, 0)) (ho2 : ofF Q = (true, ya, 0)) (hc1 : checkF P = 0) (hc2 : checkF Q = 0) (hk1 : 16 ≤ kk) (hk2 : kk ≤ 17) (hck : checkF (made2 kk 0 0 P Q) = 0) (hol : ofF (made2 kk 0 0 P Q) = (true, (n : Int) + m, 0)) :
    Calls Tryd.prog 7 #[.slice A n c, .slice B m d, .int .u8 kk] w fun e w' => e = .returned (.bool true) ∧ Below w.heap.size w w' := by
  have HG := Lib.hid (great_any A n c w false (decide_eq_false (by omega)))
  have HG2 := Lib.hid (great_any B m d w false (decide_eq_false (by omega)))
  have HOA := Lib.hid (fun W (hb : Bl w W) => of_any A c n P W (hb.sig hs) hn (by unfold maxLen; omega) (hb.lies hp) true xa 0 ho1)
  have HOB := Lib.hid (fun W (hb : Bl w W) => of_any B d m Q W (hb.sig hs) hm (by unfold maxLen; omega) (hb.lies hq) true ya 0 ho2)
  have HS := Lib.hid hs
  have hok : okK kk = true := by simp [okK]; omega
  have hcn : cnt kk = 2 := by unfold cnt; rw [if_neg (by omega), if_neg (by omega)]
  have HP := Lib.hid (fun W => show Calls Tryd.prog 26 #[.int .u8 kk] W fun e w' => e = .returned (.tuple #[.int .i64 2, .int .i64 0]) ∧ W = w' by have := parts_any kk W; rwa [show partsN kk = 2 from partsN_of hok hcn, show partsE kk = 0 by simp [partsE, hok]] at this)
  have HF := Lib.hid (fun PA pc W => node_few PA pc kk W hok hcn)
  have HN := Lib.hid (fun PA pc W (hb : Bl w W) (hl : Lies W PA [.slice A n c, .slice B m d]) => node_ok (n := n + m + 1) (node_2 PA pc kk 0 0 W A c n P hn (hb.lies hp) hc1 B d m Q hm (hb.lies hq) hc2 hl hok (by simp [fitsF]) hcn) hck (by rw [made2_len, hn, hm]))
  have HOL := Lib.hid (fun D e W (hb : Bl w W) hl => of_any D e (n + m + 1) (made2 kk 0 0 P Q) W (hb.sig hs) (by rw [made2_len, hn, hm]) (by unfold maxLen; omega) hl _ _ _ hol)
  have e1 : ((n + m + 1 : Nat) : Int) - 1 = (n : Int) + m := by omega
  have k5 : (kk == 5) = false := by rw [beq_eq_false_iff_ne]; omega
  have k6 : (kk == 6) = false := by rw [beq_eq_false_iff_ne]; omega
  have k17 : kk ≤ 17 := by omega
  have k16 : 16 ≤ kk := by omega
  have k12 : 12 ≤ kk := by omega
  have d17 : decide (kk ≤ 17) = true := by simp; omega
  have d16 : decide (16 ≤ kk) = true := by simp; omega
  have d12 : decide (12 ≤ kk) = true := by simp; omega
  clear hs hn hm hp hq ho1 ho2 hc1 hc2 hck hk1 hk2 hok hcn hol
  go_enter Tryd.func7, Tryd.ntmps7
  go_wp2_with (first
    | (go_at_call 18; (with_reducible refine HG.out.mono ?_); rintro e w1 ⟨rfl, rfl⟩; have b0 := Bl.start w; clear HG)
    | (go_at_call 18; (with_reducible refine HG2.out.mono ?_); rintro e w1 ⟨rfl, rfl⟩)
    | (go_at_call 26; refine (HP.out _).mono ?_; rintro e w1 ⟨rfl, rfl⟩)
    | (go_at_call 12; (with_reducible refine (HOA.out _ b0).mono ?_); rintro e w1 ⟨rfl, hb⟩; have b1 := b0.step hb; clear hb b0)
    | (go_at_call 12; (with_reducible refine (HOB.out _ b1).mono ?_); rintro e w2 ⟨rfl, hb⟩; have b2 := b1.step hb; clear hb b1)
    | (go_at_call 27; (with_reducible refine (HF.out _ _ _).mono ?_); rintro e w3 ⟨rfl, hb⟩; have b3 := (b2.al _).step hb; clear hb b2)
    | (go_at_call 27; refine (HN.out _ _ _ (b3.al _) (lies_vals w3 _ rfl _ _ _ rfl)).mono ?_; rintro e w4 ⟨A4, c4, rfl, hl4, hb⟩; have b4 := (b3.al _).step hb; have HL4 := Lib.hid hl4; clear hb b3 hl4)
    | (go_at_call 12; (with_reducible refine (HOL.out _ _ _ b4 HL4.out).mono ?_); rintro e w5 ⟨rfl, hb⟩; have b5 := b4.step hb; clear hb b4)
    | (go_at_call 17; refine (alive_any _ (b5.sig HS.out)).mono ?_; rintro e w9 ⟨rfl, hb⟩; have b9 := b5.step hb; clear hb))
  go_ret
  exact ⟨rfl, b9⟩
set_option maxHeartbeats 2000000 in
theorem md_beq_true_true_4 (A : Option Addr) (n c : Nat) (P : List Nd) (B : Option Addr) (m d : Nat) (Q : List Nd) (kk : Int) (w : World) (hs : SigT w) (hn : P.length = n) (hm : Q.length = m) (h7 : n ≤ 60) (h8 : m ≤ 60) (hp : Lies w A (ndCells P)) (hq : Lies w B (ndCells Q)) (xa ya : Int) (ho1 : ofF P = (true, xa, 0)) (ho2 : ofF Q = (true, ya, 0)) (hc1 : checkF P = 0) (hc2 : checkF Q = 0) (hk1 : 16 ≤ kk) (hk2 : kk ≤ 17) (hck : checkF (made2 kk 0 0 P Q) = 4) :
    Calls Tryd.prog 7 #[.slice A n c, .slice B m d, .int .u8 kk] w fun e w' => e = .returned (.bool true) ∧ Below w.heap.size w w' := by
  have HG := Lib.hid (great_any A n c w false (decide_eq_false (by omega)))
  have HG2 := Lib.hid (great_any B m d w false (decide_eq_false (by omega)))
  have HOA := Lib.hid (fun W (hb : Bl w W) => of_any A c n P W (hb.sig hs) hn (by unfold maxLen; omega) (hb.lies hp) true xa 0 ho1)
  have HOB := Lib.hid (fun W (hb : Bl w W) => of_any B d m Q W (hb.sig hs) hm (by unfold maxLen; omega) (hb.lies hq) true ya 0 ho2)
  have HS := Lib.hid hs
  have hok : okK kk = true := by simp [okK]; omega
  have hcn : cnt kk = 2 := by unfold cnt; rw [if_neg (by omega), if_neg (by omega)]
  have HP := Lib.hid (fun W => show Calls Tryd.prog 26 #[.int .u8 kk] W fun e w' => e = .returned (.tuple #[.int .i64 2, .int .i64 0]) ∧ W = w' by have := parts_any kk W; rwa [show partsN kk = 2 from partsN_of hok hcn, show partsE kk = 0 by simp [partsE, hok]] at this)
  have HF := Lib.hid (fun PA pc W => node_few PA pc kk W hok hcn)
  have HN := Lib.hid (fun PA pc W (hb : Bl w W) (hl : Lies W PA [.slice A n c, .slice B m d]) => node_err (node_2 PA pc kk 0 0 W A c n P hn (hb.lies hp) hc1 B d m Q hm (hb.lies hq) hc2 hl hok (by simp [fitsF]) hcn) hck (by decide))
  have k5 : (kk == 5) = false := by rw [beq_eq_false_iff_ne]; omega
  have k6 : (kk == 6) = false := by rw [beq_eq_false_iff_ne]; omega
  have k17 : kk ≤ 17 := by omega
  have k16 : 16 ≤ kk := by omega
  have k12 : 12 ≤ kk := by omega
  have d17 : decide (kk ≤ 17) = true := by simp; omega
  have d16 : decide (16 ≤ kk) = true := by simp; omega
  have d12 : decide (12 ≤ kk) = true := by simp; omega
  clear hs hn hm hp hq ho1 ho2 hc1 hc2 hck hk1 hk2 hok hcn
  go_enter Tryd.func7, Tryd.ntmps7
  go_wp2_with (first
    | (go_at_call 18; (with_reducible refine HG.out.mono ?_); rintro e w1 ⟨rfl, rfl⟩; have b0 := Bl.start w; clear HG)
    | (go_at_call 18; (with_reducible refine HG2.out.mono ?_); rintro e w1 ⟨rfl, rfl⟩)
    | (go_at_call 26; refine (HP.out _).mono ?_; rintro e w1 ⟨rfl, rfl⟩)
    | (go_at_call 12; (with_reducible refine (HOA.out _ b0).mono ?_); rintro e w1 ⟨rfl, hb⟩; have b1 := b0.step hb; clear hb b0)
    | (go_at_call 12; (with_reducible refine (HOB.out _ b1).mono ?_); rintro e w2 ⟨rfl, hb⟩; have b2 := b1.step hb; clear hb b1)
    | (go_at_call 27; (with_reducible refine (HF.out _ _ _).mono ?_); rintro e w3 ⟨rfl, hb⟩; have b3 := (b2.al _).step hb; clear hb b2)
    | (go_at_call 27; refine (HN.out _ _ _ (b3.al _) (lies_vals w3 _ rfl _ _ _ rfl)).mono ?_; rintro e w4 ⟨rfl, hb⟩; have b5 := (b3.al _).step hb; clear hb b3)
    | (go_at_call 17; refine (alive_any _ (b5.sig HS.out)).mono ?_; rintro e w9 ⟨rfl, hb⟩; have b9 := b5.step hb; clear hb))
  go_ret
  exact ⟨rfl, b9⟩
set_option maxHeartbeats 2000000 in
theorem md_beq_true_true_34 (A : Option Addr) (n c : Nat) (P : List Nd) (B : Option Addr) (m d : Nat) (Q : List Nd) (kk : Int) (w : World) (hs : SigT w) (hn : P.length = n) (hm : Q.length = m) (h7 : n ≤ 60) (h8 : m ≤ 60) (hp : Lies w A (ndCells P)) (hq : Lies w B (ndCells Q)) (xa ya : Int) (ho1 : ofF P = (true, xa, 0)) (ho2 : ofF Q = (true, ya, 0)) (hc1 : checkF P = 0) (hc2 : checkF Q = 0) (hk1 : 16 ≤ kk) (hk2 : kk ≤ 17) (hck : checkF (made2 kk 0 0 P Q) = 34) :
    Calls Tryd.prog 7 #[.slice A n c, .slice B m d, .int .u8 kk] w fun e w' => e = .returned (.bool true) ∧ Below w.heap.size w w' := by
  have HG := Lib.hid (great_any A n c w false (decide_eq_false (by omega)))
  have HG2 := Lib.hid (great_any B m d w false (decide_eq_false (by omega)))
  have HOA := Lib.hid (fun W (hb : Bl w W) => of_any A c n P W (hb.sig hs) hn (by unfold maxLen; omega) (hb.lies hp) true xa 0 ho1)
  have HOB := Lib.hid (fun W (hb : Bl w W) => of_any B d m Q W (hb.sig hs) hm (by unfold maxLen; omega) (hb.lies hq) true ya 0 ho2)
  have HS := Lib.hid hs
  have hok : okK kk = true := by simp [okK]; omega
  have hcn : cnt kk = 2 := by unfold cnt; rw [if_neg (by omega), if_neg (by omega)]
  have HP := Lib.hid (fun W => show Calls Tryd.prog 26 #[.int .u8 kk] W fun e w' => e = .returned (.tuple #[.int .i64 2, .int .i64 0]) ∧ W = w' by have := parts_any kk W; rwa [show partsN kk = 2 from partsN_of hok hcn, show partsE kk = 0 by simp [partsE, hok]] at this)
  have HF := Lib.hid (fun PA pc W => node_few PA pc kk W hok hcn)
  have HN := Lib.hid (fun PA pc W (hb : Bl w W) (hl : Lies W PA [.slice A n c, .slice B m d]) => node_err (node_2 PA pc kk 0 0 W A c n P hn (hb.lies hp) hc1 B d m Q hm (hb.lies hq) hc2 hl hok (by simp [fitsF]) hcn) hck (by decide))
  have k5 : (kk == 5) = false := by rw [beq_eq_false_iff_ne]; omega
  have k6 : (kk == 6) = false := by rw [beq_eq_false_iff_ne]; omega
  have k17 : kk ≤ 17 := by omega
  have k16 : 16 ≤ kk := by omega
  have k12 : 12 ≤ kk := by omega
  have d17 : decide (kk ≤ 17) = true := by simp; omega
  have d16 : decide (16 ≤ kk) = true := by simp; omega
  have d12 : decide (12 ≤ kk) = true := by simp; omega
  clear hs hn hm hp hq ho1 ho2 hc1 hc2 hck hk1 hk2 hok hcn
  go_enter Tryd.func7, Tryd.ntmps7
  go_wp2_with (first
    | (go_at_call 18; (with_reducible refine HG.out.mono ?_); rintro e w1 ⟨rfl, rfl⟩; have b0 := Bl.start w; clear HG)
    | (go_at_call 18; (with_reducible refine HG2.out.mono ?_); rintro e w1 ⟨rfl, rfl⟩)
    | (go_at_call 26; refine (HP.out _).mono ?_; rintro e w1 ⟨rfl, rfl⟩)
    | (go_at_call 12; (with_reducible refine (HOA.out _ b0).mono ?_); rintro e w1 ⟨rfl, hb⟩; have b1 := b0.step hb; clear hb b0)
    | (go_at_call 12; (with_reducible refine (HOB.out _ b1).mono ?_); rintro e w2 ⟨rfl, hb⟩; have b2 := b1.step hb; clear hb b1)
    | (go_at_call 27; (with_reducible refine (HF.out _ _ _).mono ?_); rintro e w3 ⟨rfl, hb⟩; have b3 := (b2.al _).step hb; clear hb b2)
    | (go_at_call 27; refine (HN.out _ _ _ (b3.al _) (lies_vals w3 _ rfl _ _ _ rfl)).mono ?_; rintro e w4 ⟨rfl, hb⟩; have b5 := (b3.al _).step hb; clear hb b3)
    | (go_at_call 17; refine (alive_any _ (b5.sig HS.out)).mono ?_; rintro e w9 ⟨rfl, hb⟩; have b9 := b5.step hb; clear hb))
  go_ret
  exact ⟨rfl, b9⟩
set_option maxHeartbeats 2000000 in
theorem md_blog_true_true_ok (A : Option Addr) (n c : Nat) (P : List Nd) (B : Option Addr) (m d : Nat) (Q : List Nd) (kk : Int) (w : World) (hs : SigT w) (hn : P.length = n) (hm : Q.length = m) (h7 : n ≤ 60) (h8 : m ≤ 60) (hp : Lies w A (ndCells P)) (hq : Lies w B (ndCells Q)) (xa ya : Int) (ho1 : ofF P = (true, xa, 0)) (ho2 : ofF Q = (true, ya, 0)) (hc1 : checkF P = 0) (hc2 : checkF Q = 0) (hk1 : 18 ≤ kk) (hk2 : kk ≤ 19) (hck : checkF (made2 kk 0 0 P Q) = 0) (hol : ofF (made2 kk 0 0 P Q) = (true, (n : Int) + m, 0)) :
    Calls Tryd.prog 7 #[.slice A n c, .slice B m d, .int .u8 kk] w fun e w' => e = .returned (.bool true) ∧ Below w.heap.size w w' := by
  have HG := Lib.hid (great_any A n c w false (decide_eq_false (by omega)))
  have HG2 := Lib.hid (great_any B m d w false (decide_eq_false (by omega)))
  have HOA := Lib.hid (fun W (hb : Bl w W) => of_any A c n P W (hb.sig hs) hn (by unfold maxLen; omega) (hb.lies hp) true xa 0 ho1)
  have HOB := Lib.hid (fun W (hb : Bl w W) => of_any B d m Q W (hb.sig hs) hm (by unfold maxLen; omega) (hb.lies hq) true ya 0 ho2)
  have HS := Lib.hid hs
  have hok : okK kk = true := by simp [okK]; omega
  have hcn : cnt kk = 2 := by unfold cnt; rw [if_neg (by omega), if_neg (by omega)]
  have HP := Lib.hid (fun W => show Calls Tryd.prog 26 #[.int .u8 kk] W fun e w' => e = .returned (.tuple #[.int .i64 2, .int .i64 0]) ∧ W = w' by have := parts_any kk W; rwa [show partsN kk = 2 from partsN_of hok hcn, show partsE kk = 0 by simp [partsE, hok]] at this)
  have HF := Lib.hid (fun PA pc W => node_few PA pc kk W hok hcn)
  have HN := Lib.hid (fun PA pc W (hb : Bl w W) (hl : Lies W PA [.slice A n c, .slice B m d]) => node_ok (n := n + m + 1) (node_2 PA pc kk 0 0 W A c n P hn (hb.lies hp) hc1 B d m Q hm (hb.lies hq) hc2 hl hok (by simp [fitsF]) hcn) hck (by rw [made2_len, hn, hm]))
  have HOL := Lib.hid (fun D e W (hb : Bl w W) hl => of_any D e (n + m + 1) (made2 kk 0 0 P Q) W (hb.sig hs) (by rw [made2_len, hn, hm]) (by unfold maxLen; omega) hl _ _ _ hol)
  have e1 : ((n + m + 1 : Nat) : Int) - 1 = (n : Int) + m := by omega
  have k5 : (kk == 5) = false := by rw [beq_eq_false_iff_ne]; omega
  have k6 : (kk == 6) = false := by rw [beq_eq_false_iff_ne]; omega
  have k17 : ¬ kk ≤ 17 := by omega
  have k16 : 16 ≤ kk := by omega
  have k12 : 12 ≤ kk := by omega
  have d17 : decide (kk ≤ 17) = false := by simp; omega
  have d16 : decide (16 ≤ kk) = true := by simp; omega
  have d12 : decide (12 ≤ kk) = true := by simp; omega
  clear hs hn hm hp hq ho1 ho2 hc1 hc2 hck hk1 hk2 hok hcn hol
  go_enter Tryd.func7, Tryd.ntmps7
  go_wp2_with (first
    | (go_at_call 18; (with_reducible refine HG.out.mono ?_); rintro e w1 ⟨rfl, rfl⟩; have b0 := Bl.start w; clear HG)
    | (go_at_call 18; (with_reducible refine HG2.out.mono ?_); rintro e w1 ⟨rfl, rfl⟩)
    | (go_at_call 26; refine (HP.out _).mono ?_; rintro e w1 ⟨rfl, rfl⟩)
    | (go_at_call 12; (with_reducible refine (HOA.out _ b0).mono ?_); rintro e w1 ⟨rfl, hb⟩; have b1 := b0.step hb; clear hb b0)
    | (go_at_call 12; (with_reducible refine (HOB.out _ b1).mono ?_); rintro e w2 ⟨rfl, hb⟩; have b2 := b1.step hb; clear hb b1)
    | (go_at_call 27; (with_reducible refine (HF.out _ _ _).mono ?_); rintro e w3 ⟨rfl, hb⟩; have b3 := (b2.al _).step hb; clear hb b2)
    | (go_at_call 27; refine (HN.out _ _ _ (b3.al _) (lies_vals w3 _ rfl _ _ _ rfl)).mono ?_; rintro e w4 ⟨A4, c4, rfl, hl4, hb⟩; have b4 := (b3.al _).step hb; have HL4 := Lib.hid hl4; clear hb b3 hl4)
    | (go_at_call 12; (with_reducible refine (HOL.out _ _ _ b4 HL4.out).mono ?_); rintro e w5 ⟨rfl, hb⟩; have b5 := b4.step hb; clear hb b4)
    | (go_at_call 17; refine (alive_any _ (b5.sig HS.out)).mono ?_; rintro e w9 ⟨rfl, hb⟩; have b9 := b5.step hb; clear hb))
  go_ret
  exact ⟨rfl, b9⟩
set_option maxHeartbeats 2000000 in
theorem md_blog_true_true_4 (A : Option Addr) (n c : Nat) (P : List Nd) (B : Option Addr) (m d : Nat) (Q : List Nd) (kk : Int) (w : World) (hs : SigT w) (hn : P.length = n) (hm : Q.length = m) (h7 : n ≤ 60) (h8 : m ≤ 60) (hp : Lies w A (ndCells P)) (hq : Lies w B (ndCells Q)) (xa ya : Int) (ho1 : ofF P = (true, xa, 0)) (ho2 : ofF Q = (true, ya, 0)) (hc1 : checkF P = 0) (hc2 : checkF Q = 0) (hk1 : 18 ≤ kk) (hk2 : kk ≤ 19) (hck : checkF (made2 kk 0 0 P Q) = 4) :
    Calls Tryd.prog 7 #[.slice A n c, .slice B m d, .int .u8 kk] w fun e w' => e = .returned (.bool true) ∧ Below w.heap.size w w' := by
  have HG := Lib.hid (great_any A n c w false (decide_eq_false (by omega)))
  have HG2 := Lib.hid (great_any B m d w false (decide_eq_false (by omega)))
  have HOA := Lib.hid (fun W (hb : Bl w W) => of_any A c n P W (hb.sig hs) hn (by unfold maxLen; omega) (hb.lies hp) true xa 0 ho1)
  have HOB := Lib.hid (fun W (hb : Bl w W) => of_any B d m Q W (hb.sig hs) hm (by unfold maxLen; omega) (hb.lies hq) true ya 0 ho2)
  have HS := Lib.hid hs
  have hok : okK kk = true := by simp [okK]; omega
  have hcn : cnt kk = 2 := by unfold cnt; rw [if_neg (by omega), if_neg (by omega)]
  have HP := Lib.hid (fun W => show Calls Tryd.prog 26 #[.int .u8 kk] W fun e w' => e = .returned (.tuple #[.int .i64 2, .int .i64 0]) ∧ W = w' by have := parts_any kk W; rwa [show partsN kk = 2 from partsN_of hok hcn, show partsE kk = 0 by simp [partsE, hok]] at this)
  have HF := Lib.hid (fun PA pc W => node_few PA pc kk W hok hcn)
  have HN := Lib.hid (fun PA pc W (hb : Bl w W) (hl : Lies W PA [.slice A n c, .slice B m d]) => node_err (node_2 PA pc kk 0 0 W A c n P hn (hb.lies hp) hc1 B d m Q hm (hb.lies hq) hc2 hl hok (by simp [fitsF]) hcn) hck (by decide))
  have k5 : (kk == 5) = false := by rw [beq_eq_false_iff_ne]; omega
  have k6 : (kk == 6) = false := by rw [beq_eq_false_iff_ne]; omega
  have k17 : ¬ kk ≤ 17 := by omega
  have k16 : 16 ≤ kk := by omega
  have k12 : 12 ≤ kk := by omega
  have d17 : decide (kk ≤ 17) = false := by simp; omega
  have d16 : decide (16 ≤ kk) = true := by simp; omega
  have d12 : decide (12 ≤ kk) = true := by simp; omega
  clear hs hn hm hp hq ho1 ho2 hc1 hc2 hck hk1 hk2 hok hcn
  go_enter Tryd.func7, Tryd.ntmps7
  go_wp2_with (first
    | (go_at_call 18; (with_reducible refine HG.out.mono ?_); rintro e w1 ⟨rfl, rfl⟩; have b0 := Bl.start w; clear HG)
    | (go_at_call 18; (with_reducible refine HG2.out.mono ?_); rintro e w1 ⟨rfl, rfl⟩)
    | (go_at_call 26; refine (HP.out _).mono ?_; rintro e w1 ⟨rfl, rfl⟩)
    | (go_at_call 12; (with_reducible refine (HOA.out _ b0).mono ?_); rintro e w1 ⟨rfl, hb⟩; have b1 := b0.step hb; clear hb b0)
    | (go_at_call 12; (with_reducible refine (HOB.out _ b1).mono ?_); rintro e w2 ⟨rfl, hb⟩; have b2 := b1.step hb; clear hb b1)
    | (go_at_call 27; (with_reducible refine (HF.out _ _ _).mono ?_); rintro e w3 ⟨rfl, hb⟩; have b3 := (b2.al _).step hb; clear hb b2)
    | (go_at_call 27; refine (HN.out _ _ _ (b3.al _) (lies_vals w3 _ rfl _ _ _ rfl)).mono ?_; rintro e w4 ⟨rfl, hb⟩; have b5 := (b3.al _).step hb; clear hb b3)
    | (go_at_call 17; refine (alive_any _ (b5.sig HS.out)).mono ?_; rintro e w9 ⟨rfl, hb⟩; have b9 := b5.step hb; clear hb))
  go_ret
  exact ⟨rfl, b9⟩
set_option maxHeartbeats 2000000 in
theorem md_blog_true_true_34 (A : Option Addr) (n c : Nat) (P : List Nd) (B : Option Addr) (m d : Nat) (Q : List Nd) (kk : Int) (w : World) (hs : SigT w) (hn : P.length = n) (hm : Q.length = m) (h7 : n ≤ 60) (h8 : m ≤ 60) (hp : Lies w A (ndCells P)) (hq : Lies w B (ndCells Q)) (xa ya : Int) (ho1 : ofF P = (true, xa, 0)) (ho2 : ofF Q = (true, ya, 0)) (hc1 : checkF P = 0) (hc2 : checkF Q = 0) (hk1 : 18 ≤ kk) (hk2 : kk ≤ 19) (hck : checkF (made2 kk 0 0 P Q) = 34) :
    Calls Tryd.prog 7 #[.slice A n c, .slice B m d, .int .u8 kk] w fun e w' => e = .returned (.bool true) ∧ Below w.heap.size w w' := by
  have HG := Lib.hid (great_any A n c w false (decide_eq_false (by omega)))
  have HG2 := Lib.hid (great_any B m d w false (decide_eq_false (by omega)))
  have HOA := Lib.hid (fun W (hb : Bl w W) => of_any A c n P W (hb.sig hs) hn (by unfold maxLen; omega) (hb.lies hp) true xa 0 ho1)
  have HOB := Lib.hid (fun W (hb : Bl w W) => of_any B d m Q W (hb.sig hs) hm (by unfold maxLen; omega) (hb.lies hq) true ya 0 ho2)
  have HS := Lib.hid hs
  have hok : okK kk = true := by simp [okK]; omega
  have hcn : cnt kk = 2 := by unfold cnt; rw [if_neg (by omega), if_neg (by omega)]
  have HP := Lib.hid (fun W => show Calls Tryd.prog 26 #[.int .u8 kk] W fun e w' => e = .returned (.tuple #[.int .i64 2, .int .i64 0]) ∧ W = w' by have := parts_any kk W; rwa [show partsN kk = 2 from partsN_of hok hcn, show partsE kk = 0 by simp [partsE, hok]] at this)
  have HF := Lib.hid (fun PA pc W => node_few PA pc kk W hok hcn)
  have HN := Lib.hid (fun PA pc W (hb : Bl w W) (hl : Lies W PA [.slice A n c, .slice B m d]) => node_err (node_2 PA pc kk 0 0 W A c n P hn (hb.lies hp) hc1 B d m Q hm (hb.lies hq) hc2 hl hok (by simp [fitsF]) hcn) hck (by decide))
  have k5 : (kk == 5) = false := by rw [beq_eq_false_iff_ne]; omega
  have k6 : (kk == 6) = false := by rw [beq_eq_false_iff_ne]; omega
  have k17 : ¬ kk ≤ 17 := by omega
  have k16 : 16 ≤ kk := by omega
  have k12 : 12 ≤ kk := by omega
  have d17 : decide (kk ≤ 17) = false := by simp; omega
  have d16 : decide (16 ≤ kk) = true := by simp; omega
  have d12 : decide (12 ≤ kk) = true := by simp; omega
  clear hs hn hm hp hq ho1 ho2 hc1 hc2 hck hk1 hk2 hok hcn
  go_enter Tryd.func7, Tryd.ntmps7
  go_wp2_with (first
    | (go_at_call 18; (with_reducible refine HG.out.mono ?_); rintro e w1 ⟨rfl, rfl⟩; have b0 := Bl.start w; clear HG)
    | (go_at_call 18; (with_reducible refine HG2.out.mono ?_); rintro e w1 ⟨rfl, rfl⟩)
    | (go_at_call 26; refine (HP.out _).mono ?_; rintro e w1 ⟨rfl, rfl⟩)
    | (go_at_call 12; (with_reducible refine (HOA.out _ b0).mono ?_); rintro e w1 ⟨rfl, hb⟩; have b1 := b0.step hb; clear hb b0)
    | (go_at_call 12; (with_reducible refine (HOB.out _ b1).mono ?_); rintro e w2 ⟨rfl, hb⟩; have b2 := b1.step hb; clear hb b1)
    | (go_at_call 27; (with_reducible refine (HF.out _ _ _).mono ?_); rintro e w3 ⟨rfl, hb⟩; have b3 := (b2.al _).step hb; clear hb b2)
    | (go_at_call 27; refine (HN.out _ _ _ (b3.al _) (lies_vals w3 _ rfl _ _ _ rfl)).mono ?_; rintro e w4 ⟨rfl, hb⟩; have b5 := (b3.al _).step hb; clear hb b3)
    | (go_at_call 17; refine (alive_any _ (b5.sig HS.out)).mono ?_; rintro e w9 ⟨rfl, hb⟩; have b9 := b5.step hb; clear hb))
  go_ret
  exact ⟨rfl, b9⟩
set_option maxHeartbeats 2000000 in
theorem md_bnum_true_false_ok (A : Option Addr) (n c : Nat) (P : List Nd) (B : Option Addr) (m d : Nat) (Q : List Nd) (kk : Int) (w : World) (hs : SigT w) (hn : P.length = n) (hm : Q.length = m) (h7 : n ≤ 60) (h8 : m ≤ 60) (hp : Lies w A (ndCells P)) (hq : Lies w B (ndCells Q)) (xa ya : Int) (ho1 : ofF P = (true, xa, 0)) (ho2 : ofF Q = (false, ya, 0)) (hc1 : checkF P = 0) (hc2 : checkF Q = 0) (hk1 : 7 ≤ kk) (hk2 : kk ≤ 11) (hck : checkF (made2 kk 0 0 P Q) = 0) (hol : ofF (made2 kk 0 0 P Q) = (false, (n : Int) + m, 42)) :
    Calls Tryd.prog 7 #[.slice A n c, .slice B m d, .int .u8 kk] w fun e w' => e = .returned (.bool true) ∧ Below w.heap.size w w' := by
  have HG := Lib.hid (great_any A n c w false (decide_eq_false (by omega)))
  have HG2 := Lib.hid (great_any B m d w false (decide_eq_false (by omega)))
  have HOA := Lib.hid (fun W (hb : Bl w W) => of_any A c n P W (hb.sig hs) hn (by unfold maxLen; omega) (hb.lies hp) true xa 0 ho1)
  have HOB := Lib.hid (fun W (hb : Bl w W) => of_any B d m Q W (hb.sig hs) hm (by unfold maxLen; omega) (hb.lies hq) false ya 0 ho2)
  have HS := Lib.hid hs
  have hok : okK kk = true := by simp [okK]; omega
  have hcn : cnt kk = 2 := by unfold cnt; rw [if_neg (by omega), if_neg (by omega)]
  have HP := Lib.hid (fun W => show Calls Tryd.prog 26 #[.int .u8 kk] W fun e w' => e = .returned (.tuple #[.int .i64 2, .int .i64 0]) ∧ W = w' by have := parts_any kk W; rwa [show partsN kk = 2 from partsN_of hok hcn, show partsE kk = 0 by simp [partsE, hok]] at this)
  have HF := Lib.hid (fun PA pc W => node_few PA pc kk W hok hcn)
  have HN := Lib.hid (fun PA pc W (hb : Bl w W) (hl : Lies W PA [.slice A n c, .slice B m d]) => node_ok (n := n + m + 1) (node_2 PA pc kk 0 0 W A c n P hn (hb.lies hp) hc1 B d m Q hm (hb.lies hq) hc2 hl hok (by simp [fitsF]) hcn) hck (by rw [made2_len, hn, hm]))
  have HOL := Lib.hid (fun D e W (hb : Bl w W) hl => of_any D e (n + m + 1) (made2 kk 0 0 P Q) W (hb.sig hs) (by rw [made2_len, hn, hm]) (by unfold maxLen; omega) hl _ _ _ hol)
  have e1 : ((n + m + 1 : Nat) : Int) - 1 = (n : Int) + m := by omega
  have k5 : (kk == 5) = false := by rw [beq_eq_false_iff_ne]; omega
  have k6 : (kk == 6) = false := by rw [beq_eq_false_iff_ne]; omega
  have k17 : kk ≤ 17 := by omega
  have k16 : ¬ 16 ≤ kk := by omega
  have k12 : ¬ 12 ≤ kk := by omega
  have d17 : decide (kk ≤ 17) = true := by simp; omega
  have d16 : decide (16 ≤ kk) = false := by simp; omega
  have d12 : decide (12 ≤ kk) = false := by simp; omega
  clear hs hn hm hp hq ho1 ho2 hc1 hc2 hck hk1 hk2 hok hcn hol
  go_enter Tryd.func7, Tryd.ntmps7
  go_wp2_with (first
    | (go_at_call 18; (with_reducible refine HG.out.mono ?_); rintro e w1 ⟨rfl, rfl⟩; have b0 := Bl.start w; clear HG)
    | (go_at_call 18; (with_reducible refine HG2.out.mono ?_); rintro e w1 ⟨rfl, rfl⟩)
    | (go_at_call 26; refine (HP.out _).mono ?_; rintro e w1 ⟨rfl, rfl⟩)
    | (go_at_call 12; (with_reducible refine (HOA.out _ b0).mono ?_); rintro e w1 ⟨rfl, hb⟩; have b1 := b0.step hb; clear hb b0)
    | (go_at_call 12; (with_reducible refine (HOB.out _ b1).mono ?_); rintro e w2 ⟨rfl, hb⟩; have b2 := b1.step hb; clear hb b1)
    | (go_at_call 27; (with_reducible refine (HF.out _ _ _).mono ?_); rintro e w3 ⟨rfl, hb⟩; have b3 := (b2.al _).step hb; clear hb b2)
    | (go_at_call 27; refine (HN.out _ _ _ (b3.al _) (lies_vals w3 _ rfl _ _ _ rfl)).mono ?_; rintro e w4 ⟨A4, c4, rfl, hl4, hb⟩; have b4 := (b3.al _).step hb; have HL4 := Lib.hid hl4; clear hb b3 hl4)
    | (go_at_call 12; (with_reducible refine (HOL.out _ _ _ b4 HL4.out).mono ?_); rintro e w5 ⟨rfl, hb⟩; have b5 := b4.step hb; clear hb b4)
    | (go_at_call 17; refine (alive_any _ (b5.sig HS.out)).mono ?_; rintro e w9 ⟨rfl, hb⟩; have b9 := b5.step hb; clear hb))
  go_ret
  exact ⟨rfl, b9⟩
set_option maxHeartbeats 2000000 in
theorem md_bnum_true_false_4 (A : Option Addr) (n c : Nat) (P : List Nd) (B : Option Addr) (m d : Nat) (Q : List Nd) (kk : Int) (w : World) (hs : SigT w) (hn : P.length = n) (hm : Q.length = m) (h7 : n ≤ 60) (h8 : m ≤ 60) (hp : Lies w A (ndCells P)) (hq : Lies w B (ndCells Q)) (xa ya : Int) (ho1 : ofF P = (true, xa, 0)) (ho2 : ofF Q = (false, ya, 0)) (hc1 : checkF P = 0) (hc2 : checkF Q = 0) (hk1 : 7 ≤ kk) (hk2 : kk ≤ 11) (hck : checkF (made2 kk 0 0 P Q) = 4) :
    Calls Tryd.prog 7 #[.slice A n c, .slice B m d, .int .u8 kk] w fun e w' => e = .returned (.bool true) ∧ Below w.heap.size w w' := by
  have HG := Lib.hid (great_any A n c w false (decide_eq_false (by omega)))
  have HG2 := Lib.hid (great_any B m d w false (decide_eq_false (by omega)))
  have HOA := Lib.hid (fun W (hb : Bl w W) => of_any A c n P W (hb.sig hs) hn (by unfold maxLen; omega) (hb.lies hp) true xa 0 ho1)
  have HOB := Lib.hid (fun W (hb : Bl w W) => of_any B d m Q W (hb.sig hs) hm (by unfold maxLen; omega) (hb.lies hq) false ya 0 ho2)
  have HS := Lib.hid hs
  have hok : okK kk = true := by simp [okK]; omega
  have hcn : cnt kk = 2 := by unfold cnt; rw [if_neg (by omega), if_neg (by omega)]
  have HP := Lib.hid (fun W => show Calls Tryd.prog 26 #[.int .u8 kk] W fun e w' => e = .returned (.tuple #[.int .i64 2, .int .i64 0]) ∧ W = w' by have := parts_any kk W; rwa [show partsN kk = 2 from partsN_of hok hcn, show partsE kk = 0 by simp [partsE, hok]] at this)
  have HF := Lib.hid (fun PA pc W => node_few PA pc kk W hok hcn)
  have HN := Lib.hid (fun PA pc W (hb : Bl w W) (hl : Lies W PA [.slice A n c, .slice B m d]) => node_err (node_2 PA pc kk 0 0 W A c n P hn (hb.lies hp) hc1 B d m Q hm (hb.lies hq) hc2 hl hok (by simp [fitsF]) hcn) hck (by decide))
  have k5 : (kk == 5) = false := by rw [beq_eq_false_iff_ne]; omega
  have k6 : (kk == 6) = false := by rw [beq_eq_false_iff_ne]; omega
  have k17 : kk ≤ 17 := by omega
  have k16 : ¬ 16 ≤ kk := by omega
  have k12 : ¬ 12 ≤ kk := by omega
  have d17 : decide (kk ≤ 17) = true := by simp; omega
  have d16 : decide (16 ≤ kk) = false := by simp; omega
  have d12 : decide (12 ≤ kk) = false := by simp; omega
  clear hs hn hm hp hq ho1 ho2 hc1 hc2 hck hk1 hk2 hok hcn
  go_enter Tryd.func7, Tryd.ntmps7
  go_wp2_with (first
    | (go_at_call 18; (with_reducible refine HG.out.mono ?_); rintro e w1 ⟨rfl, rfl⟩; have b0 := Bl.start w; clear HG)
    | (go_at_call 18; (with_reducible refine HG2.out.mono ?_); rintro e w1 ⟨rfl, rfl⟩)
    | (go_at_call 26; refine (HP.out _).mono ?_; rintro e w1 ⟨rfl, rfl⟩)
    | (go_at_call 12; (with_reducible refine (HOA.out _ b0).mono ?_); rintro e w1 ⟨rfl, hb⟩; have b1 := b0.step hb; clear hb b0)
    | (go_at_call 12; (with_reducible refine (HOB.out _ b1).mono ?_); rintro e w2 ⟨rfl, hb⟩; have b2 := b1.step hb; clear hb b1)
    | (go_at_call 27; (with_reducible refine (HF.out _ _ _).mono ?_); rintro e w3 ⟨rfl, hb⟩; have b3 := (b2.al _).step hb; clear hb b2)
    | (go_at_call 27; refine (HN.out _ _ _ (b3.al _) (lies_vals w3 _ rfl _ _ _ rfl)).mono ?_; rintro e w4 ⟨rfl, hb⟩; have b5 := (b3.al _).step hb; clear hb b3)
    | (go_at_call 17; refine (alive_any _ (b5.sig HS.out)).mono ?_; rintro e w9 ⟨rfl, hb⟩; have b9 := b5.step hb; clear hb))
  go_ret
  exact ⟨rfl, b9⟩
set_option maxHeartbeats 2000000 in
theorem md_bnum_true_false_34 (A : Option Addr) (n c : Nat) (P : List Nd) (B : Option Addr) (m d : Nat) (Q : List Nd) (kk : Int) (w : World) (hs : SigT w) (hn : P.length = n) (hm : Q.length = m) (h7 : n ≤ 60) (h8 : m ≤ 60) (hp : Lies w A (ndCells P)) (hq : Lies w B (ndCells Q)) (xa ya : Int) (ho1 : ofF P = (true, xa, 0)) (ho2 : ofF Q = (false, ya, 0)) (hc1 : checkF P = 0) (hc2 : checkF Q = 0) (hk1 : 7 ≤ kk) (hk2 : kk ≤ 11) (hck : checkF (made2 kk 0 0 P Q) = 34) :
    Calls Tryd.prog 7 #[.slice A n c, .slice B m d, .int .u8 kk] w fun e w' => e = .returned (.bool true) ∧ Below w.heap.size w w' := by
  have HG := Lib.hid (great_any A n c w false (decide_eq_false (by omega)))
  have HG2 := Lib.hid (great_any B m d w false (decide_eq_false (by omega)))
  have HOA := Lib.hid (fun W (hb : Bl w W) => of_any A c n P W (hb.sig hs) hn (by unfold maxLen; omega) (hb.lies hp) true xa 0 ho1)
  have HOB := Lib.hid (fun W (hb : Bl w W) => of_any B d m Q W (hb.sig hs) hm (by unfold maxLen; omega) (hb.lies hq) false ya 0 ho2)
  have HS := Lib.hid hs
  have hok : okK kk = true := by simp [okK]; omega
  have hcn : cnt kk = 2 := by unfold cnt; rw [if_neg (by omega), if_neg (by omega)]
  have HP := Lib.hid (fun W => show Calls Tryd.prog 26 #[.int .u8 kk] W fun e w' => e = .returned (.tuple #[.int .i64 2, .int .i64 0]) ∧ W = w' by have := parts_any kk W; rwa [show partsN kk = 2 from partsN_of hok hcn, show partsE kk = 0 by simp [partsE, hok]] at this)
  have HF := Lib.hid (fun PA pc W => node_few PA pc kk W hok hcn)
  have HN := Lib.hid (fun PA pc W (hb : Bl w W) (hl : Lies W PA [.slice A n c, .slice B m d]) => node_err (node_2 PA pc kk 0 0 W A c n P hn (hb.lies hp) hc1 B d m Q hm (hb.lies hq) hc2 hl hok (by simp [fitsF]) hcn) hck (by decide))
  have k5 : (kk == 5) = false := by rw [beq_eq_false_iff_ne]; omega
  have k6 : (kk == 6) = false := by rw [beq_eq_false_iff_ne]; omega
  have k17 : kk ≤ 17 := by omega
  have k16 : ¬ 16 ≤ kk := by omega
  have k12 : ¬ 12 ≤ kk := by omega
  have d17 : decide (kk ≤ 17) = true := by simp; omega
  have d16 : decide (16 ≤ kk) = false := by simp; omega
  have d12 : decide (12 ≤ kk) = false := by simp; omega
  clear hs hn hm hp hq ho1 ho2 hc1 hc2 hck hk1 hk2 hok hcn
  go_enter Tryd.func7, Tryd.ntmps7
  go_wp2_with (first
    | (go_at_call 18; (with_reducible refine HG.out.mono ?_); rintro e w1 ⟨rfl, rfl⟩; have b0 := Bl.start w; clear HG)
    | (go_at_call 18; (with_reducible refine HG2.out.mono ?_); rintro e w1 ⟨rfl, rfl⟩)
    | (go_at_call 26; refine (HP.out _).mono ?_; rintro e w1 ⟨rfl, rfl⟩)
    | (go_at_call 12; (with_reducible refine (HOA.out _ b0).mono ?_); rintro e w1 ⟨rfl, hb⟩; have b1 := b0.step hb; clear hb b0)
    | (go_at_call 12; (with_reducible refine (HOB.out _ b1).mono ?_); rintro e w2 ⟨rfl, hb⟩; have b2 := b1.step hb; clear hb b1)
    | (go_at_call 27; (with_reducible refine (HF.out _ _ _).mono ?_); rintro e w3 ⟨rfl, hb⟩; have b3 := (b2.al _).step hb; clear hb b2)
    | (go_at_call 27; refine (HN.out _ _ _ (b3.al _) (lies_vals w3 _ rfl _ _ _ rfl)).mono ?_; rintro e w4 ⟨rfl, hb⟩; have b5 := (b3.al _).step hb; clear hb b3)
    | (go_at_call 17; refine (alive_any _ (b5.sig HS.out)).mono ?_; rintro e w9 ⟨rfl, hb⟩; have b9 := b5.step hb; clear hb))
  go_ret
  exact ⟨rfl, b9⟩
set_option maxHeartbeats 2000000 in
theorem md_bcmp_true_false_ok (A : Option Addr) (n c : Nat) (P : List Nd) (B : Option Addr) (m d : Nat) (Q : List Nd) (kk : Int) (w : World) (hs : SigT w) (hn : P.length = n) (hm : Q.length = m) (h7 : n ≤ 60) (h8 : m ≤ 60) (hp : Lies w A (ndCells P)) (hq : Lies w B (ndCells Q)) (xa ya : Int) (ho1 : ofF P = (true, xa, 0)) (ho2 : ofF Q = (false, ya, 0)) (hc1 : checkF P = 0) (hc2 : checkF Q = 0) (hk1 : 12 ≤ kk) (hk2 : kk ≤ 15) (hck : checkF (made2 kk 0 0 P Q) = 0) (hol : ofF (made2 kk 0 0 P Q) = (false, (n : Int) + m, 42)) :
    Calls Tryd.prog 7 #[.slice A n c, .slice B m d, .int .u8 kk] w fun e w' => e = .returned (.bool true) ∧ Below w.heap.size w w' := by
  have HG := Lib.hid (great_any A n c w false (decide_eq_false (by omega)))
  have HG2 := Lib.hid (great_any B m d w false (decide_eq_false (by omega)))
  have HOA := Lib.hid (fun W (hb : Bl w W) => of_any A c n P W (hb.sig hs) hn (by unfold maxLen; omega) (hb.lies hp) true xa 0 ho1)
  have HOB := Lib.hid (fun W (hb : Bl w W) => of_any B d m Q W (hb.sig hs) hm (by unfold maxLen; omega) (hb.lies hq) false ya 0 ho2)
  have HS := Lib.hid hs
  have hok : okK kk = true := by simp [okK]; omega
  have hcn : cnt kk = 2 := by unfold cnt; rw [if_neg (by omega), if_neg (by omega)]
  have HP := Lib.hid (fun W => show Calls Tryd.prog 26 #[.int .u8 kk] W fun e w' => e = .returned (.tuple #[.int .i64 2, .int .i64 0]) ∧ W = w' by have := parts_any kk W; rwa [show partsN kk = 2 from partsN_of hok hcn, show partsE kk = 0 by simp [partsE, hok]] at this)
  have HF := Lib.hid (fun PA pc W => node_few PA pc kk W hok hcn)
  have HN := Lib.hid (fun PA pc W (hb : Bl w W) (hl : Lies W PA [.slice A n c, .slice B m d]) => node_ok (n := n + m + 1) (node_2 PA pc kk 0 0 W A c n P hn (hb.lies hp) hc1 B d m Q hm (hb.lies hq) hc2 hl hok (by simp [fitsF]) hcn) hck (by rw [made2_len, hn, hm]))
  have HOL := Lib.hid (fun D e W (hb : Bl w W) hl => of_any D e (n + m + 1) (made2 kk 0 0 P Q) W (hb.sig hs) (by rw [made2_len, hn, hm]) (by unfold maxLen; omega) hl _ _ _ hol)
  have e1 : ((n + m + 1 : Nat) : Int) - 1 = (n : Int) + m := by omega
  have k5 : (kk == 5) = false := by rw [beq_eq_false_iff_ne]; omega
  have k6 : (kk == 6) = false := by rw [beq_eq_false_iff_ne]; omega
  have k17 : kk ≤ 17 := by omega
  have k16 : ¬ 16 ≤ kk := by omega
  have k12 : 12 ≤ kk := by omega
  have d17 : decide (kk ≤ 17) = true := by simp; omega
  have d16 : decide (16 ≤ kk) = false := by simp; omega
  have d12 : decide (12 ≤ kk) = true := by simp; omega
  clear hs hn hm hp hq ho1 ho2 hc1 hc2 hck hk1 hk2 hok hcn hol
  go_enter Tryd.func7, Tryd.ntmps7
  go_wp2_with (first
    | (go_at_call 18; (with_reducible refine HG.out.mono ?_); rintro e w1 ⟨rfl, rfl⟩; have b0 := Bl.start w; clear HG)
    | (go_at_call 18; (with_reducible refine HG2.out.mono ?_); rintro e w1 ⟨rfl, rfl⟩)
    | (go_at_call 26; refine (HP.out _).mono ?_; rintro e w1 ⟨rfl, rfl⟩)
    | (go_at_call 12; (with_reducible refine (HOA.out _ b0).mono ?_); rintro e w1 ⟨rfl, hb⟩; have b1 := b0.step hb; clear hb b0)
    | (go_at_call 12; (with_reducible refine (HOB.out _ b1).mono ?_); rintro e w2 ⟨rfl, hb⟩; have b2 := b1.step hb; clear hb b1)
    | (go_at_call 27; (with_reducible refine (HF.out _ _ _).mono ?_); rintro e w3 ⟨rfl, hb⟩; have b3 := (b2.al _).step hb; clear hb b2)
    | (go_at_call 27; refine (HN.out _ _ _ (b3.al _) (lies_vals w3 _ rfl _ _ _ rfl)).mono ?_; rintro e w4 ⟨A4, c4, rfl, hl4, hb⟩; have b4 := (b3.al _).step hb; have HL4 := Lib.hid hl4; clear hb b3 hl4)
    | (go_at_call 12; (with_reducible refine (HOL.out _ _ _ b4 HL4.out).mono ?_); rintro e w5 ⟨rfl, hb⟩; have b5 := b4.step hb; clear hb b4)
    | (go_at_call 17; refine (alive_any _ (b5.sig HS.out)).mono ?_; rintro e w9 ⟨rfl, hb⟩; have b9 := b5.step hb; clear hb))
  go_ret
  exact ⟨rfl, b9⟩
set_option maxHeartbeats 2000000 in
theorem md_bcmp_true_false_4 (A : Option Addr) (n c : Nat) (P : List Nd) (B : Option Addr) (m d : Nat) (Q : List Nd) (kk : Int) (w : World) (hs : SigT w) (hn : P.length = n) (hm : Q.length = m) (h7 : n ≤ 60) (h8 : m ≤ 60) (hp : Lies w A (ndCells P)) (hq : Lies w B (ndCells Q)) (xa ya : Int) (ho1 : ofF P = (true, xa, 0)) (ho2 : ofF Q = (false, ya, 0)) (hc1 : checkF P = 0) (hc2 : checkF Q = 0) (hk1 : 12 ≤ kk) (hk2 : kk ≤ 15) (hck : checkF (made2 kk 0 0 P Q) = 4) :
    Calls Tryd.prog 7 #[.slice A n c, .slice B m d, .int .u8 kk] w fun e w' => e = .returned (.bool true) ∧ Below w.heap.size w w' := by
  have HG := Lib.hid (great_any A n c w false (decide_eq_false (by omega)))
  have HG2 := Lib.hid (great_any B m d w false (decide_eq_false (by omega)))
  have HOA := Lib.hid (fun W (hb : Bl w W) => of_any A c n P W (hb.sig hs) hn (by unfold maxLen; omega) (hb.lies hp) true xa 0 ho1)
  have HOB := Lib.hid (fun W (hb : Bl w W) => of_any B d m Q W (hb.sig hs) hm (by unfold maxLen; omega) (hb.lies hq) false ya 0 ho2)
  have HS := Lib.hid hs
  have hok : okK kk = true := by simp [okK]; omega
  have hcn : cnt kk = 2 := by unfold cnt; rw [if_neg (by omega), if_neg (by omega)]
  have HP := Lib.hid (fun W => show Calls Tryd.prog 26 #[.int .u8 kk] W fun e w' => e = .returned (.tuple #[.int .i64 2, .int .i64 0]) ∧ W = w' by have := parts_any kk W; rwa [show partsN kk = 2 from partsN_of hok hcn, show partsE kk = 0 by simp [partsE, hok]] at this)
  have HF := Lib.hid (fun PA pc W => node_few PA pc kk W hok hcn)
  have HN := Lib.hid (fun PA pc W (hb : Bl w W) (hl : Lies W PA [.slice A n c, .slice B m d]) => node_err (node_2 PA pc kk 0 0 W A c n P hn (hb.lies hp) hc1 B d m Q hm (hb.lies hq) hc2 hl hok (by simp [fitsF]) hcn) hck (by decide))
  have k5 : (kk == 5) = false := by rw [beq_eq_false_iff_ne]; omega
  have k6 : (kk == 6) = false := by rw [beq_eq_false_iff_ne]; omega
  have k17 : kk ≤ 17 := by omega
  have k16 : ¬ 16 ≤ kk := by omega
  have k12 : 12 ≤ kk := by omega
  have d17 : decide (kk ≤ 17) = true := by simp; omega
  have d16 : decide (16 ≤ kk) = false := by simp; omega
  have d12 : decide (12 ≤ kk) = true := by simp; omega
  clear hs hn hm hp hq ho1 ho2 hc1 hc2 hck hk1 hk2 hok hcn
  go_enter Tryd.func7, Tryd.ntmps7
  go_wp2_with (first
    | (go_at_call 18; (with_reducible refine HG.out.mono ?_); rintro e w1 ⟨rfl, rfl⟩; have b0 := Bl.start w; clear HG)
    | (go_at_call 18; (with_reducible refine HG2.out.mono ?_); rintro e w1 ⟨rfl, rfl⟩)
    | (go_at_call 26; refine (HP.out _).mono ?_; rintro e w1 ⟨rfl, rfl⟩)
    | (go_at_call 12; (with_reducible refine (HOA.out _ b0).mono ?_); rintro e w1 ⟨rfl, hb⟩; have b1 := b0.step hb; clear hb b0)
    | (go_at_call 12; (with_reducible refine (HOB.out _ b1).mono ?_); rintro e w2 ⟨rfl, hb⟩; have b2 := b1.step hb; clear hb b1)
    | (go_at_call 27; (with_reducible refine (HF.out _ _ _).mono ?_); rintro e w3 ⟨rfl, hb⟩; have b3 := (b2.al _).step hb; clear hb b2)
    | (go_at_call 27; refine (HN.out _ _ _ (b3.al _) (lies_vals w3 _ rfl _ _ _ rfl)).mono ?_; rintro e w4 ⟨rfl, hb⟩; have b5 := (b3.al _).step hb; clear hb b3)
    | (go_at_call 17; refine (alive_any _ (b5.sig HS.out)).mono ?_; rintro e w9 ⟨rfl, hb⟩; have b9 := b5.step hb; clear hb))
  go_ret
  exact ⟨rfl, b9⟩
set_option maxHeartbeats 2000000 in
theorem md_bcmp_true_false_34 (A : Option Addr) (n c : Nat) (P : List Nd) (B : Option Addr) (m d : Nat) (Q : List Nd) (kk : Int) (w : World) (hs : SigT w) (hn : P.length = n) (hm : Q.length = m) (h7 : n ≤ 60) (h8 : m ≤ 60) (hp : Lies w A (ndCells P)) (hq : Lies w B (ndCells Q)) (xa ya : Int) (ho1 : ofF P = (true, xa, 0)) (ho2 : ofF Q = (false, ya, 0)) (hc1 : checkF P = 0) (hc2 : checkF Q = 0) (hk1 : 12 ≤ kk) (hk2 : kk ≤ 15) (hck : checkF (made2 kk 0 0 P Q) = 34) :
    Calls Tryd.prog 7 #[.slice A n c, .slice B m d, .int .u8 kk] w fun e w' => e = .returned (.bool true) ∧ Below w.heap.size w w' := by
  have HG := Lib.hid (great_any A n c w false (decide_eq_false (by omega)))
  have HG2 := Lib.hid (great_any B m d w false (decide_eq_false (by omega)))
  have HOA := Lib.hid (fun W (hb : Bl w W) => of_any A c n P W (hb.sig hs) hn (by unfold maxLen; omega) (hb.lies hp) true xa 0 ho1)
  have HOB := Lib.hid (fun W (hb : Bl w W) => of_any B d m Q W (hb.sig hs) hm (by unfold maxLen; omega) (hb.lies hq) false ya 0 ho2)
  have HS := Lib.hid hs
  have hok : okK kk = true := by simp [okK]; omega
  have hcn : cnt kk = 2 := by unfold cnt; rw [if_neg (by omega), if_neg (by omega)]
  have HP := Lib.hid (fun W => show Calls Tryd.prog 26 #[.int .u8 kk] W fun e w' => e = .returned (.tuple #[.int .i64 2, .int .i64 0]) ∧ W = w' by have := parts_any kk W; rwa [show partsN kk = 2 from partsN_of hok hcn, show partsE kk = 0 by simp [partsE, hok]] at this)
  have HF := Lib.hid (fun PA pc W => node_few PA pc kk W hok hcn)
  have HN := Lib.hid (fun PA pc W (hb : Bl w W) (hl : Lies W PA [.slice A n c, .slice B m d]) => node_err (node_2 PA pc kk 0 0 W A c n P hn (hb.lies hp) hc1 B d m Q hm (hb.lies hq) hc2 hl hok (by simp [fitsF]) hcn) hck (by decide))
  have k5 : (kk == 5) = false := by rw [beq_eq_false_iff_ne]; omega
  have k6 : (kk == 6) = false := by rw [beq_eq_false_iff_ne]; omega
  have k17 : kk ≤ 17 := by omega
  have k16 : ¬ 16 ≤ kk := by omega
  have k12 : 12 ≤ kk := by omega
  have d17 : decide (kk ≤ 17) = true := by simp; omega
  have d16 : decide (16 ≤ kk) = false := by simp; omega
  have d12 : decide (12 ≤ kk) = true := by simp; omega
  clear hs hn hm hp hq ho1 ho2 hc1 hc2 hck hk1 hk2 hok hcn
  go_enter Tryd.func7, Tryd.ntmps7
  go_wp2_with (first
    | (go_at_call 18; (with_reducible refine HG.out.mono ?_); rintro e w1 ⟨rfl, rfl⟩; have b0 := Bl.start w; clear HG)
    | (go_at_call 18; (with_reducible refine HG2.out.mono ?_); rintro e w1 ⟨rfl, rfl⟩)
    | (go_at_call 26; refine (HP.out _).mono ?_; rintro e w1 ⟨rfl, rfl⟩)
    | (go_at_call 12; (with_reducible refine (HOA.out _ b0).mono ?_); rintro e w1 ⟨rfl, hb⟩; have b1 := b0.step hb; clear hb b0)
    | (go_at_call 12; (with_reducible refine (HOB.out _ b1).mono ?_); rintro e w2 ⟨rfl, hb⟩; have b2 := b1.step hb; clear hb b1)
    | (go_at_call 27; (with_reducible refine (HF.out _ _ _).mono ?_); rintro e w3 ⟨rfl, hb⟩; have b3 := (b2.al _).step hb; clear hb b2)
    | (go_at_call 27; refine (HN.out _ _ _ (b3.al _) (lies_vals w3 _ rfl _ _ _ rfl)).mono ?_; rintro e w4 ⟨rfl, hb⟩; have b5 := (b3.al _).step hb; clear hb b3)
    | (go_at_call 17; refine (alive_any _ (b5.sig HS.out)).mono ?_; rintro e w9 ⟨rfl, hb⟩; have b9 := b5.step hb; clear hb))
  go_ret
  exact ⟨rfl, b9⟩
set_option maxHeartbeats 2000000 in
theorem md_beq_true_false_ok (A : Option Addr) (n c : Nat) (P : List Nd) (B : Option Addr) (m d : Nat) (Q : List Nd) (kk : Int) (w : World) (hs : SigT w) (hn : P.length = n) (hm : Q.length = m) (h7 : n ≤ 60) (h8 : m ≤ 60) (hp : Lies w A (ndCells P)) (hq : Lies w B (ndCells Q)) (xa ya : Int) (ho1 : ofF P = (true, xa, 0)) (ho2 : ofF Q = (false, ya, 0)) (hc1 : checkF P = 0) (hc2 : checkF Q = 0) (hk1 : 16 ≤ kk) (hk2 : kk ≤ 17) (hck : checkF (made2 kk 0 0 P Q) = 0) (hol : ofF (made2 kk 0 0 P Q) = (false, (n : Int) + m, 42)) :
    Calls Tryd.prog 7 #[.slice A n c, .slice B m d, .int .u8 kk] w fun e w' => e = .returned (.bool true) ∧ Below w.heap.size w w' := by
  have HG := Lib.hid (great_any A n c w false (decide_eq_false (by omega)))
  have HG2 := Lib.hid (great_any B m d w false (decide_eq_false (by omega)))
  have HOA := Lib.hid (fun W (hb : Bl w W) => of_any A c n P W (hb.sig hs) hn (by unfold maxLen; omega) (hb.lies hp) true xa 0 ho1)
  have HOB := Lib.hid (fun W (hb : Bl w W) => of_any B d m Q W (hb.sig hs) hm (by unfold maxLen; omega) (hb.lies hq) false ya 0 ho2)
  have HS := Lib.hid hs
  have hok : okK kk = true := by simp [okK]; omega
  have hcn : cnt kk = 2 := by unfold cnt; rw [if_neg (by omega), if_neg (by omega)]
  have HP := Lib.hid (fun W => show Calls Tryd.prog 26 #[.int .u8 kk] W fun e w' => e = .returned (.tuple #[.int .i64 2, .int .i64 0]) ∧ W = w' by have := parts_any kk W; rwa [show partsN kk = 2 from partsN_of hok hcn, show partsE kk = 0 by simp [partsE, hok]] at this)
  have HF := Lib.hid (fun PA pc W => node_few PA pc kk W hok hcn)
  have HN := Lib.hid (fun PA pc W (hb : Bl w W) (hl : Lies W PA [.slice A n c, .slice B m d]) => node_ok (n := n + m + 1) (node_2 PA pc kk 0 0 W A c n P hn (hb.lies hp) hc1 B d m Q hm (hb.lies hq) hc2 hl hok (by simp [fitsF]) hcn) hck (by rw [made2_len, hn, hm]))
  have HOL := Lib.hid (fun D e W (hb : Bl w W) hl => of_any D e (n + m + 1) (made2 kk 0 0 P Q) W (hb.sig hs) (by rw [made2_len, hn, hm]) (by unfold maxLen; omega) hl _ _ _ hol)
  have e1 : ((n + m + 1 : Nat) : Int) - 1 = (n : Int) + m := by omega
  have k5 : (kk == 5) = false := by rw [beq_eq_false_iff_ne]; omega
  have k6 : (kk == 6) = false := by rw [beq_eq_false_iff_ne]; omega
  have k17 : kk ≤ 17 := by omega
  have k16 : 16 ≤ kk := by omega
  have k12 : 12 ≤ kk := by omega
  have d17 : decide (kk ≤ 17) = true := by simp; omega
  have d16 : decide (16 ≤ kk) = true := by simp; omega
  have d12 : decide (12 ≤ kk) = true := by simp; omega
  clear hs hn hm hp hq ho1 ho2 hc1 hc2 hck hk1 hk2 hok hcn hol
  go_enter Tryd.func7, Tryd.ntmps7
  go_wp2_with (first
    | (go_at_call 18; (with_reducible refine HG.out.mono ?_); rintro e w1 ⟨rfl, rfl⟩; have b0 := Bl.start w; clear HG)
    | (go_at_call 18; (with_reducible refine HG2.out.mono ?_); rintro e w1 ⟨rfl, rfl⟩)
    | (go_at_call 26; refine (HP.out _).mono ?_; rintro e w1 ⟨rfl, rfl⟩)
    | (go_at_call 12; (with_reducible refine (HOA.out _ b0).mono ?_); rintro e w1 ⟨rfl, hb⟩; have b1 := b0.step hb; clear hb b0)
    | (go_at_call 12; (with_reducible refine (HOB.out _ b1).mono ?_); rintro e w2 ⟨rfl, hb⟩; have b2 := b1.step hb; clear hb b1)
    | (go_at_call 27; (with_reducible refine (HF.out _ _ _).mono ?_); rintro e w3 ⟨rfl, hb⟩; have b3 := (b2.al _).step hb; clear hb b2)
    | (go_at_call 27; refine (HN.out _ _ _ (b3.al _) (lies_vals w3 _ rfl _ _ _ rfl)).mono ?_; rintro e w4 ⟨A4, c4, rfl, hl4, hb⟩; have b4 := (b3.al _).step hb; have HL4 := Lib.hid hl4; clear hb b3 hl4)
    | (go_at_call 12; (with_reducible refine (HOL.out _ _ _ b4 HL4.out).mono ?_); rintro e w5 ⟨rfl, hb⟩; have b5 := b4.step hb; clear hb b4)
    | (go_at_call 17; refine (alive_any _ (b5.sig HS.out)).mono ?_; rintro e w9 ⟨rfl, hb⟩; have b9 := b5.step hb; clear hb))
  go_ret
  exact ⟨rfl, b9⟩
set_option maxHeartbeats 2000000 in
theorem md_beq_true_false_4 (A : Option Addr) (n c : Nat) (P : List Nd) (B : Option Addr) (m d : Nat) (Q : List Nd) (kk : Int) (w : World) (hs : SigT w) (hn : P.length = n) (hm : Q.length = m) (h7 : n ≤ 60) (h8 : m ≤ 60) (hp : Lies w A (ndCells P)) (hq : Lies w B (ndCells Q)) (xa ya : Int) (ho1 : ofF P = (true, xa, 0)) (ho2 : ofF Q = (false, ya, 0)) (hc1 : checkF P = 0) (hc2 : checkF Q = 0) (hk1 : 16 ≤ kk) (hk2 : kk ≤ 17) (hck : checkF (made2 kk 0 0 P Q) = 4) :
    Calls Tryd.prog 7 #[.slice A n c, .slice B m d, .int .u8 kk] w fun e w' => e = .returned (.bool true) ∧ Below w.heap.size w w' := by
  have HG := Lib.hid (great_any A n c w false (decide_eq_false (by omega)))
  have HG2 := Lib.hid (great_any B m d w false (decide_eq_false (by omega)))
  have HOA := Lib.hid (fun W (hb : Bl w W) => of_any A c n P W (hb.sig hs) hn (by unfold maxLen; omega) (hb.lies hp) true xa 0 ho1)
  have HOB := Lib.hid (fun W (hb : Bl w W) => of_any B d m Q W (hb.sig hs) hm (by unfold maxLen; omega) (hb.lies hq) false ya 0 ho2)
  have HS := Lib.hid hs
  have hok : okK kk = true := by simp [okK]; omega
  have hcn : cnt kk = 2 := by unfold cnt; rw [if_neg (by omega), if_neg (by omega)]
  have HP := Lib.hid (fun W => show Calls Tryd.prog 26 #[.int .u8 kk] W fun e w' => e = .returned (.tuple #[.int .i64 2, .int .i64 0]) ∧ W = w' by have := parts_any kk W; rwa [show partsN kk = 2 from partsN_of hok hcn, show partsE kk = 0 by simp [partsE, hok]] at this)
  have HF := Lib.hid (fun PA pc W => node_few PA pc kk W hok hcn)
  have HN := Lib.hid (fun PA pc W (hb : Bl w W) (hl : Lies W PA [.slice A n c, .slice B m d]) => node_err (node_2 PA pc kk 0 0 W A c n P hn (hb.lies hp) hc1 B d m Q hm (hb.lies hq) hc2 hl hok (by simp [fitsF]) hcn) hck (by decide))
  have k5 : (kk == 5) = false := by rw [beq_eq_false_iff_ne]; omega
  have k6 : (kk == 6) = false := by rw [beq_eq_false_iff_ne]; omega
  have k17 : kk ≤ 17 := by omega
  have k16 : 16 ≤ kk := by omega
  have k12 : 12 ≤ kk := by omega
  have d17 : decide (kk ≤ 17) = true := by simp; omega
  have d16 : decide (16 ≤ kk) = true := by simp; omega
  have d12 : decide (12 ≤ kk) = true := by simp; omega
  clear hs hn hm hp hq ho1 ho2 hc1 hc2 hck hk1 hk2 hok hcn
  go_enter Tryd.func7, Tryd.ntmps7
  go_wp2_with (first
    | (go_at_call 18; (with_reducible refine HG.out.mono ?_); rintro e w1 ⟨rfl, rfl⟩; have b0 := Bl.start w; clear HG)
    | (go_at_call 18; (with_reducible refine HG2.out.mono ?_); rintro e w1 ⟨rfl, rfl⟩)
    | (go_at_call 26; refine (HP.out _).mono ?_; rintro e w1 ⟨rfl, rfl⟩)
    | (go_at_call 12; (with_reducible refine (HOA.out _ b0).mono ?_); rintro e w1 ⟨rfl, hb⟩; have b1 := b0.step hb; clear hb b0)
    | (go_at_call 12; (with_reducible refine (HOB.out _ b1).mono ?_); rintro e w2 ⟨rfl, hb⟩; have b2 := b1.step hb; clear hb b1)
    | (go_at_call 27; (with_reducible refine (HF.out _ _ _).mono ?_); rintro e w3 ⟨rfl, hb⟩; have b3 := (b2.al _).step hb; clear hb b2)
    | (go_at_call 27; refine (HN.out _ _ _ (b3.al _) (lies_vals w3 _ rfl _ _ _ rfl)).mono ?_; rintro e w4 ⟨rfl, hb⟩; have b5 := (b3.al _).step hb; clear hb b3)
    | (go_at_call 17; refine (alive_any _ (b5.sig HS.out)).mono ?_; rintro e w9 ⟨rfl, hb⟩; have b9 := b5.step hb; clear hb))
  go_ret
  exact ⟨rfl, b9⟩
set_option maxHeartbeats 2000000 in
theorem md_beq_true_false_34 (A : Option Addr) (n c : Nat) (P : List Nd) (B : Option Addr) (m d : Nat) (Q : List Nd) (kk : Int) (w : World) (hs : SigT w) (hn : P.length = n) (hm : Q.length = m) (h7 : n ≤ 60) (h8 : m ≤ 60) (hp : Lies w A (ndCells P)) (hq : Lies w B (ndCells Q)) (xa ya : Int) (ho1 : ofF P = (true, xa, 0)) (ho2 : ofF Q = (false, ya, 0)) (hc1 : checkF P = 0) (hc2 : checkF Q = 0) (hk1 : 16 ≤ kk) (hk2 : kk ≤ 17) (hck : checkF (made2 kk 0 0 P Q) = 34) :
    Calls Tryd.prog 7 #[.slice A n c, .slice B m d, .int .u8 kk] w fun e w' => e = .returned (.bool true) ∧ Below w.heap.size w w' := by
  have HG := Lib.hid (great_any A n c w false (decide_eq_false (by omega)))
  have HG2 := Lib.hid (great_any B m d w false (decide_eq_false (by omega)))
  have HOA := Lib.hid (fun W (hb : Bl w W) => of_any A c n P W (hb.sig hs) hn (by unfold maxLen; omega) (hb.lies hp) true xa 0 ho1)
  have HOB := Lib.hid (fun W (hb : Bl w W) => of_any B d m Q W (hb.sig hs) hm (by unfold maxLen; omega) (hb.lies hq) false ya 0 ho2)
  have HS := Lib.hid hs
  have hok : okK kk = true := by simp [okK]; omega
  have hcn : cnt kk = 2 := by unfold cnt; rw [if_neg (by omega), if_neg (by omega)]
  have HP := Lib.hid (fun W => show Calls Tryd.prog 26 #[.int .u8 kk] W fun e w' => e = .returned (.tuple #[.int .i64 2, .int .i64 0]) ∧ W = w' by have := parts_any kk W; rwa [show partsN kk = 2 from partsN_of hok hcn, show partsE kk = 0 by simp [partsE, hok]] at this)
  have HF := Lib.hid (fun PA pc W => node_few PA pc kk W hok hcn)
  have HN := Lib.hid (fun PA pc W (hb : Bl w W) (hl : Lies W PA [.slice A n c, .slice B m d]) => node_err (node_2 PA pc kk 0 0 W A c n P hn (hb.lies hp) hc1 B d m Q hm (hb.lies hq) hc2 hl hok (by simp [fitsF]) hcn) hck (by decide))
  have k5 : (kk == 5) = false := by rw [beq_eq_false_iff_ne]; omega
  have k6 : (kk == 6) = false := by rw [beq_eq_false_iff_ne]; omega
  have k17 : kk ≤ 17 := by omega
  have k16 : 16 ≤ kk := by omega
  have k12 : 12 ≤ kk := by omega
  have d17 : decide (kk ≤ 17) = true := by simp; omega
  have d16 : decide (16 ≤ kk) = true := by simp; omega
  have d12 : decide (12 ≤ kk) = true := by simp; omega
  clear hs hn hm hp hq ho1 ho2 hc1 hc2 hck hk1 hk2 hok hcn
  go_enter Tryd.func7, Tryd.ntmps7
  go_wp2_with (first
    | (go_at_call 18; (with_reducible refine HG.out.mono ?_); rintro e w1 ⟨rfl, rfl⟩; have b0 := Bl.start w; clear HG)
    | (go_at_call 18; (with_reducible refine HG2.out.mono ?_); rintro e w1 ⟨rfl, rfl⟩)
    | (go_at_call 26; refine (HP.out _).mono ?_; rintro e w1 ⟨rfl, rfl⟩)
    | (go_at_call 12; (with_reducible refine (HOA.out _ b0).mono ?_); rintro e w1 ⟨rfl, hb⟩; have b1 := b0.step hb; clear hb b0)
    | (go_at_call 12; (with_reducible refine (HOB.out _ b1).mono ?_); rintro e w2 ⟨rfl, hb⟩; have b2 := b1.step hb; clear hb b1)
    | (go_at_call 27; (with_reducible refine (HF.out _ _ _).mono ?_); rintro e w3 ⟨rfl, hb⟩; have b3 := (b2.al _).step hb; clear hb b2)
    | (go_at_call 27; refine (HN.out _ _ _ (b3.al _) (lies_vals w3 _ rfl _ _ _ rfl)).mono ?_; rintro e w4 ⟨rfl, hb⟩; have b5 := (b3.al _).step hb; clear hb b3)
    | (go_at_call 17; refine (alive_any _ (b5.sig HS.out)).mono ?_; rintro e w9 ⟨rfl, hb⟩; have b9 := b5.step hb; clear hb))
  go_ret
  exact ⟨rfl, b9⟩
set_option maxHeartbeats 2000000 in
theorem md_blog_true_false_ok (A : Option Addr) (n c : Nat) (P : List Nd) (B : Option Addr) (m d : Nat) (Q : List Nd) (kk : Int) (w : World) (hs : SigT w) (hn : P.length = n) (hm : Q.length = m) (h7 : n ≤ 60) (h8 : m ≤ 60) (hp : Lies w A (ndCells P)) (hq : Lies w B (ndCells Q)) (xa ya : Int) (ho1 : ofF P = (true, xa, 0)) (ho2 : ofF Q = (false, ya, 0)) (hc1 : checkF P = 0) (hc2 : checkF Q = 0) (hk1 : 18 ≤ kk) (hk2 : kk ≤ 19) (hck : checkF (made2 kk 0 0 P Q) = 0) (hol : ofF (made2 kk 0 0 P Q) = (false, (n : Int) + m, 42)) :
    Calls Tryd.prog 7 #[.slice A n c, .slice B m d, .int .u8 kk] w fun e w' => e = .returned (.bool true) ∧ Below w.heap.size w w' := by
  have HG := Lib.hid (great_any A n c w false (decide_eq_false (by omega)))
  have HG2 := Lib.hid (great_any B m d w false (decide_eq_false (by omega)))
  have HOA := Lib.hid (fun W (hb : Bl w W) => of_any A c n P W (hb.sig hs) hn (by unfold maxLen; omega) (hb.lies hp) true xa 0 ho1)
  have HOB := Lib.hid (fun W (hb : Bl w W) => of_any B d m Q W (hb.sig hs) hm (by unfold maxLen; omega) (hb.lies hq) false ya 0 ho2)
  have HS := Lib.hid hs
  have hok : okK kk = true := by simp [okK]; omega
  have hcn : cnt kk = 2 := by unfold cnt; rw [if_neg (by omega), if_neg (by omega)]
  have HP := Lib.hid (fun W => show Calls Tryd.prog 26 #[.int .u8 kk] W fun e w' => e = .returned (.tuple #[.int .i64 2, .int .i64 0]) ∧ W = w' by have := parts_any kk W; rwa [show partsN kk = 2 from partsN_of hok hcn, show partsE kk = 0 by simp [partsE, hok]] at this)
  have HF := Lib.hid (fun PA pc W => node_few PA pc kk W hok hcn)
  have HN := Lib.hid (fun PA pc W (hb : Bl w W) (hl : Lies W PA [.slice A n c, .slice B m d]) => node_ok (n := n + m + 1) (node_2 PA pc kk 0 0 W A c n P hn (hb.lies hp) hc1 B d m Q hm (hb.lies hq) hc2 hl hok (by simp [fitsF]) hcn) hck (by rw [made2_len, hn, hm]))
  have HOL := Lib.hid (fun D e W (hb : Bl w W) hl => of_any D e (n + m + 1) (made2 kk 0 0 P Q) W (hb.sig hs) (by rw [made2_len, hn, hm]) (by unfold maxLen; omega) hl _ _ _ hol)
  have e1 : ((n + m + 1 : Nat) : Int) - 1 = (n : Int) + m := by omega
  have k5 : (kk == 5) = false := by rw [beq_eq_false_iff_ne]; omega
  have k6 : (kk == 6) = false := by rw [beq_eq_false_iff_ne]; omega
  have k17 : ¬ kk ≤ 17 := by omega
  have k16 : 16 ≤ kk := by omega
  have k12 : 12 ≤ kk := by omega
  have d17 : decide (kk ≤ 17) = false := by simp; omega
  have d16 : decide (16 ≤ kk) = true := by simp; omega
  have d12 : decide (12 ≤ kk) = true := by simp; omega
  clear hs hn hm hp hq ho1 ho2 hc1 hc2 hck hk1 hk2 hok hcn hol
  go_enter Tryd.func7, Tryd.ntmps7
  go_wp2_with (first
    | (go_at_call 18; (with_reducible refine HG.out.mono ?_); rintro e w1 ⟨rfl, rfl⟩; have b0 := Bl.start w; clear HG)
    | (go_at_call 18; (with_reducible refine HG2.out.mono ?_); rintro e w1 ⟨rfl, rfl⟩)
    | (go_at_call 26; refine (HP.out _).mono ?_; rintro e w1 ⟨rfl, rfl⟩)
    | (go_at_call 12; (with_reducible refine (HOA.out _ b0).mono ?_); rintro e w1 ⟨rfl, hb⟩; have b1 := b0.step hb; clear hb b0)
    | (go_at_call 12; (with_reducible refine (HOB.out _ b1).mono ?_); rintro e w2 ⟨rfl, hb⟩; have b2 := b1.step hb; clear hb b1)
    | (go_at_call 27; (with_reducible refine (HF.out _ _ _).mono ?_); rintro e w3 ⟨rfl, hb⟩; have b3 := (b2.al _).step hb; clear hb b2)
    | (go_at_call 27; refine (HN.out _ _ _ (b3.al _) (lies_vals w3 _ rfl _ _ _ rfl)).mono ?_; rintro e w4 ⟨A4, c4, rfl, hl4, hb⟩; have b4 := (b3.al _).step hb; have HL4 := Lib.hid hl4; clear hb b3 hl4)
    | (go_at_call 12; (with_reducible refine (HOL.out _ _ _ b4 HL4.out).mono ?_); rintro e w5 ⟨rfl, hb⟩; have b5 := b4.step hb; clear hb b4)
    | (go_at_call 17; refine (alive_any _ (b5.sig HS.out)).mono ?_; rintro e w9 ⟨rfl, hb⟩; have b9 := b5.step hb; clear hb))
  go_ret
  exact ⟨rfl, b9⟩
set_option maxHeartbeats 2000000 in
theorem md_blog_true_false_4 (A : Option Addr) (n c : Nat) (P : List Nd) (B : Option Addr) (m d : Nat) (Q : List Nd) (kk : Int) (w : World) (hs : SigT w) (hn : P.length = n) (hm : Q.length = m) (h7 : n ≤ 60) (h8 : m ≤ 60) (hp : Lies w A (ndCells P)) (hq : Lies w B (ndCells Q)) (xa ya : Int) (ho1 : ofF P = (true, xa, 0)) (ho2 : ofF Q = (false, ya, 0)) (hc1 : checkF P = 0) (hc2 : checkF Q = 0) (hk1 : 18 ≤ kk) (hk2 : kk ≤ 19) (hck : checkF (made2 kk 0 0 P Q) = 4) :
    Calls Tryd.prog 7 #[.slice A n c, .slice B m d, .int .u8 kk] w fun e w' => e = .returned (.bool true) ∧ Below w.heap.size w w' := by
  have HG := Lib.hid (great_any A n c w false (decide_eq_false (by omega)))
  have HG2 := Lib.hid (great_any B m d w false (decide_eq_false (by omega)))
  have HOA := Lib.hid (fun W (hb : Bl w W) => of_any A c n P W (hb.sig hs) hn (by unfold maxLen; omega) (hb.lies hp) true xa 0 ho1)
  have HOB := Lib.hid (fun W (hb : Bl w W) => of_any B d m Q W (hb.sig hs) hm (by unfold maxLen; omega) (hb.lies hq) false ya 0 ho2)
  have HS := Lib.hid hs
  have hok : okK kk = true := by simp [okK]; omega
  have hcn : cnt kk = 2 := by unfold cnt; rw [if_neg (by omega), if_neg (by omega)]
  have HP := Lib.hid (fun W => show Calls Tryd.prog 26 #[.int .u8 kk] W fun e w' => e = .returned (.tuple #[.int .i64 2, .int .i64 0]) ∧ W = w' by have := parts_any kk W; rwa [show partsN kk = 2 from partsN_of hok hcn, show partsE kk = 0 by simp [partsE, hok]] at this)
  have HF := Lib.hid (fun PA pc W => node_few PA pc kk W hok hcn)
  have HN := Lib.hid (fun PA pc W (hb : Bl w W) (hl : Lies W PA [.slice A n c, .slice B m d]) => node_err (node_2 PA pc kk 0 0 W A c n P hn (hb.lies hp) hc1 B d m Q hm (hb.lies hq) hc2 hl hok (by simp [fitsF]) hcn) hck (by decide))
  have k5 : (kk == 5) = false := by rw [beq_eq_false_iff_ne]; omega
  have k6 : (kk == 6) = false := by rw [beq_eq_false_iff_ne]; omega
  have k17 : ¬ kk ≤ 17 := by omega
  have k16 : 16 ≤ kk := by omega
  have k12 : 12 ≤ kk := by omega
  have d17 : decide (kk ≤ 17) = false := by simp; omega
  have d16 : decide (16 ≤ kk) = true := by simp; omega
  have d12 : decide (12 ≤ kk) = true := by simp; omega
  clear hs hn hm hp hq ho1 ho2 hc1 hc2 hck hk1 hk2 hok hcn
  go_enter Tryd.func7, Tryd.ntmps7
  go_wp2_with (first
    | (go_at_call 18; (with_reducible refine HG.out.mono ?_); rintro e w1 ⟨rfl, rfl⟩; have b0 := Bl.start w; clear HG)
    | (go_at_call 18; (with_reducible refine HG2.out.mono ?_); rintro e w1 ⟨rfl, rfl⟩)
    | (go_at_call 26; refine (HP.out _).mono ?_; rintro e w1 ⟨rfl, rfl⟩)
    | (go_at_call 12; (with_reducible refine (HOA.out _ b0).mono ?_); rintro e w1 ⟨rfl, hb⟩; have b1 := b0.step hb; clear hb b0)
    | (go_at_call 12; (with_reducible refine (HOB.out _ b1).mono ?_); rintro e w2 ⟨rfl, hb⟩; have b2 := b1.step hb; clear hb b1)
    | (go_at_call 27; (with_reducible refine (HF.out _ _ _).mono ?_); rintro e w3 ⟨rfl, hb⟩; have b3 := (b2.al _).step hb; clear hb b2)
    | (go_at_call 27; refine (HN.out _ _ _ (b3.al _) (lies_vals w3 _ rfl _ _ _ rfl)).mono ?_; rintro e w4 ⟨rfl, hb⟩; have b5 := (b3.al _).step hb; clear hb b3)
    | (go_at_call 17; refine (alive_any _ (b5.sig HS.out)).mono ?_; rintro e w9 ⟨rfl, hb⟩; have b9 := b5.step hb; clear hb))
  go_ret
  exact ⟨rfl, b9⟩
set_option maxHeartbeats 2000000 in
theorem md_blog_true_false_34 (A : Option Addr) (n c : Nat) (P : List Nd) (B : Option Addr) (m d : Nat) (Q : List Nd) (kk : Int) (w : World) (hs : SigT w) (hn : P.length = n) (hm : Q.length = m) (h7 : n ≤ 60) (h8 : m ≤ 60) (hp : Lies w A (ndCells P)) (hq : Lies w B (ndCells Q)) (xa ya : Int) (ho1 : ofF P = (true, xa, 0)) (ho2 : ofF Q = (false, ya, 0)) (hc1 : checkF P = 0) (hc2 : checkF Q = 0) (hk1 : 18 ≤ kk) (hk2 : kk ≤ 19) (hck : checkF (made2 kk 0 0 P Q) = 34) :
    Calls Tryd.prog 7 #[.slice A n c, .slice B m d, .int .u8 kk] w fun e w' => e = .returned (.bool true) ∧ Below w.heap.size w w' := by
  have HG := Lib.hid (great_any A n c w false (decide_eq_false (by omega)))
  have HG2 := Lib.hid (great_any B m d w false (decide_eq_false (by omega)))
  have HOA := Lib.hid (fun W (hb : Bl w W) => of_any A c n P W (hb.sig hs) hn (by unfold maxLen; omega) (hb.lies hp) true xa 0 ho1)
  have HOB := Lib.hid (fun W (hb : Bl w W) => of_any B d m Q W (hb.sig hs) hm (by unfold maxLen; omega) (hb.lies hq) false ya 0 ho2)
  have HS := Lib.hid hs
  have hok : okK kk = true := by simp [okK]; omega
  have hcn : cnt kk = 2 := by unfold cnt; rw [if_neg (by omega), if_neg (by omega)]
  have HP := Lib.hid (fun W => show Calls Tryd.prog 26 #[.int .u8 kk] W fun e w' => e = .returned (.tuple #[.int .i64 2, .int .i64 0]) ∧ W = w' by have := parts_any kk W; rwa [show partsN kk = 2 from partsN_of hok hcn, show partsE kk = 0 by simp [partsE, hok]] at this)
  have HF := Lib.hid (fun PA pc W => node_few PA pc kk W hok hcn)
  have HN := Lib.hid (fun PA pc W (hb : Bl w W) (hl : Lies W PA [.slice A n c, .slice B m d]) => node_err (node_2 PA pc kk 0 0 W A c n P hn (hb.lies hp) hc1 B d m Q hm (hb.lies hq) hc2 hl hok (by simp [fitsF]) hcn) hck (by decide))
  have k5 : (kk == 5) = false := by rw [beq_eq_false_iff_ne]; omega
  have k6 : (kk == 6) = false := by rw [beq_eq_false_iff_ne]; omega
  have k17 : ¬ kk ≤ 17 := by omega
  have k16 : 16 ≤ kk := by omega
  have k12 : 12 ≤ kk := by omega
  have d17 : decide (kk ≤ 17) = false := by simp; omega
  have d16 : decide (16 ≤ kk) = true := by simp; omega
  have d12 : decide (12 ≤ kk) = true := by simp; omega
  clear hs hn hm hp hq ho1 ho2 hc1 hc2 hck hk1 hk2 hok hcn
  go_enter Tryd.func7, Tryd.ntmps7
  go_wp2_with (first
    | (go_at_call 18; (with_reducible refine HG.out.mono ?_); rintro e w1 ⟨rfl, rfl⟩; have b0 := Bl.start w; clear HG)
    | (go_at_call 18; (with_reducible refine HG2.out.mono ?_); rintro e w1 ⟨rfl, rfl⟩)
    | (go_at_call 26; refine (HP.out _).mono ?_; rintro e w1 ⟨rfl, rfl⟩)
    | (go_at_call 12; (with_reducible refine (HOA.out _ b0).mono ?_); rintro e w1 ⟨rfl, hb⟩; have b1 := b0.step hb; clear hb b0)
    | (go_at_call 12; (with_reducible refine (HOB.out _ b1).mono ?_); rintro e w2 ⟨rfl, hb⟩; have b2 := b1.step hb; clear hb b1)
    | (go_at_call 27; (with_reducible refine (HF.out _ _ _).mono ?_); rintro e w3 ⟨rfl, hb⟩; have b3 := (b2.al _).step hb; clear hb b2)
    | (go_at_call 27; refine (HN.out _ _ _ (b3.al _) (lies_vals w3 _ rfl _ _ _ rfl)).mono ?_; rintro e w4 ⟨rfl, hb⟩; have b5 := (b3.al _).step hb; clear hb b3)
    | (go_at_call 17; refine (alive_any _ (b5.sig HS.out)).mono ?_; rintro e w9 ⟨rfl, hb⟩; have b9 := b5.step hb; clear hb))
  go_ret
  exact ⟨rfl, b9⟩
end Go.Proofs.YtfnkofcgjbakeaaDoor.K6
