/- Contracts of binary, typed and alive. -/
import Derived.Test.YtfnkofcgjbakeaaDoorKMade
import Derived.Test.YtfnkofcgjbakeaaDoorKMath3
namespace Go.Proofs.YtfnkofcgjbakeaaDoor.K6
open Go.ChangeShapes Go.WideShapes Go.ChangeAt Go.RowKit N4
set_option linter.unusedVariables false
set_option linter.unusedSimpArgs false
set_option maxRecDepth 100000

theorem rmade_1 (PA : Option Addr) (pc : Nat) (kk nn p : Int) (w : World) (A1 : Option Addr) (c1 n1 : Nat) (P : List Nd) (hn1 : P.length = n1) (h1 : Lies w A1 (ndCells P)) (hv1 : checkF P = 0) (hs1 : n1 ≤ 10) (hp : Lies w PA [.slice A1 n1 c1]) (N : Nat) (hN : n1 + 1 = N) :
    Calls Tryd.prog 13 #[.int .u8 kk, .int .i64 nn, .int .i64 p, .slice PA 1 pc] w (MdPost w (made1 kk nn p P) N) := by
  have h := rmade_any PA pc 1 [.slice A1 n1 c1] [P] kk nn p w rfl rfl (by omega) hp (by
    intro i u P' hu hP
    have hi := (List.getElem?_eq_some_iff.1 hu).1
    obtain rfl : i = 0 := by simpa using hi
    simp only [List.getElem?_cons_zero, Option.some.injEq] at hu hP
    subst hu hP
    exact ⟨A1, c1, by rw [hn1], h1, by unfold maxLen; omega⟩) (by simpa using hv1) (by simp; omega) N (by simp [catF, catS]; omega)
  have e : catF [P] ++ [⟨kk, nn, aF [P] 1, bF [P] 1, p⟩] = made1 kk nn p P := by simp [catF, catS, aF, bF, made1]
  rwa [e] at h
theorem rmade_2 (PA : Option Addr) (pc : Nat) (kk nn p : Int) (w : World) (A1 : Option Addr) (c1 n1 : Nat) (P : List Nd) (hn1 : P.length = n1) (h1 : Lies w A1 (ndCells P)) (hv1 : checkF P = 0) (hs1 : n1 ≤ 10) (A2 : Option Addr) (c2 n2 : Nat) (Q : List Nd) (hn2 : Q.length = n2) (h2 : Lies w A2 (ndCells Q)) (hv2 : checkF Q = 0) (hs2 : n2 ≤ 10) (hp : Lies w PA [.slice A1 n1 c1, .slice A2 n2 c2]) (N : Nat) (hN : n1 + n2 + 1 = N) :
    Calls Tryd.prog 13 #[.int .u8 kk, .int .i64 nn, .int .i64 p, .slice PA 2 pc] w (MdPost w (made2 kk nn p P Q) N) := by
  have h := rmade_any PA pc 2 [.slice A1 n1 c1, .slice A2 n2 c2] [P, Q] kk nn p w rfl rfl (by omega) hp (by
    intro i u P' hu hP
    have hi := (List.getElem?_eq_some_iff.1 hu).1
    rcases (by simp at hi; omega : i = 0 ∨ i = 1) with rfl | rfl
    · simp only [List.getElem?_cons_zero, Option.some.injEq] at hu hP
      subst hu hP
      exact ⟨A1, c1, by rw [hn1], h1, by unfold maxLen; omega⟩
    · simp only [List.getElem?_cons_succ, List.getElem?_cons_zero, Option.some.injEq] at hu hP
      subst hu hP
      exact ⟨A2, c2, by rw [hn2], h2, by unfold maxLen; omega⟩) (by simpa using ⟨hv1, hv2⟩) (by simp; omega) N (by simp [catF, catS]; omega)
  have e : catF [P, Q] ++ [⟨kk, nn, aF [P, Q] 2, bF [P, Q] 2, p⟩] = made2 kk nn p P Q := by simp [catF, catS, aF, bF, made2]
  rwa [e] at h
def vL : List Nd := [⟨4, 0, 0, 0, 0⟩]
def tL : List Nd := [⟨1, 1, 0, 0, 0⟩, ⟨1, 2, 0, 0, 0⟩, ⟨12, 0, 0, 1, 0⟩]
theorem vL_ok : checkF vL = 0 := by decide +kernel
theorem tL_ok : checkF tL = 0 := by decide +kernel
set_option maxHeartbeats 1000000 in
theorem bin_ff (kk : Int) (w : World) : Calls Tryd.prog 10 #[.int .u8 kk, .bool false, .bool false] w (MdPost w (made2 kk 0 0 vL vL) 3) := by
  have HM := Lib.hid (fun PA pc W A1 c1 A2 c2 (h1 : Lies W A1 (ndCells vL)) (h2 : Lies W A2 (ndCells vL)) hp => rmade_2 PA pc kk 0 0 W A1 c1 1 vL rfl h1 vL_ok (by omega) A2 c2 1 vL rfl h2 vL_ok (by omega) hp 3 rfl)
  go_enter Tryd.func10, Tryd.ntmps10
  go_wp2_with (go_at_call 13; refine (HM.out _ _ _ _ _ _ _ (by exact (((lies_vals w _ rfl _ _ _ rfl).alloc _).alloc _).alloc _) (by exact ((lies_vals (w.alloc _) _ (by simp) _ _ _ rfl).alloc _).alloc _) (lies_vals (((w.alloc _).alloc _).alloc _) _ (by simp) _ _ _ rfl)).mono ?_; rintro e w1 ⟨A, c, rfl, hl, hb, hc⟩)
  go_ret
  exact ⟨A, c, rfl, hl, ((((Below.refl _ _).alloc (Nat.le_refl _) _).alloc (by simp) _).alloc (by simp; omega) _).alloc (by simp; omega) _ |>.trans (hb.mono (by simp; omega)), hc⟩
set_option maxHeartbeats 1000000 in
theorem bin_tf (kk : Int) (w : World) : Calls Tryd.prog 10 #[.int .u8 kk, .bool true, .bool false] w (MdPost w (made2 kk 0 0 tL vL) 5) := by
  have HM := Lib.hid (fun PA pc W A1 c1 A2 c2 (h1 : Lies W A1 (ndCells tL)) (h2 : Lies W A2 (ndCells vL)) hp => rmade_2 PA pc kk 0 0 W A1 c1 3 tL rfl h1 tL_ok (by omega) A2 c2 1 vL rfl h2 vL_ok (by omega) hp 5 rfl)
  go_enter Tryd.func10, Tryd.ntmps10
  go_wp2_with (go_at_call 13; refine (HM.out _ _ _ _ _ _ _ (by exact (lies_vals ((w.alloc _).alloc _) _ (by simp) _ _ _ rfl).alloc _) (by exact ((lies_vals (w.alloc _) _ (by simp) _ _ _ rfl).alloc _).alloc _) (lies_vals (((w.alloc _).alloc _).alloc _) _ (by simp) _ _ _ rfl)).mono ?_; rintro e w1 ⟨A, c, rfl, hl, hb, hc⟩)
  go_ret
  exact ⟨A, c, rfl, hl, ((((Below.refl _ _).alloc (Nat.le_refl _) _).alloc (by simp) _).alloc (by simp; omega) _).alloc (by simp; omega) _ |>.trans (hb.mono (by simp; omega)), hc⟩
set_option maxHeartbeats 1000000 in
theorem bin_ft (kk : Int) (w : World) : Calls Tryd.prog 10 #[.int .u8 kk, .bool false, .bool true] w (MdPost w (made2 kk 0 0 vL tL) 5) := by
  have HM := Lib.hid (fun PA pc W A1 c1 A2 c2 (h1 : Lies W A1 (ndCells vL)) (h2 : Lies W A2 (ndCells tL)) hp => rmade_2 PA pc kk 0 0 W A1 c1 1 vL rfl h1 vL_ok (by omega) A2 c2 3 tL rfl h2 tL_ok (by omega) hp 5 rfl)
  go_enter Tryd.func10, Tryd.ntmps10
  go_wp2_with (go_at_call 13; refine (HM.out _ _ _ _ _ _ _ (by exact (((lies_vals w _ rfl _ _ _ rfl).alloc _).alloc _).alloc _) (by exact (lies_vals ((w.alloc _).alloc _) _ (by simp) _ _ _ rfl).alloc _) (lies_vals (((w.alloc _).alloc _).alloc _) _ (by simp) _ _ _ rfl)).mono ?_; rintro e w1 ⟨A, c, rfl, hl, hb, hc⟩)
  go_ret
  exact ⟨A, c, rfl, hl, ((((Below.refl _ _).alloc (Nat.le_refl _) _).alloc (by simp) _).alloc (by simp; omega) _).alloc (by simp; omega) _ |>.trans (hb.mono (by simp; omega)), hc⟩
set_option maxHeartbeats 1000000 in
theorem bin_tt (kk : Int) (w : World) : Calls Tryd.prog 10 #[.int .u8 kk, .bool true, .bool true] w (MdPost w (made2 kk 0 0 tL tL) 7) := by
  have HM := Lib.hid (fun PA pc W A1 c1 A2 c2 (h1 : Lies W A1 (ndCells tL)) (h2 : Lies W A2 (ndCells tL)) hp => rmade_2 PA pc kk 0 0 W A1 c1 3 tL rfl h1 tL_ok (by omega) A2 c2 3 tL rfl h2 tL_ok (by omega) hp 7 rfl)
  go_enter Tryd.func10, Tryd.ntmps10
  go_wp2_with (go_at_call 13; refine (HM.out _ _ _ _ _ _ _ (by exact (lies_vals ((w.alloc _).alloc _) _ (by simp) _ _ _ rfl).alloc _) (by exact (lies_vals ((w.alloc _).alloc _) _ (by simp) _ _ _ rfl).alloc _) (lies_vals (((w.alloc _).alloc _).alloc _) _ (by simp) _ _ _ rfl)).mono ?_; rintro e w1 ⟨A, c, rfl, hl, hb, hc⟩)
  go_ret
  exact ⟨A, c, rfl, hl, ((((Below.refl _ _).alloc (Nat.le_refl _) _).alloc (by simp) _).alloc (by simp; omega) _).alloc (by simp; omega) _ |>.trans (hb.mono (by simp; omega)), hc⟩
theorem typed_true (A : Option Addr) (c n : Nat) (L : List Nd) (t : Bool) (w : World) (hs : SigT w) (hn : L.length = n) (h60 : n ≤ 60) (ht : Lies w A (ndCells L)) (m : Int) (hm : (n : Int) - 1 = m) (hv : ofF L = (t, m, 0)) :
    Calls Tryd.prog 11 #[.slice A n c, .bool t] w fun e w' => e = .returned (.bool true) ∧ Below w.heap.size w w' := by
  have HO := Lib.hid (of_any A c n L w hs hn (by unfold maxLen; omega) ht t m 0 hv)
  subst hm
  clear hs hn ht hv
  cases t
  all_goals
    go_enter Tryd.func11, Tryd.ntmps11
    go_wp2_with (go_at_call 12; refine HO.out.mono ?_; rintro e w1 ⟨rfl, hb⟩)
    go_ret
    exact ⟨rfl, hb⟩
def Bl (w0 w : World) : Prop := Below w0.heap.size w0 w
theorem Bl.start (w : World) : Bl w w := Below.refl _ _
theorem Bl.step {w0 w w' : World} (h : Bl w0 w) (hb : Below w.heap.size w w') : Bl w0 w' := Below.trans h (Below.mono hb (Below.size h))
theorem Bl.size {w0 w : World} (h : Bl w0 w) : w0.heap.size ≤ w.heap.size := Below.size h
theorem Bl.al {w0 w : World} (h : Bl w0 w) (o : Obj) : Bl w0 (w.alloc o) := h.step ((Below.refl _ _).alloc (Nat.le_refl _) _)
theorem Bl.lies {w0 w : World} {A : Option Addr} {cs : List Value} (h : Bl w0 w) (hl : Lies w0 A cs) : Lies w A cs := hl.below h
theorem Bl.sig {w0 w : World} (h : Bl w0 w) (hs : SigT w0) : SigT w := hs.stays h

theorem of_a1 : ofF (made2 8 0 0 vL tL) = (false, 4, 42) := by decide +kernel
theorem of_a2 : ofF (made1 6 0 0 vL) = (false, 1, 42) := by decide +kernel
theorem of_a3 : ofF (made2 12 0 0 tL vL) = (false, 4, 42) := by decide +kernel
theorem of_a4 : ofF (made2 12 0 0 vL vL) = (true, 2, 0) := by decide +kernel
theorem of_a5 : ofF (made2 16 0 0 tL tL) = (true, 6, 0) := by decide +kernel
set_option maxHeartbeats 2000000 in
theorem alive_any (w : World) (hs : SigT w) : Calls Tryd.prog 17 #[] w fun e w' => e = .returned (.bool true) ∧ Below w.heap.size w w' := by
  have HS := Lib.hid hs
  have O1 := Lib.hid (fun A c W (hb : Bl w W) hl => of_any A c 5 _ W (hb.sig hs) (by rfl) (by unfold maxLen; omega) hl _ _ _ of_a1)
  have O2 := Lib.hid (fun A c W (hb : Bl w W) hl => of_any A c 2 _ W (hb.sig hs) (by rfl) (by unfold maxLen; omega) hl _ _ _ of_a2)
  have O3 := Lib.hid (fun A c W (hb : Bl w W) hl => of_any A c 5 _ W (hb.sig hs) (by rfl) (by unfold maxLen; omega) hl _ _ _ of_a3)
  have T4 := Lib.hid (fun A c W (hb : Bl w W) hl => typed_true A c 3 _ true W (hb.sig hs) (by rfl) (by omega) hl 2 (by omega) of_a4)
  have T5 := Lib.hid (fun A c W (hb : Bl w W) hl => typed_true A c 7 _ true W (hb.sig hs) (by rfl) (by omega) hl 6 (by omega) of_a5)
  have M := Lib.hid (fun PA pc W A1 c1 (h1 : Lies W A1 (ndCells vL)) hp => rmade_1 PA pc 6 0 0 W A1 c1 1 vL rfl h1 vL_ok (by omega) hp 2 rfl)
  clear hs
  go_enter Tryd.func17, Tryd.ntmps17
  go_wp2_with (first
    | (go_at_call 10; (with_reducible refine (bin_ft 8 _).mono ?_); rintro e w1 ⟨A1, c1, rfl, hl1, hb, hc1⟩; have b1 := (Bl.start w).step hb; clear hb)
    | (go_at_call 12; (with_reducible refine (O1.out _ _ _ b1 hl1).mono ?_); rintro e w2 ⟨rfl, hb⟩; have b2 := b1.step hb; clear hb b1 hl1)
    | (go_at_call 13; refine (M.out _ _ _ _ _ (by exact (lies_vals w2 _ rfl _ _ _ rfl).alloc _) (lies_vals (w2.alloc _) _ (by simp) _ _ _ rfl)).mono ?_; rintro e w3 ⟨A3, c3, rfl, hl3, hb, hc3⟩; have b3 := ((b2.al _).al _).step hb; clear hb b2)
    | (go_at_call 12; (with_reducible refine (O2.out _ _ _ b3 hl3).mono ?_); rintro e w4 ⟨rfl, hb⟩; have b4 := b3.step hb; clear hb b3 hl3)
    | (go_at_call 10; (with_reducible refine (bin_tf 12 _).mono ?_); rintro e w5 ⟨A5, c5, rfl, hl5, hb, hc5⟩; have b5 := b4.step hb; clear hb b4)
    | (go_at_call 12; (with_reducible refine (O3.out _ _ _ b5 hl5).mono ?_); rintro e w6 ⟨rfl, hb⟩; have b6 := b5.step hb; clear hb b5 hl5)
    | (go_at_call 10; (with_reducible refine (bin_ff 12 _).mono ?_); rintro e w7 ⟨A7, c7, rfl, hl7, hb, hc7⟩; have b7 := b6.step hb; clear hb b6)
    | (go_at_call 11; (with_reducible refine (T4.out _ _ _ b7 hl7).mono ?_); rintro e w8 ⟨rfl, hb⟩; have b8 := b7.step hb; clear hb b7 hl7)
    | (go_at_call 10; (with_reducible refine (bin_tt 16 _).mono ?_); rintro e w9 ⟨A9, c9, rfl, hl9, hb, hc9⟩; have b9 := b8.step hb; clear hb b8)
    | (go_at_call 11; (with_reducible refine (T5.out _ _ _ b9 hl9).mono ?_); rintro e wa ⟨rfl, hb⟩; have ba := b9.step hb; clear hb b9 hl9))
  go_ret
  exact ⟨rfl, ba⟩
end Go.Proofs.YtfnkofcgjbakeaaDoor.K6
