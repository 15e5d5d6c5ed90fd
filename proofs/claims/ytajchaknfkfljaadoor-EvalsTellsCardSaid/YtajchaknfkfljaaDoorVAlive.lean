/- Contracts of leaf, two, is and alive. -/
import Derived.Test.YtajchaknfkfljaaDoorVRef2
import Derived.Test.YtajchaknfkfljaaDoorKAlive
namespace Go.Proofs.YtajchaknfkfljaaDoor.V7
open Go.ChangeShapes Go.WideShapes Go.ChangeAt Go.RowKit N4 K6
set_option linter.unusedVariables false
set_option linter.unusedSimpArgs false
set_option maxRecDepth 100000

def lf (k n : Int) : List Nd := [⟨k, n, 0, 0, 0⟩]
theorem leaf_any (k n : Int) (w : World) : Calls Tryd.prog 13 #[.int .u8 k, .int .i64 n] w (MdPost w (lf k n) 1) := by
  go_enter Tryd.func13, Tryd.ntmps13
  go_wp2
  go_ret
  exact ⟨_, _, rfl, lies_vals w _ rfl _ _ _ rfl, (Below.refl _ _).alloc (Nat.le_refl _) _, Nat.le_refl _⟩
theorem two_any (kk : Int) (A1 : Option Addr) (c1 n1 : Nat) (P : List Nd) (hn1 : P.length = n1) (hv1 : checkF P = 0) (hs1 : n1 ≤ 10) (A2 : Option Addr) (c2 n2 : Nat) (Q : List Nd) (hn2 : Q.length = n2) (hv2 : checkF Q = 0) (hs2 : n2 ≤ 10) (N : Nat) (hN : n1 + n2 + 1 = N) (w : World) (h1 : Lies w A1 (ndCells P)) (h2 : Lies w A2 (ndCells Q)) :
    Calls Tryd.prog 12 #[.int .u8 kk, .slice A1 n1 c1, .slice A2 n2 c2] w (MdPost w (made2 kk 0 0 P Q) N) := by
  have HM := Lib.hid (fun PA pc W (hb : Below w.heap.size w W) hp => rmade_2 PA pc kk 0 0 W A1 c1 n1 P hn1 (h1.below hb) hv1 hs1 A2 c2 n2 Q hn2 (h2.below hb) hv2 hs2 hp N hN)
  clear hn1 h1 hv1 hs1 hn2 h2 hv2 hs2 hN
  go_enter Tryd.func12, Tryd.ntmps12
  go_wp2_with (go_at_call 14; refine (HM.out _ _ _ ((Below.refl _ _).alloc (Nat.le_refl _) _) (lies_vals w _ rfl _ _ _ rfl)).mono ?_; rintro e w1 ⟨A, c, rfl, hl, hb, hc⟩)
  go_ret
  exact ⟨A, c, rfl, hl, ((Below.refl _ _).alloc (Nat.le_refl _) _).trans (hb.mono (by simp)), hc⟩
def rc0 : Rc := ⟨3, 10, -4⟩
theorem is_true (A : Option Addr) (c m : Nat) (L : List Nd) (v : Int) (hn : L.length = m + 1) (hc : checkF L = 0) (h : errF L = 0) (hv : lastV rc0 L = v) (w : World) (hs : SigT w) (ht : Lies w A (ndCells L)) :
    Calls Tryd.prog 15 #[.slice A (m + 1) c, .int .i64 v] w fun e w' => e = .returned (.bool true) ∧ Below w.heap.size w w' := by
  obtain ⟨E, hg⟩ := checkF_zero hc
  have HO := Lib.hid (ofv_ok A c m L E rc0 w hs hn ht hg h v hv)
  clear hn hc h hv hs ht hg
  go_enter Tryd.func15, Tryd.ntmps15
  go_wp2_with (go_at_call 9; refine HO.out.mono ?_; rintro e w1 ⟨rfl, hb⟩)
  go_ret
  exact ⟨rfl, hb⟩
theorem ck_less : checkF (made2 12 0 0 (lf 4 0) (lf 1 0)) = 0 := by decide +kernel
theorem ck_mul : checkF (made2 7 0 0 (lf 1 2) (lf 2 0)) = 0 := by decide +kernel
theorem ck_add : checkF (made2 8 0 0 (lf 4 0) (made2 7 0 0 (lf 1 2) (lf 2 0))) = 0 := by decide +kernel
theorem ck_no : checkF (made1 6 0 0 (made2 12 0 0 (lf 4 0) (lf 1 0))) = 0 := by decide +kernel
theorem ck_shr : checkF (made2 11 0 0 (lf 3 0) (lf 1 1)) = 0 := by decide +kernel
theorem ck_lk : checkF (made2 12 0 0 (lf 4 0) (lf 2 0)) = 0 := by decide +kernel
theorem er_add : errF (made2 8 0 0 (lf 4 0) (made2 7 0 0 (lf 1 2) (lf 2 0))) = 0 := by decide +kernel
theorem va_add : lastV rc0 (made2 8 0 0 (lf 4 0) (made2 7 0 0 (lf 1 2) (lf 2 0))) = 2 := by decide +kernel
theorem er_shr : errF (made2 11 0 0 (lf 3 0) (lf 1 1)) = 0 := by decide +kernel
theorem va_shr : lastV rc0 (made2 11 0 0 (lf 3 0) (lf 1 1)) = 5 := by decide +kernel
theorem er_no : errF (made1 6 0 0 (made2 12 0 0 (lf 4 0) (lf 1 0))) = 0 := by decide +kernel
theorem va_no : lastV rc0 (made1 6 0 0 (made2 12 0 0 (lf 4 0) (lf 1 0))) = 0 := by decide +kernel
theorem er_lk : errF (made2 12 0 0 (lf 4 0) (lf 2 0)) = 0 := by decide +kernel
theorem va_lk : lastV rc0 (made2 12 0 0 (lf 4 0) (lf 2 0)) = 1 := by decide +kernel
theorem ck_V : checkF (lf 4 0) = 0 := by decide +kernel
theorem ck_Z : checkF (lf 1 0) = 0 := by decide +kernel
theorem ck_N2 : checkF (lf 1 2) = 0 := by decide +kernel
theorem ck_K : checkF (lf 2 0) = 0 := by decide +kernel
theorem ck_T : checkF (lf 3 0) = 0 := by decide +kernel
theorem ck_N1 : checkF (lf 1 1) = 0 := by decide +kernel
set_option maxHeartbeats 4000000 in
theorem alive_any (w : World) (hs : SigT w) : Calls Tryd.prog 17 #[] w fun e w' => e = .returned (.bool true) ∧ Below w.heap.size w w' := by
  have HS := Lib.hid hs
  have b0 := Bl.start w
  clear hs
  go_enter Tryd.func17, Tryd.ntmps17
  go_wp2_with (first
    | (go_at_call 13; (with_reducible refine (leaf_any 4 0 _).mono ?_); rintro e w1 ⟨A1, c1, rfl, l1, hb, q1⟩; have b1 := b0.step hb; clear hb b0)
    | (go_at_call 13; (with_reducible refine (leaf_any 1 0 _).mono ?_); rintro e w2 ⟨A2, c2, rfl, l2, hb, q2⟩; have b2 := b1.step hb; have l1 := l1.below hb; clear hb b1)
    | (go_at_call 12; (with_reducible refine (two_any 12 A1 c1 1 (lf 4 0) rfl ck_V (by omega) A2 c2 1 (lf 1 0) rfl ck_Z (by omega) 3 rfl _ l1 l2).mono ?_); rintro e w3 ⟨A3, c3, rfl, l3, hb, q3⟩; have b3 := b2.step hb; have l1 := l1.below hb; have l2 := l2.below hb; clear hb b2)
    | (go_at_call 14; (with_reducible refine (rmade_1 _ _ 6 0 0 _ A3 c3 3 (made2 12 0 0 (lf 4 0) (lf 1 0)) rfl (l3.below ((Below.refl _ _).alloc (Nat.le_refl _) _)) ck_less (by omega) (lies_vals w3 _ rfl _ _ _ rfl) 4 rfl).mono ?_); rintro e w4 ⟨A4, c4, rfl, l4, hb, q4⟩; have b4 := (b3.al _).step hb; clear hb b3)
    | (go_at_call 13; (with_reducible refine (leaf_any 4 0 _).mono ?_); rintro e w5 ⟨A5, c5, rfl, l5, hb, q5⟩; have b5 := b4.step hb; have l4 := l4.below hb; clear hb b4)
    | (go_at_call 13; (with_reducible refine (leaf_any 1 2 _).mono ?_); rintro e w6 ⟨A6, c6, rfl, l6, hb, q6⟩; have b6 := b5.step hb; have l4 := l4.below hb; have l5 := l5.below hb; clear hb b5)
    | (go_at_call 13; (with_reducible refine (leaf_any 2 0 _).mono ?_); rintro e w7 ⟨A7, c7, rfl, l7, hb, q7⟩; have b7 := b6.step hb; have l4 := l4.below hb; have l5 := l5.below hb; have l6 := l6.below hb; clear hb b6)
    | (go_at_call 12; (with_reducible refine (two_any 7 A6 c6 1 (lf 1 2) rfl ck_N2 (by omega) A7 c7 1 (lf 2 0) rfl ck_K (by omega) 3 rfl _ l6 l7).mono ?_); rintro e w8 ⟨A8, c8, rfl, l8, hb, q8⟩; have b8 := b7.step hb; have l4 := l4.below hb; have l5 := l5.below hb; have l6 := l6.below hb; have l7 := l7.below hb; clear hb b7)
    | (go_at_call 12; (with_reducible refine (two_any 8 A5 c5 1 (lf 4 0) rfl ck_V (by omega) A8 c8 3 (made2 7 0 0 (lf 1 2) (lf 2 0)) rfl ck_mul (by omega) 5 rfl _ l5 l8).mono ?_); rintro e w9 ⟨A9, c9, rfl, l9, hb, q9⟩; have b9 := b8.step hb; have l4 := l4.below hb; have l5 := l5.below hb; have l8 := l8.below hb; clear hb b8)
    | (go_at_call 15; (with_reducible refine (is_true A9 c9 4 (made2 8 0 0 (lf 4 0) (made2 7 0 0 (lf 1 2) (lf 2 0))) 2 rfl ck_add er_add va_add _ (b9.sig HS.out) l9).mono ?_); rintro e w10 ⟨rfl, hb⟩; have b10 := b9.step hb; have l4 := l4.below hb; have l9 := l9.below hb; clear hb b9)
    | (go_at_call 13; (with_reducible refine (leaf_any 3 0 _).mono ?_); rintro e w11 ⟨A11, c11, rfl, l11, hb, q11⟩; have b11 := b10.step hb; have l4 := l4.below hb; clear hb b10)
    | (go_at_call 13; (with_reducible refine (leaf_any 1 1 _).mono ?_); rintro e w12 ⟨A12, c12, rfl, l12, hb, q12⟩; have b12 := b11.step hb; have l4 := l4.below hb; have l11 := l11.below hb; clear hb b11)
    | (go_at_call 12; (with_reducible refine (two_any 11 A11 c11 1 (lf 3 0) rfl ck_T (by omega) A12 c12 1 (lf 1 1) rfl ck_N1 (by omega) 3 rfl _ l11 l12).mono ?_); rintro e w13 ⟨A13, c13, rfl, l13, hb, q13⟩; have b13 := b12.step hb; have l4 := l4.below hb; have l11 := l11.below hb; have l12 := l12.below hb; clear hb b12)
    | (go_at_call 15; (with_reducible refine (is_true A13 c13 2 (made2 11 0 0 (lf 3 0) (lf 1 1)) 5 rfl ck_shr er_shr va_shr _ (b13.sig HS.out) l13).mono ?_); rintro e w14 ⟨rfl, hb⟩; have b14 := b13.step hb; have l4 := l4.below hb; have l13 := l13.below hb; clear hb b13)
    | (go_at_call 15; (with_reducible refine (is_true A4 c4 3 (made1 6 0 0 (made2 12 0 0 (lf 4 0) (lf 1 0))) 0 rfl ck_no er_no va_no _ (b14.sig HS.out) l4).mono ?_); rintro e w15 ⟨rfl, hb⟩; have b15 := b14.step hb; have l4 := l4.below hb; clear hb b14)
    | (go_at_call 13; (with_reducible refine (leaf_any 4 0 _).mono ?_); rintro e w16 ⟨A16, c16, rfl, l16, hb, q16⟩; have b16 := b15.step hb; clear hb b15)
    | (go_at_call 13; (with_reducible refine (leaf_any 2 0 _).mono ?_); rintro e w17 ⟨A17, c17, rfl, l17, hb, q17⟩; have b17 := b16.step hb; have l16 := l16.below hb; clear hb b16)
    | (go_at_call 12; (with_reducible refine (two_any 12 A16 c16 1 (lf 4 0) rfl ck_V (by omega) A17 c17 1 (lf 2 0) rfl ck_K (by omega) 3 rfl _ l16 l17).mono ?_); rintro e w18 ⟨A18, c18, rfl, l18, hb, q18⟩; have b18 := b17.step hb; have l16 := l16.below hb; have l17 := l17.below hb; clear hb b17)
    | (go_at_call 15; (with_reducible refine (is_true A18 c18 2 (made2 12 0 0 (lf 4 0) (lf 2 0)) 1 rfl ck_lk er_lk va_lk _ (b18.sig HS.out) l18).mono ?_); rintro e w19 ⟨rfl, hb⟩; have b19 := b18.step hb; have l18 := l18.below hb; clear hb b18))
  go_ret
  exact ⟨rfl, b19⟩
end Go.Proofs.YtajchaknfkfljaaDoor.V7
