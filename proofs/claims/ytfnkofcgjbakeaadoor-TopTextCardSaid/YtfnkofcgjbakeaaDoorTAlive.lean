/- What TopText keeps from call to call; its example. -/
import Derived.Test.YtfnkofcgjbakeaaDoorEAlive
import Derived.Test.YtfnkofcgjbakeaaDoorTBin
import Derived.Test.YtfnkofcgjbakeaaDoorTMath
import Derived.Test.YtfnkofcgjbakeaaDoorKOf
import Derived.Test.YtfnkofcgjbakeaaDoorKMath2
namespace Go.Proofs.YtfnkofcgjbakeaaDoor.T6
open Go.ChangeShapes Go.WideShapes Go.ChangeAt Go.RowKit N4
set_option linter.unusedVariables false
set_option maxRecDepth 100000

def G6 (w0 w : World) : Prop := G5 w0 w ∧ K6.SigT w
theorem G6.start {w : World} (h : TB w) (hs : K6.SigT w) : G6 w w := ⟨G5.start h, hs⟩
theorem G6.step {w0 w w' : World} (h : G6 w0 w) (hb : Below w.heap.size w w') : G6 w0 w' := ⟨h.1.step hb, h.2.stays hb⟩
theorem G6.below {w0 w : World} (h : G6 w0 w) : Below w0.heap.size w0 w := h.1.1
theorem all6 (T : List UInt8) (hT : T.length ≤ maxLen) (L : List Tok) (q : Nat) (er : Int) (h : allF T = (L, q, er)) (w0 w : World) (hg : G6 w0 w) :
    Calls Tryd.prog 29 #[.string (bytesOf T)] w fun e w' => ∃ A c, e = .returned (.tuple #[.slice A L.length c, .int .i64 q, .int .i64 er]) ∧ Toks w' A L ∧ G6 w0 w' :=
  (all_g T hT L q er h w0 w hg.1).mono fun e w' ⟨A, c, he, ht, hb, hg'⟩ => ⟨A, c, he, ht, hg', hg.2.stays hb⟩
theorem parse6 (A : Option Addr) (c n : Nat) (L : List Tok) (r : R) (hn : L.length = n) (hs : ∀ t ∈ L, t.s.length ≤ maxLen) (hv : chkF L = 0) (hr : Rd (.line 0) L r) (w0 w : World) (hg : G6 w0 w) (ht : Toks w A L) :
    Calls Tryd.prog 31 #[.slice A n c, .int .i64 0] w fun e w' => PPost n r w e w' ∧ G6 w0 w' :=
  (parse_g A c n L 0 r hn hs hv (Nat.zero_le _) hr w0 w hg.1 ht).mono fun e w' ⟨hp, hg'⟩ => ⟨hp, hg', hg.2.stays hp.1⟩
def aT : Tr := .bin 8 2 (.leaf 4 0 0) (.leaf 1 12 4)
theorem a_lex : allF [118, 32, 43, 32, 49, 50] = ([⟨2, [118], 0⟩, ⟨3, [43], 2⟩, ⟨1, [49, 50], 4⟩], 6, 0) := by decide +kernel
theorem a_rd : Rd (.line 0) [⟨2, [118], 0⟩, ⟨3, [43], 2⟩, ⟨1, [49, 50], 4⟩] (.ok aT []) := rdF_Rd 4000 _ _ _ (by exact trivial) (by decide +kernel)
theorem a_of : K6.ofF aT.flat = (false, 2, 0) := by decide +kernel
theorem alive6 (w0 w : World) (hg : G6 w0 w) : Calls Tryd.prog 28 #[] w fun e w' => e = .returned (.bool true) ∧ G6 w0 w' := by
  have HA := Lib.hid (fun W (hW : G6 w0 W) => show Calls Tryd.prog 29 #[.string ⟨#[118, 32, 43, 32, 49, 50]⟩] W fun e w' => ∃ A c, e = .returned (.tuple #[.slice A 3 c, .int .i64 6, .int .i64 0]) ∧ Toks w' A [⟨2, [118], 0⟩, ⟨3, [43], 2⟩, ⟨1, [49, 50], 4⟩] ∧ G6 w0 w' from all6 [118, 32, 43, 32, 49, 50] (by unfold maxLen; decide) _ _ _ a_lex w0 W hW)
  have HP := Lib.hid (fun A c W hW ht => parse6 A c 3 _ _ (by rfl) (by decide) (by decide +kernel) a_rd w0 W hW ht)
  have HO := Lib.hid (fun A c W (hW : G6 w0 W) hl => K6.of_any A c 3 aT.flat W hW.2 (by rfl) (by unfold maxLen; omega) hl _ _ _ a_of)
  have HG := Lib.hid hg
  clear hg
  go_enter Tryd.func28, Tryd.ntmps28
  go_wp2_with (first
    | (go_at_call 29; (with_reducible refine (HA.out _ HG.out).mono ?_); rintro e w2 ⟨A, c, rfl, ht, hg2⟩; have HT := Lib.hid ht; have HG2 := Lib.hid hg2; clear ht hg2)
    | (go_at_call 31; refine (HP.out _ _ _ HG2.out HT.out).mono ?_; rintro e w3 ⟨⟨_, A3, c3, rfl, hl3⟩, hg3⟩; have HG3 := Lib.hid hg3; have HL3 := Lib.hid hl3; clear hg3 hl3)
    | (go_at_call 12; refine (HO.out _ _ _ HG3.out HL3.out).mono ?_; rintro e w4 ⟨rfl, hb⟩; have HG4 := Lib.hid (HG3.out.step hb); clear hb))
  go_ret
  exact ⟨rfl, HG4.out⟩
end Go.Proofs.YtfnkofcgjbakeaaDoor.T6
