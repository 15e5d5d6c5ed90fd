
/- Contracts of Check, Depth, Size, firstError. -/
import Derived.Test.YtaijhkfbfkdepaaNMeas
import Derived.Test.YtaijhkfbfkdepaaNMath2
namespace Go.Proofs.Ytaijhkfbfkdepaa.N4
open Go.ChangeShapes Go.WideShapes Go.ChangeAt Go.RowKit
set_option linter.unusedVariables false
set_option maxRecDepth 100000

theorem meas_bad (A : Option Addr) (c : Nat) (L : List Nd) (w : World) (hL : L.length ≤ maxLen) (ht : Lies w A (ndCells L)) (v : Int) (hv : checkF L = v) (h0 : v ≠ 0) :
    Calls Try.prog 32 #[.slice A L.length c] w fun e w' => e = .returned (.tuple #[.slice none 0 0, .int .i64 v]) ∧ Below w.heap.size w w' := by
  subst hv
  refine (meas_any A c L w hL ht).mono ?_
  rintro e w' ⟨hb, ⟨_, rfl⟩ | ⟨E, A', c', hg, rfl, hl⟩⟩
  · exact ⟨rfl, hb⟩
  · exact absurd (checkF_ok hg) h0
def MOk (E : List Ex) (n : Nat) (w : World) (e : Ending) (w' : World) : Prop := ∃ ad c', e = .returned (.tuple #[.slice (some ad) n c', .int .i64 0]) ∧ Lies w' (some ad) (exCells E) ∧ Below w.heap.size w w'
theorem meas_ok (A : Option Addr) (c n : Nat) (L : List Nd) (E : List Ex) (w : World) (ht : Lies w A (ndCells L)) (hg : Good4 L E) (hn : L.length = n) :
    Calls Try.prog 32 #[.slice A n c] w (MOk E n w) := by
  subst hn
  refine (meas_any A c L w (by have := hg.2.1; unfold maxLen; omega) ht).mono ?_
  rintro e w' ⟨hb, ⟨h0, rfl⟩ | ⟨E', A', c', hg', rfl, hl⟩⟩
  · exact absurd (checkF_ok hg) h0
  · obtain rfl : E = E' := Option.some.inj (hg.2.2.1.symm.trans hg'.2.2.1)
    obtain ⟨ee, hee, _⟩ := hg.2.2.2
    obtain ⟨ad, rfl, _⟩ := hl.ex hee
    rw [extF_length hg.2.2.1]
    exact ⟨ad, c', rfl, hl, hb⟩
theorem errno_ne {v : Int} (h : v ≠ 0) : (v != 0) = true := by rw [bne_iff_ne]; exact h
theorem check_any (A : Option Addr) (c : Nat) (L : List Nd) (w : World) (hL : L.length ≤ maxLen) (ht : Lies w A (ndCells L)) (v : Int) (hv : checkF L = v) :
    Calls Try.prog 16 #[.slice A L.length c] w fun e w' => e = .returned (.int .i64 v) ∧ Below w.heap.size w w' := by
  by_cases h0 : v = 0
  · subst h0
    obtain ⟨E, hg⟩ := checkF_zero hv
    have HM := Lib.hid (meas_ok A c _ L E w ht hg rfl)
    clear ht hv hg
    go_enter Try.func16, Try.ntmps16
    go_wp2_with (go_at_call 32; refine HM.out.mono ?_; rintro e w1 ⟨ad, c', rfl, _, hb⟩)
    go_ret
    exact ⟨rfl, hb⟩
  · have HM := Lib.hid (meas_bad A c L w hL ht v hv h0)
    clear ht hv h0
    go_enter Try.func16, Try.ntmps16
    go_wp2_with (go_at_call 32; refine HM.out.mono ?_; rintro e w1 ⟨rfl, hb⟩)
    go_ret
    exact ⟨rfl, hb⟩
end Go.Proofs.Ytaijhkfbfkdepaa.N4
