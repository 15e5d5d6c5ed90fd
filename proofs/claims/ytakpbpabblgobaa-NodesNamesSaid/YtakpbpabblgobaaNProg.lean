/- Contracts of Check, Depth, Size, firstError. -/
import Derived.Test.YtakpbpabblgobaaNMeas
import Derived.Test.YtakpbpabblgobaaNMath2
namespace Go.Proofs.Ytakpbpabblgobaa
open Go.ChangeShapes Go.WideShapes Go.ChangeAt Go.RowKit
set_option linter.unusedVariables false

theorem meas_bad (A : Option Addr) (c : Nat) (L : List Nd) (w : World) (hL : L.length ≤ maxLen) (ht : Lies w A (ndCells L)) (v : Int) (hv : checkF L = v) (h0 : v ≠ 0) :
    Calls Try.prog 25 #[.slice A L.length c] w fun e w' => e = .returned (.tuple #[.slice none 0 0, .int .i64 v]) ∧ Below w.heap.size w w' := by
  subst hv
  refine (meas_any A c L w hL ht).mono ?_
  rintro e w' ⟨hb, ⟨_, rfl⟩ | ⟨E, A', c', hg, rfl, hl⟩⟩
  · exact ⟨rfl, hb⟩
  · exact absurd (checkF_ok hg) h0
def MOk (E : List Ex) (n : Nat) (w : World) (e : Ending) (w' : World) : Prop := ∃ ad c', e = .returned (.tuple #[.slice (some ad) n c', .int .i64 0]) ∧ Lies w' (some ad) (exCells E) ∧ Below w.heap.size w w'
theorem meas_ok (A : Option Addr) (c n : Nat) (L : List Nd) (E : List Ex) (w : World) (ht : Lies w A (ndCells L)) (hg : Good4 L E) (hn : L.length = n) :
    Calls Try.prog 25 #[.slice A n c] w (MOk E n w) := by
  subst hn
  refine (meas_any A c L w (by have := hg.2.1; unfold maxLen; omega) ht).mono ?_
  rintro e w' ⟨hb, ⟨h0, rfl⟩ | ⟨E', A', c', hg', rfl, hl⟩⟩
  · exact absurd (checkF_ok hg) h0
  · obtain rfl : E = E' := Option.some.inj (hg.2.2.1.symm.trans hg'.2.2.1)
    obtain ⟨ee, hee, _⟩ := hg.2.2.2
    obtain ⟨ad, rfl, _⟩ := hl.ex hee
    rw [extF_length hg.2.2.1]
    exact ⟨ad, c', rfl, hl, hb⟩
theorem errno_ne {v : Int} (h : v ≠ 0) : (v != 0) = true := by rw [bne_iff_ne]; exact h
theorem check_any (A : Option Addr) (c : Nat) (L : List Nd) (w : World) (hL : L.length ≤ maxLen) (ht : Lies w A (ndCells L)) (v : Int) (hv : checkF L = v) :
    Calls Try.prog 15 #[.slice A L.length c] w fun e w' => e = .returned (.int .i64 v) ∧ Below w.heap.size w w' := by
  by_cases h0 : v = 0
  · subst h0
    obtain ⟨E, hg⟩ := checkF_zero hv
    have HM := Lib.hid (meas_ok A c _ L E w ht hg rfl)
    clear ht hv hg
    go_enter Try.func15, Try.ntmps15
    go_wp2_with (go_at_call 25; refine HM.out.mono ?_; rintro e w1 ⟨ad, c', rfl, _, hb⟩)
    go_ret
    exact ⟨rfl, hb⟩
  · have HM := Lib.hid (meas_bad A c L w hL ht v hv h0)
    clear ht hv h0
    go_enter Try.func15, Try.ntmps15
    go_wp2_with (go_at_call 25; refine HM.out.mono ?_; rintro e w1 ⟨rfl, hb⟩)
    go_ret
    exact ⟨rfl, hb⟩
theorem depth_bad (A : Option Addr) (c : Nat) (L : List Nd) (w : World) (hL : L.length ≤ maxLen) (ht : Lies w A (ndCells L)) (v : Int) (hv : checkF L = v) (h0 : v ≠ 0) :
    Calls Try.prog 9 #[.slice A L.length c] w fun e w' => e = .returned (.tuple #[.int .i64 0, .int .i64 v]) ∧ Below w.heap.size w w' := by
  have HM := Lib.hid (meas_bad A c L w hL ht v hv h0)
  have hn := errno_ne h0
  clear ht h0 hv
  go_enter Try.func9, Try.ntmps9
  go_wp2_with (go_at_call 25; refine HM.out.mono ?_; rintro e w1 ⟨rfl, hb⟩)
  go_ret2
  exact ⟨rfl, hb⟩
theorem depth_ok (A : Option Addr) (c n : Nat) (L : List Nd) (w : World) (ht : Lies w A (ndCells L)) (hv : checkF L = 0) (hn : L.length = n) (d : Int) (hd : depF L = d) :
    Calls Try.prog 9 #[.slice A n c] w fun e w' => e = .returned (.tuple #[.int .i64 d, .int .i64 0]) ∧ Below w.heap.size w w' := by
  obtain ⟨E, hg⟩ := checkF_zero hv
  have HM := Lib.hid (meas_ok A c n L E w ht hg hn)
  obtain ⟨h1, h2, hE, ee, hee, hs1, hs2⟩ := hg
  obtain rfl : (ee.d : Int) = d := (depF_of hE hee).symm.trans hd
  have hp : 1 ≤ n := by rw [← hn]; exact List.length_pos_iff.2 h1
  obtain ⟨m, rfl⟩ : ∃ m, n = m + 1 := ⟨n - 1, by omega⟩
  rw [hn, Nat.add_sub_cancel] at hee
  have HX := Lib.hid hee
  rw [hn] at h2
  clear ht hv hd hn h1 hE hee hs1
  go_enter Try.func9, Try.ntmps9
  go_wp2_with (go_at_call 25; refine HM.out.mono ?_; rintro e w1 ⟨ad, c', rfl, hl, hb⟩; obtain ⟨ad', hadd, _, d0, d1⟩ := hl.ex HX.out; injection hadd with hadd; subst hadd; clear hl)
  go_ret2
  exact ⟨rfl, hb⟩
theorem size_bad (A : Option Addr) (c : Nat) (L : List Nd) (at_ : Int) (w : World) (hL : L.length ≤ maxLen) (ht : Lies w A (ndCells L)) (v : Int) (hv : checkF L = v) (h0 : v ≠ 0) :
    Calls Try.prog 10 #[.slice A L.length c, .int .i64 at_] w fun e w' => e = .returned (.tuple #[.int .i64 0, .int .i64 v]) ∧ Below w.heap.size w w' := by
  have HM := Lib.hid (meas_bad A c L w hL ht v hv h0)
  have hn := errno_ne h0
  clear ht h0 hv
  go_enter Try.func10, Try.ntmps10
  go_wp2_with (go_at_call 25; refine HM.out.mono ?_; rintro e w1 ⟨rfl, hb⟩)
  go_ret2
  exact ⟨rfl, hb⟩
theorem size_arg (A : Option Addr) (c n : Nat) (L : List Nd) (at_ : Int) (w : World) (ht : Lies w A (ndCells L)) (hv : checkF L = 0) (hn : L.length = n) (ha : at_ < 0 ∨ n ≤ at_) :
    Calls Try.prog 10 #[.slice A n c, .int .i64 at_] w fun e w' => e = .returned (.tuple #[.int .i64 0, .int .i64 2]) ∧ Below w.heap.size w w' := by
  obtain ⟨E, hg⟩ := checkF_zero hv
  have HM := Lib.hid (meas_ok A c n L E w ht hg hn)
  clear ht hv hn hg
  rcases ha with ha | ha
  · go_enter Try.func10, Try.ntmps10
    go_wp2_with (go_at_call 25; refine HM.out.mono ?_; rintro e w1 ⟨ad, c', rfl, hl, hb⟩; clear hl)
    go_ret2
    exact ⟨rfl, hb⟩
  · have h3 : ¬ at_ < 0 := by omega
    go_enter Try.func10, Try.ntmps10
    go_wp2_with (go_at_call 25; refine HM.out.mono ?_; rintro e w1 ⟨ad, c', rfl, hl, hb⟩; clear hl)
    go_ret2
    exact ⟨rfl, hb⟩
theorem size_ok (A : Option Addr) (c n : Nat) (L : List Nd) (i s : Nat) (w : World) (ht : Lies w A (ndCells L)) (hv : checkF L = 0) (hn : L.length = n) (hi : i < n) (hs : sizF L i = s) :
    Calls Try.prog 10 #[.slice A n c, .int .i64 i] w fun e w' => e = .returned (.tuple #[.int .i64 s, .int .i64 0]) ∧ Below w.heap.size w w' := by
  obtain ⟨E, hg⟩ := checkF_zero hv
  have HM := Lib.hid (meas_ok A c n L E w ht hg hn)
  obtain ⟨h1, h2, hE, ee, hee, hs1, hs2⟩ := hg
  have hEl := extF_length hE
  obtain ⟨y, hy⟩ : ∃ y, E[i]? = some y := ⟨_, List.getElem?_eq_getElem (by omega)⟩
  obtain rfl : y.s = s := (sizF_of hE hy).symm.trans hs
  have HX := Lib.hid hy
  rw [hn] at h2
  clear ht hv hs hn h1 hE hee hs1 hEl hy
  go_enter Try.func10, Try.ntmps10
  go_wp2_with (go_at_call 25; refine HM.out.mono ?_; rintro e w1 ⟨ad, c', rfl, hl, hb⟩; obtain ⟨ad', hadd, _, d0, d1⟩ := hl.ex HX.out; injection hadd with hadd; subst hadd; clear hl)
  go_ret2
  exact ⟨rfl, hb⟩
end Go.Proofs.Ytakpbpabblgobaa
