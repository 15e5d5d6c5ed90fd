/- The walks of CharsTells and CharsPlace. -/
import Derived.Test.YtbiaogkemglkcaaDoorCGood
namespace Go.Proofs.YtbiaogkemglkcaaDoor
open Go.ChangeShapes Go.WideShapes Go.ChangeAt Go.RowKit
set_option linter.unusedVariables false

theorem both_symbols (s : ByteArray) (a : Int) (hs : s.size ≤ maxLen) : ∃ x y : Int,
    (∀ w0 w, Good w0 w → Calls Tryd.prog 13 #[.string s, .int .i64 a] w fun e w' => e = .returned (.tuple #[.int .i64 x, .int .i64 y]) ∧ Below w.heap.size w w' ∧ Good w0 w') ∧
    (∀ w0 w, Good w0 w → Calls Tryd.prog 15 #[.string s, .int .i64 a] w fun e w' => e = .returned (.tuple #[.int .i64 x, .int .i64 y]) ∧ Below w.heap.size w w' ∧ Good w0 w') := by
  by_cases h0 : a < 0
  · exact ⟨0, 2, fun w0 w h => (symbol_neg s a w hs h0).mono fun e w' ⟨he, hw⟩ => by subst hw; exact ⟨he, Below.refl _ _, h⟩, fun w0 w h => (rsymbol_neg s a w hs h0).mono fun e w' ⟨he, hw⟩ => by subst hw; exact ⟨he, Below.refl _ _, h⟩⟩
  · by_cases h1 : (s.size : Int) < a
    · exact ⟨0, 2, fun w0 w h => (symbol_big s a w hs h1).mono fun e w' ⟨he, hw⟩ => by subst hw; exact ⟨he, Below.refl _ _, h⟩, fun w0 w h => (rsymbol_big s a w hs h1).mono fun e w' ⟨he, hw⟩ => by subst hw; exact ⟨he, Below.refl _ _, h⟩⟩
    · obtain ⟨a, rfl⟩ := Int.eq_ofNat_of_zero_le (show 0 ≤ a by omega)
      have h2 : a ≤ s.size := by omega
      exact ⟨_, _, fun w0 w h => (symbol_in s a w hs h.2 h2).mono fun e w' ⟨he, m, hw⟩ => by subst hw; exact ⟨he, below_drewN _ _, h.step (below_drewN _ _)⟩, fun w0 w h => (rsymbol_in s a w hs h2).mono fun e w' ⟨he, hw⟩ => ⟨he, hw, h.step hw⟩⟩

theorem CharsTells_walk (c : Int) (s t : ByteArray) (a : Int) (w0 : (Lit.int .u8 c).wf = true) (w1 : s.size ≤ maxLen) (w2 : t.size ≤ maxLen) (w3 : (Lit.int .i64 a).wf = true) (w : World) (ht : Tabs w) :
    Calls Tryd.prog 4 #[.int .u8 c, .string s, .string t, .int .i64 a] w fun e w' => e = .returned (.bool true) ∧ Below w.heap.size w w' := by
  suffices hh : Calls Tryd.prog 4 #[.int .u8 c, .string s, .string t, .int .i64 a] w fun e w' => e = .returned (.bool true) ∧ Good w w' from hh.mono fun e w' ⟨he, hg⟩ => ⟨he, hg.1⟩
  have hg := Good.start ht
  obtain ⟨x, y, s1, s2⟩ := both_symbols s a w1
  have S1 := Lib.hid s1
  have S2 := Lib.hid s2
  clear s1 s2 ht w0 w3 w1 w2
  obtain ⟨b, hb⟩ : ∃ b, isWord t.data.toList = b := ⟨_, rfl⟩
  have B := Lib.hid hb
  obtain ⟨k, hk⟩ : ∃ k, kindI c = k := ⟨_, rfl⟩
  have K := Lib.hid hk
  clear hb hk
  by_cases h1 : 400 < s.size
  · go_enter Tryd.func4, Tryd.ntmps4
    go_wp2_with fail
    go_ret
    exact ⟨rfl, hg⟩
  · by_cases h2 : 400 < t.size
    · go_enter Tryd.func4, Tryd.ntmps4
      go_wp2_with fail
      go_ret
      exact ⟨rfl, hg⟩
    · go_enter Tryd.func4, Tryd.ntmps4
      go_wp2_with (first
        | (go_at_call 13; refine (S1.out w _ (by assumption)).mono ?_; rintro e w' ⟨rfl, _, hg⟩)
        | (go_at_call 15; refine (S2.out w _ (by assumption)).mono ?_; rintro e w' ⟨rfl, _, hg⟩)
        | (go_at_call 16; refine (kind_g _ _ w _ K.out (by assumption)).mono ?_; rintro e w' ⟨rfl, _, hg⟩)
        | (go_at_call 17; refine (rkind_g _ _ _ K.out).mono ?_; rintro e w' ⟨rfl, rfl⟩)
        | (go_at_call 12; refine (word_g _ _ w _ B.out (by assumption)).mono ?_; rintro e w' ⟨rfl, rfl⟩)
        | (go_at_call 18; refine (rword_g _ _ w _ B.out (by assumption)).mono ?_; rintro e w' ⟨rfl, _, hg⟩))
      go_ret
      exact ⟨rfl, by assumption⟩

theorem CharsPlace_walk (f s : ByteArray) (w0 : f.size ≤ maxLen) (w1 : s.size ≤ maxLen) (w : World) (ht : Tabs w) :
    Calls Tryd.prog 7 #[.string f, .string s] w fun e w' => e = .returned (.bool true) ∧ Below w.heap.size w w' := by
  suffices hh : Calls Tryd.prog 7 #[.string f, .string s] w fun e w' => e = .returned (.bool true) ∧ Good w w' from hh.mono fun e w' ⟨he, hg⟩ => ⟨he, hg.1⟩
  have hg := Good.start ht
  clear ht
  by_cases h1 : 200 < f.size
  · clear w0 w1
    go_enter Tryd.func7, Tryd.ntmps7
    go_wp2_with (go_at_call 14; refine (alive_g w _ (by assumption)).mono ?_; rintro e w' ⟨rfl, _, hg⟩)
    go_ret
    exact ⟨rfl, by assumption⟩
  · by_cases h2 : 200 < s.size
    · clear w0 w1
      go_enter Tryd.func7, Tryd.ntmps7
      go_wp2_with (go_at_call 14; refine (alive_g w _ (by assumption)).mono ?_; rintro e w' ⟨rfl, _, hg⟩)
      go_ret
      exact ⟨rfl, by assumption⟩
    · obtain ⟨n, hn⟩ : ∃ n, longL s.data.toList = n := ⟨_, rfl⟩
      have N := Lib.hid hn
      have hz : (f ++ s).size ≤ maxLen := by rw [ByteArray.size_append]; unfold maxLen; omega
      have L1 := Lib.hid (fun w0 w h => length_g (f ++ s) f.size n w0 w hz (by rw [ByteArray.size_append]; omega) (by rw [ByteArray.data_append, Array.toList_append, List.drop_left' (by simp), N.out]) h)
      have L2 := Lib.hid (fun w0 w h => length_0 s n w0 w w1 N.out h)
      clear hz hn w0 w1
      go_enter Tryd.func7, Tryd.ntmps7
      go_wp2_with (first
        | (go_at_call 10; ((first | (with_reducible refine (L1.out w _ (by assumption)).mono ?_) | (with_reducible refine (L2.out w _ (by assumption)).mono ?_)); rintro e w' ⟨rfl, _, hg⟩))
        | (go_at_call 14; refine (alive_g w _ (by assumption)).mono ?_; rintro e w' ⟨rfl, _, hg⟩))
      go_ret
      exact ⟨rfl, by assumption⟩
end Go.Proofs.YtbiaogkemglkcaaDoor
