/- The walk of CharsLongest. -/
import Derived.Test.YtbiaogkemglkcaaDoorCGood
import Derived.Test.YtbiaogkemglkcaaDoorCSyms
namespace Go.Proofs.YtbiaogkemglkcaaDoor
open Go.ChangeShapes Go.WideShapes Go.ChangeAt Go.RowKit
set_option linter.unusedVariables false

theorem symbol_g (s : ByteArray) (a : Nat) (n : Nat) (w0 w : World) (hs : s.size ≤ maxLen) (ha : a ≤ s.size) (hn : longL (s.data.toList.drop a) = n) (h : Good w0 w) :
    Calls Tryd.prog 13 #[.string s, .int .i64 a] w fun e w' => e = .returned (.tuple #[.int .i64 n, .int .i64 0]) ∧ Below w.heap.size w w' ∧ Good w0 w' :=
  (symbol_in s a w hs h.2 ha).mono fun e w' ⟨he, m, hw⟩ => by subst hn; subst hw; exact ⟨he, below_drewN _ _, h.step (below_drewN _ _)⟩

theorem cut_list (s : ByteArray) (a n : Nat) (l : List UInt8) (hl : s.data.toList.drop a = l) : (s.extract a (a + n)).data.toList = l.take n := by
  subst hl; simp
theorem at_list (s : ByteArray) (a k : Nat) (x : UInt8) (l : List UInt8) (hl : s.data.toList.drop a = l) (hx : l[k]? = some x) : ∃ h : a + k < s.size, s[a + k]'h = x := by
  subst hl
  rw [List.getElem?_drop] at hx
  obtain ⟨h, e⟩ := List.getElem?_eq_some_iff.1 hx
  exact ⟨by simpa using h, e⟩

theorem early_s (s b : ByteArray) (a : Int) (w : World) (hg : Good w w) (h1 : 400 < s.size) :
    Calls Tryd.prog 6 #[.string s, .int .i64 a, .string b] w fun e w' => e = .returned (.bool true) ∧ Good w w' := by
  go_enter Tryd.func6, Tryd.ntmps6
  go_wp2_with (go_at_call 14; refine (alive_g w _ (by assumption)).mono ?_; rintro e w' ⟨rfl, _, hg⟩)
  go_ret
  exact ⟨rfl, by assumption⟩
theorem early_b (s b : ByteArray) (a : Int) (w : World) (hg : Good w w) (h0 : ¬ 400 < s.size) (h1 : 10 < b.size) :
    Calls Tryd.prog 6 #[.string s, .int .i64 a, .string b] w fun e w' => e = .returned (.bool true) ∧ Good w w' := by
  go_enter Tryd.func6, Tryd.ntmps6
  go_wp2_with (go_at_call 14; refine (alive_g w _ (by assumption)).mono ?_; rintro e w' ⟨rfl, _, hg⟩)
  go_ret
  exact ⟨rfl, by assumption⟩
theorem early_n (s b : ByteArray) (a : Int) (w : World) (hg : Good w w) (h0 : ¬ 400 < s.size) (h1 : ¬ 10 < b.size) (h2 : a < 0) :
    Calls Tryd.prog 6 #[.string s, .int .i64 a, .string b] w fun e w' => e = .returned (.bool true) ∧ Good w w' := by
  go_enter Tryd.func6, Tryd.ntmps6
  go_wp2_with (go_at_call 14; refine (alive_g w _ (by assumption)).mono ?_; rintro e w' ⟨rfl, _, hg⟩)
  go_ret
  exact ⟨rfl, by assumption⟩
theorem early_p (s b : ByteArray) (a : Int) (w : World) (hg : Good w w) (h0 : ¬ 400 < s.size) (h1 : ¬ 10 < b.size) (h2 : ¬ a < 0) (h3 : (s.size : Int) < a) :
    Calls Tryd.prog 6 #[.string s, .int .i64 a, .string b] w fun e w' => e = .returned (.bool true) ∧ Good w w' := by
  go_enter Tryd.func6, Tryd.ntmps6
  go_wp2_with (go_at_call 14; refine (alive_g w _ (by assumption)).mono ?_; rintro e w' ⟨rfl, _, hg⟩)
  go_ret
  exact ⟨rfl, by assumption⟩

theorem main_0e (s b : ByteArray) (a : Nat) (w : World) (hg : Good w w) (hs : s.size ≤ 400) (hb : b.size ≤ 10) (ha : a = s.size) (hn : longL (s.data.toList.drop a) = 0) :
    Calls Tryd.prog 6 #[.string s, .int .i64 a, .string b] w fun e w' => e = .returned (.bool true) ∧ Good w w' := by
  have HS := Lib.hid (fun w0 w h => symbol_g s a 0 w0 w (by unfold maxLen; omega) (by omega) hn h)
  have h1 : ¬ 400 < s.size := by omega
  have h2 : ¬ 10 < b.size := by omega
  clear hn hs hb
  subst ha
  go_enter Tryd.func6, Tryd.ntmps6
  go_wp2_with (first
    | (go_at_call 13; refine (HS.out w _ (by assumption)).mono ?_; rintro e w' ⟨rfl, _, hg⟩)
    | (go_at_call 14; refine (alive_g w _ (by assumption)).mono ?_; rintro e w' ⟨rfl, _, hg⟩))
  go_loopw [9] (fun i wr => i = .int .i64 0 ∧ Good w wr) (fun _ _ => 0)
  case atStart => exact ⟨rfl, by assumption⟩
  case round =>
    obtain ⟨rfl, hg⟩ := hrel
    go_wp2_with (first
      | (go_at_call 14; refine (alive_g w _ (by assumption)).mono ?_; rintro e w' ⟨rfl, _, hg⟩))
    go_ret
    exact ⟨rfl, by assumption⟩

set_option maxHeartbeats 1000000 in
theorem main_0k (s b : ByteArray) (a : Nat) (w : World) (hg : Good w w) (hs : s.size ≤ 400) (hb : b.size ≤ 10) (ha : a < s.size) (hn : longL (s.data.toList.drop a) = 0) (hv : kindI (s[a]'ha).toNat ≠ 4) :
    Calls Tryd.prog 6 #[.string s, .int .i64 a, .string b] w fun e w' => e = .returned (.bool true) ∧ Good w w' := by
  have HS := Lib.hid (fun w0 w h => symbol_g s a 0 w0 w (by unfold maxLen; omega) (by omega) hn h)
  have h1 : ¬ 400 < s.size := by omega
  have h2 : ¬ 10 < b.size := by omega
  obtain ⟨v, hk⟩ : ∃ v, kindI (s[a]'ha).toNat = v := ⟨_, rfl⟩
  have e1 : (v != 4) = true := by rw [← hk]; simpa using hv
  have K := Lib.hid hk
  clear hn hs hb hk hv
  go_enter Tryd.func6, Tryd.ntmps6
  go_wp2_with (first
    | (go_at_call 13; refine (HS.out w _ (by assumption)).mono ?_; rintro e w' ⟨rfl, _, hg⟩)
    | (go_at_call 14; refine (alive_g w _ (by assumption)).mono ?_; rintro e w' ⟨rfl, _, hg⟩))
  go_loopw [9] (fun i wr => i = .int .i64 0 ∧ Good w wr) (fun _ _ => 0)
  case atStart => exact ⟨rfl, by assumption⟩
  case round =>
    obtain ⟨rfl, hg⟩ := hrel
    go_wp2_with (first
      | (go_at_call 16; refine (kind_g _ _ w _ K.out (by assumption)).mono ?_; rintro e w' ⟨rfl, _, hg⟩)
      | (go_at_call 14; refine (alive_g w _ (by assumption)).mono ?_; rintro e w' ⟨rfl, _, hg⟩))
    go_ret
    exact ⟨rfl, by assumption⟩
set_option maxHeartbeats 1000000 in
theorem main_0b (s b : ByteArray) (a : Nat) (w : World) (hg : Good w w) (hs : s.size ≤ 400) (hb : b.size ≤ 10) (ha : a < s.size) (hn : longL (s.data.toList.drop a) = 0) (hv : kindI (s[a]'ha).toNat = 4) (hx : s[a]'ha = 33) :
    Calls Tryd.prog 6 #[.string s, .int .i64 a, .string b] w fun e w' => e = .returned (.bool true) ∧ Good w w' := by
  have HS := Lib.hid (fun w0 w h => symbol_g s a 0 w0 w (by unfold maxLen; omega) (by omega) hn h)
  have h1 : ¬ 400 < s.size := by omega
  have h2 : ¬ 10 < b.size := by omega
  obtain ⟨v, hk⟩ : ∃ v, kindI (s[a]'ha).toNat = v := ⟨_, rfl⟩
  have e1 : (v != 4) = false := by rw [← hk, hv]; rfl
  have e2 : ((s[a]'ha).toNat : Int) = 33 := by rw [hx]; rfl
  clear hx
  have K := Lib.hid hk
  clear hn hs hb hk hv
  go_enter Tryd.func6, Tryd.ntmps6
  go_wp2_with (first
    | (go_at_call 13; refine (HS.out w _ (by assumption)).mono ?_; rintro e w' ⟨rfl, _, hg⟩)
    | (go_at_call 14; refine (alive_g w _ (by assumption)).mono ?_; rintro e w' ⟨rfl, _, hg⟩))
  go_loopw [9] (fun i wr => i = .int .i64 0 ∧ Good w wr) (fun _ _ => 0)
  case atStart => exact ⟨rfl, by assumption⟩
  case round =>
    obtain ⟨rfl, hg⟩ := hrel
    go_wp2_with (first
      | (go_at_call 16; refine (kind_g 33 4 w _ (by decide) (by assumption)).mono ?_; rintro e w' ⟨rfl, _, hg⟩)
      | (go_at_call 14; refine (alive_g w _ (by assumption)).mono ?_; rintro e w' ⟨rfl, _, hg⟩))
    go_ret
    exact ⟨rfl, by assumption⟩

set_option maxHeartbeats 1000000 in
theorem main_2 (s b : ByteArray) (a : Nat) (w : World) (hg : Good w w) (hs : s.size ≤ 400) (hb : b.size ≤ 10) (ha : a + 2 ≤ s.size) (hn : longL (s.data.toList.drop a) = 2) 
    (hk0 : kindI (s[a]'(by omega)).toNat = 4) (hk1 : kindI (s[a + 1]'(by omega)).toNat = 4) (ho : longL (s.extract a (a + 2)).data.toList = 2) (hob : longL ((s.extract a (a + 2)) ++ b).data.toList = 2) :
    Calls Tryd.prog 6 #[.string s, .int .i64 a, .string b] w fun e w' => e = .returned (.bool true) ∧ Good w w' := by
  have HS := Lib.hid (fun w0 w h => symbol_g s a 2 w0 w (by unfold maxLen; omega) (by omega) hn h)
  have hz : (s.extract a (a + 2)).size = 2 := by rw [ByteArray.size_extract]; omega
  have HO := Lib.hid (fun w0 w h => length_0 (s.extract a (a + 2)) 2 w0 w (by rw [hz]; decide) ho h)
  have HB := Lib.hid (fun w0 w h => length_0 (s.extract a (a + 2) ++ b) 2 w0 w (by rw [ByteArray.size_append, hz]; unfold maxLen; omega) hob h)
  have h1 : ¬ 400 < s.size := by omega
  have h2 : ¬ 10 < b.size := by omega
  have hz2 : (s.extract a (a + 2)).size ≤ 2 := by omega
  have g1 : (a : Int) + 2 ≤ s.size := by omega
  have g2 : (0 : Int) ≤ (a : Int) + 2 := by omega
  have g3 : ((a : Int) + 2).toNat = a + 2 := by omega
  have g4 : (a : Int) ≤ (a : Int) + 2 := by omega
  have K0 := Lib.hid hk0
  have K1 := Lib.hid hk1
  clear hn hk0 hk1 ho hob hz
  go_enter Tryd.func6, Tryd.ntmps6
  go_wp2_with (first
    | (go_at_call 13; refine (HS.out w _ (by assumption)).mono ?_; rintro e w' ⟨rfl, _, hg⟩))
  go_loopw [9] (fun i wr => (i = .int .i64 0 ∨ i = .int .i64 1 ∨ i = .int .i64 2) ∧ Good w wr) (fun i _ => 2 - (intOf i).toNat)
  case atStart => exact ⟨Or.inl rfl, by assumption⟩
  case round =>
    obtain ⟨rfl | rfl | rfl, hg⟩ := hrel
    · go_wp2_with (first
        | (go_at_call 16; refine (kind_g _ _ w _ K0.out (by assumption)).mono ?_; rintro e w' ⟨rfl, _, hg⟩))
      go_roundw
      case rel => exact ⟨Or.inr (Or.inl rfl), by assumption⟩
      case measure => simp [intOf]
    · go_wp2_with (first
        | (go_at_call 16; refine (kind_g _ _ w _ K1.out (by assumption)).mono ?_; rintro e w' ⟨rfl, _, hg⟩))
      go_roundw
      case rel => exact ⟨Or.inr (Or.inr rfl), by assumption⟩
      case measure => simp [intOf]
    · go_wp2_with (first
        | (go_at_call 10; ((first | (with_reducible refine (HB.out w _ (by assumption)).mono ?_) | (with_reducible refine (HO.out w _ (by assumption)).mono ?_)); rintro e w' ⟨rfl, _, hg⟩))
        | (go_at_call 14; refine (alive_g w _ (by assumption)).mono ?_; rintro e w' ⟨rfl, _, hg⟩))
      go_ret
      exact ⟨rfl, by assumption⟩
end Go.Proofs.YtbiaogkemglkcaaDoor
