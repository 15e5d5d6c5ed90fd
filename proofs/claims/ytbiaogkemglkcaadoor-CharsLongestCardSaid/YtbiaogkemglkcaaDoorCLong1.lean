/- The walk of CharsLongest: symbols of one byte, and all cases together. -/
import Derived.Test.YtbiaogkemglkcaaDoorCLongest
namespace Go.Proofs.YtbiaogkemglkcaaDoor
open Go.ChangeShapes Go.WideShapes Go.ChangeAt Go.RowKit
set_option linter.unusedVariables false

set_option maxHeartbeats 1000000 in
theorem main_1s (s b : ByteArray) (a : Nat) (w : World) (hg : Good w w) (hs : s.size ≤ 400) (hb : b.size ≤ 10) (ha : a + 1 ≤ s.size) (hn : longL (s.data.toList.drop a) = 1)
    (hk0 : kindI (s[a]'(by omega)).toNat = 4) (ho : longL (s.extract a (a + 1)).data.toList = 1) (he : s.size < a + 2) :
    Calls Tryd.prog 6 #[.string s, .int .i64 a, .string b] w fun e w' => e = .returned (.bool true) ∧ Good w w' := by
  have HS := Lib.hid (fun w0 w h => symbol_g s a 1 w0 w (by unfold maxLen; omega) (by omega) hn h)
  have hz : (s.extract a (a + 1)).size = 1 := by rw [ByteArray.size_extract]; omega
  have HO := Lib.hid (fun w0 w h => length_0 (s.extract a (a + 1)) 1 w0 w (by rw [hz]; decide) ho h)
  have h1 : ¬ 400 < s.size := by omega
  have h2 : ¬ 10 < b.size := by omega
  have g1 : (a : Int) + 1 ≤ s.size := by omega
  have g2 : (0 : Int) ≤ (a : Int) + 1 := by omega
  have g3 : ((a : Int) + 1).toNat = a + 1 := by omega
  have g4 : (a : Int) ≤ (a : Int) + 1 := by omega
  have g5 : (s.size : Int) - (a : Int) < 2 := by omega
  have K0 := Lib.hid hk0
  clear hn hk0 ho hz
  go_enter Tryd.func6, Tryd.ntmps6
  go_wp2_with (first
    | (go_at_call 13; refine (HS.out w _ (by assumption)).mono ?_; rintro e w' ⟨rfl, _, hg⟩))
  go_loopw [9] (fun i wr => (i = .int .i64 0 ∨ i = .int .i64 1) ∧ Good w wr) (fun i _ => 1 - (intOf i).toNat)
  case atStart => exact ⟨Or.inl rfl, by assumption⟩
  case round =>
    obtain ⟨rfl | rfl, hg⟩ := hrel
    · go_wp2_with (first
        | (go_at_call 16; refine (kind_g _ _ w _ K0.out (by assumption)).mono ?_; rintro e w' ⟨rfl, _, hg⟩))
      go_roundw
      case rel => exact ⟨Or.inr rfl, by assumption⟩
      case measure => simp [intOf]
    · go_wp2_with (first
        | (go_at_call 10; (with_reducible refine (HO.out w _ (by assumption)).mono ?_); rintro e w' ⟨rfl, _, hg⟩)
        | (go_at_call 14; refine (alive_g w _ (by assumption)).mono ?_; rintro e w' ⟨rfl, _, hg⟩))
      go_ret
      exact ⟨rfl, by assumption⟩
set_option maxHeartbeats 1000000 in
theorem main_1l (s b : ByteArray) (a : Nat) (w : World) (hg : Good w w) (hs : s.size ≤ 400) (hb : b.size ≤ 10) (ha : a + 1 ≤ s.size) (hn : longL (s.data.toList.drop a) = 1)
    (hk0 : kindI (s[a]'(by omega)).toNat = 4) (ho : longL (s.extract a (a + 1)).data.toList = 1) (he : a + 2 ≤ s.size) (ht : longL (s.extract a (a + 2)).data.toList = 1) :
    Calls Tryd.prog 6 #[.string s, .int .i64 a, .string b] w fun e w' => e = .returned (.bool true) ∧ Good w w' := by
  have HS := Lib.hid (fun w0 w h => symbol_g s a 1 w0 w (by unfold maxLen; omega) (by omega) hn h)
  have hz : (s.extract a (a + 1)).size = 1 := by rw [ByteArray.size_extract]; omega
  have HO := Lib.hid (fun w0 w h => length_0 (s.extract a (a + 1)) 1 w0 w (by rw [hz]; decide) ho h)
  have h1 : ¬ 400 < s.size := by omega
  have h2 : ¬ 10 < b.size := by omega
  have g1 : (a : Int) + 1 ≤ s.size := by omega
  have g2 : (0 : Int) ≤ (a : Int) + 1 := by omega
  have g3 : ((a : Int) + 1).toNat = a + 1 := by omega
  have g4 : (a : Int) ≤ (a : Int) + 1 := by omega
  have g5 : ¬ (s.size : Int) - (a : Int) < 2 := by omega
  have g6 : decide ((s.size : Int) - (a : Int) < 2) = false := by simpa using g5
  have g7 : (a : Int) + 2 ≤ s.size := by omega
  have g8 : (0 : Int) ≤ (a : Int) + 2 := by omega
  have g9 : ((a : Int) + 2).toNat = a + 2 := by omega
  have g10 : (a : Int) ≤ (a : Int) + 2 := by omega
  have HT := Lib.hid (fun w0 w h => length_0 (s.extract a (a + 2)) 1 w0 w (by rw [ByteArray.size_extract]; unfold maxLen; omega) ht h)
  clear ht g5
  have K0 := Lib.hid hk0
  clear hn hk0 ho hz
  go_enter Tryd.func6, Tryd.ntmps6
  go_wp2_with (first
    | (go_at_call 13; refine (HS.out w _ (by assumption)).mono ?_; rintro e w' ⟨rfl, _, hg⟩))
  go_loopw [9] (fun i wr => (i = .int .i64 0 ∨ i = .int .i64 1) ∧ Good w wr) (fun i _ => 1 - (intOf i).toNat)
  case atStart => exact ⟨Or.inl rfl, by assumption⟩
  case round =>
    obtain ⟨rfl | rfl, hg⟩ := hrel
    · go_wp2_with (first
        | (go_at_call 16; refine (kind_g _ _ w _ K0.out (by assumption)).mono ?_; rintro e w' ⟨rfl, _, hg⟩))
      go_roundw
      case rel => exact ⟨Or.inr rfl, by assumption⟩
      case measure => simp [intOf]
    · go_wp2_with (first
        | (go_at_call 10; ((first | (with_reducible refine (HO.out w _ (by assumption)).mono ?_) | (with_reducible refine (HT.out w _ (by assumption)).mono ?_))); rintro e w' ⟨rfl, _, hg⟩)
        | (go_at_call 14; refine (alive_g w _ (by assumption)).mono ?_; rintro e w' ⟨rfl, _, hg⟩))
      go_ret
      exact ⟨rfl, by assumption⟩

theorem CharsLongest_walk (s : ByteArray) (a : Int) (b : ByteArray) (w0 : s.size ≤ maxLen) (w1 : (Lit.int .i64 a).wf = true) (w2 : b.size ≤ maxLen) (w : World) (ht : Tabs w) :
    Calls Tryd.prog 6 #[.string s, .int .i64 a, .string b] w fun e w' => e = .returned (.bool true) ∧ Below w.heap.size w w' := by
  suffices hh : Calls Tryd.prog 6 #[.string s, .int .i64 a, .string b] w fun e w' => e = .returned (.bool true) ∧ Good w w' from hh.mono fun e w' ⟨he, hg⟩ => ⟨he, hg.1⟩
  have hg := Good.start ht
  by_cases h1 : 400 < s.size
  · exact early_s s b a w hg h1
  by_cases h2 : 10 < b.size
  · exact early_b s b a w hg h1 h2
  by_cases h3 : a < 0
  · exact early_n s b a w hg h1 h2 h3
  by_cases h4 : (s.size : Int) < a
  · exact early_p s b a w hg h1 h2 h3 h4
  obtain ⟨a, rfl⟩ := Int.eq_ofNat_of_zero_le (show 0 ≤ a by omega)
  have ha : a ≤ s.size := by omega
  have hs : s.size ≤ 400 := by omega
  have hb : b.size ≤ 10 := by omega
  obtain ⟨l, hl⟩ : ∃ l, s.data.toList.drop a = l := ⟨_, rfl⟩
  have hlen : l.length = s.size - a := by rw [← hl]; simp
  rcases long_le l with hn | hn | hn
  · have hn' := hn
    rw [← hl] at hn'
    rcases long_facts0 l hn with rfl | ⟨x, r, rfl, hx⟩
    · exact main_0e s b a w hg hs hb (by simp at hlen; omega) hn'
    · obtain ⟨hx0, hx1⟩ := at_list s a 0 x _ hl (by simp)
      simp only [Nat.add_zero] at hx0 hx1
      by_cases hk : kindI x.toNat = 4
      · rcases hx with hx | hx
        · exact absurd hk hx
        · exact main_0b s b a w hg hs hb hx0 hn' (by rw [hx1]; exact hk) (by rw [hx1]; exact hx)
      · exact main_0k s b a w hg hs hb hx0 hn' (by rw [hx1]; exact hk)
  · have hn' := hn
    rw [← hl] at hn'
    obtain ⟨x, r, rfl, hk, ho, hr⟩ := long_facts1 l hn
    obtain ⟨hx0, hx1⟩ := at_list s a 0 x _ hl (by simp)
    simp only [Nat.add_zero] at hx0 hx1
    have ho' : longL (s.extract a (a + 1)).data.toList = 1 := by rw [cut_list s a 1 _ hl]; exact ho
    have hk' : kindI (s[a]'hx0).toNat = 4 := by rw [hx1]; exact hk
    rcases hr with rfl | ⟨y, r, rfl, hy⟩
    · exact main_1s s b a w hg hs hb (by omega) hn' hk' ho' (by simp at hlen; omega)
    · exact main_1l s b a w hg hs hb (by omega) hn' hk' ho' (by simp at hlen; omega) (by rw [cut_list s a 2 _ hl]; exact hy)
  · have hn' := hn
    rw [← hl] at hn'
    obtain ⟨x, y, r, rfl, hk0, hk1, hm⟩ := long_facts2 l hn
    obtain ⟨hx0, hx1⟩ := at_list s a 0 x _ hl (by simp)
    obtain ⟨hy0, hy1⟩ := at_list s a 1 y _ hl (by simp)
    simp only [Nat.add_zero] at hx0 hx1
    have hc := cut_list s a 2 _ hl
    exact main_2 s b a w hg hs hb (by omega) hn' (by rw [hx1]; exact hk0) (by rw [hy1]; exact hk1) (by rw [hc]; exact hm []) (by rw [ByteArray.data_append, Array.toList_append, hc]; exact hm _)
end Go.Proofs.YtbiaogkemglkcaaDoor
