/- The walk of CharsWords. -/
import Derived.Test.YtbiaogkemglkcaaDoorCGood
namespace Go.Proofs.YtbiaogkemglkcaaDoor
open Go.ChangeShapes Go.WideShapes Go.ChangeAt Go.RowKit
set_option linter.unusedVariables false

theorem word_facts (l : List UInt8) (h : isWord l = true) : 1 ≤ l.length ∧ l.length ≤ 7 ∧ (∀ b ∈ l, kindI b.toNat = 3) ∧ wordL.count l = 1 := by
  have hm : l ∈ wordL := by simpa [isWord] using h
  have key : ∀ x ∈ wordL, 1 ≤ x.length ∧ x.length ≤ 7 ∧ (∀ b ∈ x, kindI b.toNat = 3) ∧ wordL.count x = 1 := by decide +kernel
  exact key l hm
theorem count_step (L : List (List UInt8)) (k : Nat) (h : k < L.length) (l : List UInt8) : (L.take (k + 1)).count l = (L.take k).count l + if L[k] == l then 1 else 0 := by
  rw [List.take_succ_eq_append_getElem h, List.count_append, List.count_singleton]
theorem count_le (L : List (List UInt8)) (k : Nat) (l : List UInt8) : (L.take k).count l ≤ k :=
  Nat.le_trans List.count_le_length (List.length_take_le _ _)

theorem words_big (s : ByteArray) (w : World) (hg : Good w w) (h1 : 400 < s.size) :
    Calls Tryd.prog 8 #[.string s] w fun e w' => e = .returned (.bool true) ∧ Good w w' := by
  go_enter Tryd.func8, Tryd.ntmps8
  go_wp2_with (go_at_call 14; refine (alive_g w _ (by assumption)).mono ?_; rintro e w' ⟨rfl, _, hg⟩)
  go_ret
  exact ⟨rfl, by assumption⟩
theorem words_no (s : ByteArray) (w : World) (hg : Good w w) (h1 : ¬ 400 < s.size) (h2 : isWord s.data.toList = false) :
    Calls Tryd.prog 8 #[.string s] w fun e w' => e = .returned (.bool true) ∧ Good w w' := by
  have B := Lib.hid h2
  clear h2
  go_enter Tryd.func8, Tryd.ntmps8
  go_wp2_with (first
    | (go_at_call 14; refine (alive_g w _ (by assumption)).mono ?_; rintro e w' ⟨rfl, _, hg⟩)
    | (go_at_call 12; refine (word_g _ _ w _ B.out (by assumption)).mono ?_; rintro e w' ⟨rfl, rfl⟩))
  go_ret
  exact ⟨rfl, by assumption⟩

set_option maxHeartbeats 1000000 in
theorem words_yes (s : ByteArray) (w : World) (hg : Good w w) (h1 : ¬ 400 < s.size) (h2 : isWord s.data.toList = true) :
    Calls Tryd.prog 8 #[.string s] w fun e w' => e = .returned (.bool true) ∧ Good w w' := by
  obtain ⟨f1, f2, f3, f4⟩ := word_facts _ h2
  have e1 : 1 ≤ s.size := by simpa using f1
  have e2 : s.size ≤ 7 := by simpa using f2
  have B := Lib.hid h2
  have F3 := Lib.hid f3
  have F4 := Lib.hid f4
  clear h2 f1 f2 f3 f4
  go_enter Tryd.func8, Tryd.ntmps8
  go_wp2_with (go_at_call 12; refine (word_g _ _ w _ B.out (by assumption)).mono ?_; rintro e w' ⟨rfl, rfl⟩)
  go_loopw [3] (fun i wr => ∃ k : Nat, k ≤ s.size ∧ i = .int .i64 k ∧ Good w wr) (fun i _ => s.size - (intOf i).toNat)
  case atStart => exact ⟨0, Nat.zero_le _, rfl, hg⟩
  case round =>
    clear hg
    obtain ⟨k, hk, rfl, hg⟩ := hrel
    by_cases hlt : k < s.size
    · have K := Lib.hid (F3.out (s[k]'hlt) (by rw [show s[k]'hlt = s.data.toList[k]'(by simpa using hlt) from rfl]; exact List.getElem_mem _))
      go_wp2_with (go_at_call 16; refine (kind_g _ _ w _ K.out (by assumption)).mono ?_; rintro e w1 ⟨rfl, hb1, hg1⟩)
      go_roundw
      case rel => exact ⟨k + 1, by omega, by go_num, hg1⟩
      case measure => simp [intOf]; omega
    · clear hk
      go_wp2_with (go_at_call 11; refine (rwords_tab _).mono ?_; rintro e w1 ⟨rfl, ht, hb, hz⟩)
      have hg1 := hg.step hb
      clear hb hg
      go_loop [4, 6] (fun f i => ∃ m : Nat, m ≤ 29 ∧ i = .int .i64 m ∧ f = .int .i64 ((wordL.take m).count s.data.toList)) (fun _ i => 29 - (intOf i).toNat)
      case atStart => exact ⟨0, Nat.zero_le _, rfl, rfl⟩
      case round =>
        obtain ⟨m, hm, rfl, rfl⟩ := hrel
        have hcl := count_le wordL m s.data.toList
        by_cases hlt2 : m < 29
        · have HC := Lib.hid (count_step wordL m hlt2 s.data.toList)
          have hc := ht.cell m hlt2
          obtain ⟨x, hx⟩ : ∃ x, wordL[m]'hlt2 = x := ⟨_, rfl⟩
          rw [hx] at hc HC
          clear hx
          cases hq : (x == s.data.toList)
          · have hq2 : ((bytesOf x).toList == s.toList) = false := by rw [bytesOf_toList, ByteArray.toList_eq]; exact hq
            have HQ := Lib.hid hq
            clear hq
            go_wp2
            go_round
            case rel => exact ⟨m + 1, by omega, by go_num, by rw [HC.out, HQ.out]; rfl⟩
            case measure => simp [intOf]; omega
          · have hq2 : ((bytesOf x).toList == s.toList) = true := by rw [bytesOf_toList, ByteArray.toList_eq]; exact hq
            have HQ := Lib.hid hq
            clear hq
            go_wp2
            go_round
            case rel => exact ⟨m + 1, by omega, by go_num, by rw [HC.out, HQ.out]; go_num⟩
            case measure => simp [intOf]; omega
        · have hm9 : m = 29 := by omega
          have hcc : ((wordL.take m).count s.data.toList) = 1 := by rw [hm9, List.take_of_length_le (by decide)]; exact F4.out
          clear hm hm9 hcl
          go_wp2_with (go_at_call 14; refine (alive_g w _ (by assumption)).mono ?_; rintro e w' ⟨rfl, _, hg⟩)
          go_ret
          exact ⟨rfl, by assumption⟩

theorem CharsWords_walk (s : ByteArray) (w0 : s.size ≤ maxLen) (w : World) (ht : Tabs w) :
    Calls Tryd.prog 8 #[.string s] w fun e w' => e = .returned (.bool true) ∧ Below w.heap.size w w' := by
  suffices hh : Calls Tryd.prog 8 #[.string s] w fun e w' => e = .returned (.bool true) ∧ Good w w' from hh.mono fun e w' ⟨he, hg⟩ => ⟨he, hg.1⟩
  have hg := Good.start ht
  by_cases h1 : 400 < s.size
  · exact words_big s w hg h1
  cases h2 : isWord s.data.toList
  · exact words_no s w hg h1 h2
  · exact words_yes s w hg h1 h2
end Go.Proofs.YtbiaogkemglkcaaDoor
