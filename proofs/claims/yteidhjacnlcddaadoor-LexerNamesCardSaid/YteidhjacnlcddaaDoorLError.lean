/- The walk of LexerError. -/
import Derived.Test.YteidhjacnlcddaaDoorLAlive
namespace Go.Proofs.YteidhjacnlcddaaDoor
open Go.ChangeShapes Go.WideShapes Go.ChangeAt Go.RowKit
set_option linter.unusedVariables false

theorem kind_g (c v : Int) (w0 w : World) (hv : kindI c = v) (h : Good w0 w) :
    Calls Tryd.prog 21 #[.int .u8 c] w fun e w' => e = .returned (.int .u8 v) ∧ Below w.heap.size w w' ∧ Good w0 w' :=
  (kind_v c v w hv).mono fun e w' ⟨he, hb⟩ => ⟨he, hb, h.step hb⟩

theorem err_big (s : ByteArray) (w : World) (hs : s.size ≤ maxLen) (h4 : 400 < s.size) (hg : Good w w) :
    Calls Tryd.prog 8 #[.string s] w fun e w' => e = .returned (.bool true) ∧ Good w w' := by
  have HA := Lib.hid (all_g s [] 0 4 0 w w hs (allF_big _ (by simpa using h4)) rfl hg)
  unfold maxLen at hs
  clear hg
  go_enter Tryd.func8, Tryd.ntmps8
  go_wp2_with (first
    | (go_at_call 15; refine HA.out.mono ?_; rintro e w1 ⟨A, c, rfl, _, _, hg1⟩)
    | (go_at_call 13; refine (alive_g w _ (by assumption)).mono ?_; rintro e w' ⟨rfl, _, hg⟩))
  go_ret
  exact ⟨rfl, by assumption⟩
theorem err_ok (s : ByteArray) (L : List Tok) (q n : Nat) (w : World) (h4 : s.size ≤ 400) (ha : allF s.data.toList = (L, q, 0)) (hn : L.length = n) (hg : Good w w) :
    Calls Tryd.prog 8 #[.string s] w fun e w' => e = .returned (.bool true) ∧ Good w w' := by
  have HA := Lib.hid (all_g s L q 0 n w w (by unfold maxLen; omega) ha hn hg)
  clear hg ha hn
  have h5 : ¬ 400 < s.size := by omega
  go_enter Tryd.func8, Tryd.ntmps8
  go_wp2_with (first
    | (go_at_call 15; refine HA.out.mono ?_; rintro e w1 ⟨A, c, rfl, _, _, hg1⟩)
    | (go_at_call 13; refine (alive_g w _ (by assumption)).mono ?_; rintro e w' ⟨rfl, _, hg⟩))
  go_ret
  exact ⟨rfl, by assumption⟩
set_option maxHeartbeats 1000000 in
theorem err_many (s : ByteArray) (q : Nat) (er : Int) (w : World) (h4 : s.size ≤ 400) (ha : allF s.data.toList = ([], q, er)) (h0 : er ≠ 0) (hq : q < s.size) (hk : kindI (s[q].toNat : Int) ≠ 1) (L1 : List Tok) (n1 : Nat) (h1 : allF (s.data.toList.take q) = (L1, q, 0)) (hn1 : L1.length = n1) (he : er = 4) (L2 : List Tok) (k2 n2 : Nat) (g2 : Int) (h2 : allF (s.data.toList.drop q) = (L2, k2, g2)) (hn2 : L2.length = n2) (hg : Good w w) :
    Calls Tryd.prog 8 #[.string s] w fun e w' => e = .returned (.bool true) ∧ Good w w' := by
  have HM := Lib.hid (show s.size ≤ maxLen by unfold maxLen; omega)
  have HA := Lib.hid (all_g s [] q er 0 w w HM.out ha rfl hg)
  have HA1 := Lib.hid (fun w1 h => all_g (s.extract 0 q) L1 q 0 n1 w w1 (by rw [ByteArray.size_extract]; unfold maxLen; omega) (by rw [show (s.extract 0 q).data.toList = s.data.toList.take q by simp]; exact h1) hn1 h)
  have e2 : (er == 4) = true := by simpa using he
  have HA2 := Lib.hid (fun w1 h => all_g (s.extract q s.size) _ k2 g2 _ w w1 (by rw [ByteArray.size_extract]; unfold maxLen; omega) (by rw [show (s.extract q s.size).data.toList = s.data.toList.drop q by simp; rw [List.take_of_length_le]; simp]; exact h2) hn2 h)
  obtain ⟨v, hv⟩ : ∃ v, kindI (s[q].toNat : Int) = v := ⟨_, rfl⟩
  have HK := Lib.hid (fun w1 h => kind_g _ v w w1 hv h)
  have e1 : (er == 0) = false := by simpa using h0
  have e4 : (v == 1) = false := by rw [← hv]; simpa using hk
  have h5 : ¬ 400 < s.size := by omega
  clear hg ha h0 hk h1 hn1 h2 hn2 hv he
  go_enter Tryd.func8, Tryd.ntmps8
  go_wp2_with (first
    | (go_at_call 15; (first | ((with_reducible refine (HA1.out _ (by assumption)).mono ?_); rintro e w1 ⟨A1, c1, rfl, _, _, hg1⟩) | ((with_reducible refine (HA2.out _ (by assumption)).mono ?_); rintro e w1 ⟨A2, c2, rfl, _, _, hg1⟩) | ((with_reducible refine HA.out.mono ?_); rintro e w1 ⟨A, c, rfl, _, _, hg1⟩)))
    | (go_at_call 21; refine (HK.out _ (by assumption)).mono ?_; rintro e w1 ⟨rfl, _, hg1⟩)
    | (go_at_call 13; refine (alive_g w _ (by assumption)).mono ?_; rintro e w' ⟨rfl, _, hg⟩))
  go_ret
  exact ⟨rfl, by assumption⟩
set_option maxHeartbeats 1000000 in
theorem err_at (s : ByteArray) (q : Nat) (er : Int) (w : World) (h4 : s.size ≤ 400) (ha : allF s.data.toList = ([], q, er)) (h0 : er ≠ 0) (hq : q < s.size) (hk : kindI (s[q].toNat : Int) ≠ 1) (L1 : List Tok) (n1 : Nat) (h1 : allF (s.data.toList.take q) = (L1, q, 0)) (hn1 : L1.length = n1) (h2 : allF (s.data.toList.drop q) = ([], 0, er)) (he : er ≠ 4) (hg : Good w w) :
    Calls Tryd.prog 8 #[.string s] w fun e w' => e = .returned (.bool true) ∧ Good w w' := by
  have HM := Lib.hid (show s.size ≤ maxLen by unfold maxLen; omega)
  have HA := Lib.hid (all_g s [] q er 0 w w HM.out ha rfl hg)
  have HA1 := Lib.hid (fun w1 h => all_g (s.extract 0 q) L1 q 0 n1 w w1 (by rw [ByteArray.size_extract]; unfold maxLen; omega) (by rw [show (s.extract 0 q).data.toList = s.data.toList.take q by simp]; exact h1) hn1 h)
  have e2 : (er == 4) = false := by simpa using he
  have hn2 : ([] : List Tok).length = 0 := rfl
  have e3 : (er == er) = true := by simp
  have HA2 := Lib.hid (fun w1 h => all_g (s.extract q s.size) _ 0 er _ w w1 (by rw [ByteArray.size_extract]; unfold maxLen; omega) (by rw [show (s.extract q s.size).data.toList = s.data.toList.drop q by simp; rw [List.take_of_length_le]; simp]; exact h2) hn2 h)
  obtain ⟨v, hv⟩ : ∃ v, kindI (s[q].toNat : Int) = v := ⟨_, rfl⟩
  have HK := Lib.hid (fun w1 h => kind_g _ v w w1 hv h)
  have e1 : (er == 0) = false := by simpa using h0
  have e4 : (v == 1) = false := by rw [← hv]; simpa using hk
  have h5 : ¬ 400 < s.size := by omega
  clear hg ha h0 hk h1 hn1 h2 hn2 hv he
  go_enter Tryd.func8, Tryd.ntmps8
  go_wp2_with (first
    | (go_at_call 15; (first | ((with_reducible refine (HA1.out _ (by assumption)).mono ?_); rintro e w1 ⟨A1, c1, rfl, _, _, hg1⟩) | ((with_reducible refine (HA2.out _ (by assumption)).mono ?_); rintro e w1 ⟨A2, c2, rfl, _, _, hg1⟩) | ((with_reducible refine HA.out.mono ?_); rintro e w1 ⟨A, c, rfl, _, _, hg1⟩)))
    | (go_at_call 21; refine (HK.out _ (by assumption)).mono ?_; rintro e w1 ⟨rfl, _, hg1⟩)
    | (go_at_call 13; refine (alive_g w _ (by assumption)).mono ?_; rintro e w' ⟨rfl, _, hg⟩))
  go_ret
  exact ⟨rfl, by assumption⟩
theorem LexerError_walk (s : ByteArray) (hs : s.size ≤ maxLen) (w : World) (ht : Tabs w) :
    Calls Tryd.prog 8 #[.string s] w fun e w' => e = .returned (.bool true) ∧ Below w.heap.size w w' := by
  suffices hh : Calls Tryd.prog 8 #[.string s] w fun e w' => e = .returned (.bool true) ∧ Good w w' from hh.mono fun e w' ⟨he, hg⟩ => ⟨he, hg.1⟩
  have hg := Good.start ht
  have hlen : s.data.toList.length = s.size := by simp
  by_cases h4 : 400 < s.size
  · exact err_big s w hs h4 hg
  · obtain ⟨ts, q, er, hL, hf⟩ := allF_lex s.data.toList (by omega)
    by_cases h0 : er = 0
    · subst h0
      rw [if_pos rfl] at hf
      exact err_ok s ts q _ w (by omega) hf rfl hg
    · rw [if_neg h0] at hf
      obtain ⟨x, hx, ⟨hx2, hk⟩, hp, ho⟩ := hL.prefix h0
      rw [Nat.zero_add] at hx
      subst hx
      have h1 := allF_of (s := s.data.toList.take q) (by rw [List.length_take]; omega) hp
      rw [if_pos rfl] at h1
      by_cases he : er = 4
      · exact err_many s q er w (by omega) hf h0 (by omega) hk ts _ h1 rfl he _ _ _ _ rfl rfl hg
      · have h2 := allF_of (s := s.data.toList.drop q) (by rw [List.length_drop]; omega) (ho he)
        rw [if_neg h0] at h2
        exact err_at s q er w (by omega) hf h0 (by omega) hk ts _ h1 rfl h2 he hg
end Go.Proofs.YteidhjacnlcddaaDoor
