/- The walks of LexerFinds and LexerJoin. -/
import Derived.Test.YteidhjacnlcddaaDoorLError
namespace Go.Proofs.YteidhjacnlcddaaDoor
open Go.ChangeShapes Go.WideShapes Go.ChangeAt Go.RowKit
set_option linter.unusedVariables false

theorem rall_g (s : ByteArray) (L : List Tok) (q : Nat) (er : Int) (n : Nat) (w0 w : World) (hs : s.size ≤ maxLen) (h : allF s.data.toList = (L, q, er)) (hn : L.length = n) (hg : Good w0 w) :
    Calls Tryd.prog 16 #[.string s] w fun e w' => ∃ A c, e = .returned (.tuple #[.slice A n c, .int .i64 q, .int .i64 er]) ∧ Toks w' A L ∧ Below w.heap.size w w' ∧ Good w0 w' := by
  subst hn
  exact (rall_any s w hs hg.2 L q er h).mono fun e w' ⟨A, c, he, ht, hgg⟩ => ⟨A, c, he, ht, hgg.1, hg.step hgg.1⟩
theorem rjoin_g (A : Option Addr) (c : Nat) (L : List Tok) (n : Nat) (Z : ByteArray) (er : Int) (w0 w : World) (hn : L.length = n) (hL : n ≤ 1000000) (ht : Toks w A L) (hs : ∀ t ∈ L, t.s.length ≤ 500) (hj : joinF L = (Z.data.toList, er)) (hg : Good w0 w) :
    Calls Tryd.prog 17 #[.slice A n c] w fun e w' => e = .returned (.tuple #[.string Z, .int .i64 er]) ∧ Below w.heap.size w w' ∧ Good w0 w' := by
  subst hn
  refine (rjoin_any A c L w (by unfold maxLen; omega) ht hs hg.2 _ er hj).mono fun e w' ⟨he, hgg⟩ => ⟨?_, hgg.1, hg.step hgg.1⟩
  rw [he]
  have : bytesOf Z.data.toList = Z := by apply ByteArray.ext; apply Array.toList_inj.1; rw [bytesOf_list]
  rw [this]
theorem same_g (A A' : Option Addr) (c c' : Nat) (L : List Tok) (n : Nat) (w0 w : World) (hn : L.length = n) (hL : n ≤ 1000000) (ht : Toks w A L) (ht' : Toks w A' L) (hg : Good w0 w) :
    Calls Tryd.prog 18 #[.slice A n c, .slice A' n c'] w fun e w' => e = .returned (.bool true) ∧ Below w.heap.size w w' ∧ Good w0 w' := by
  subst hn
  exact (same_any A A' c c' L w (by unfold maxLen; omega) ht ht').mono fun e w' ⟨he, hb⟩ => ⟨he, hb, hg.step hb⟩
theorem alike_g (A A' : Option Addr) (c c' : Nat) (L M : List Tok) (n : Nat) (w0 w : World) (hn : L.length = n) (hm : M.length = n) (hL : n ≤ 1000000) (ht : Toks w A L) (ht' : Toks w A' M) (hal : al L = al M) (hg : Good w0 w) :
    Calls Tryd.prog 20 #[.slice A n c, .slice A' n c'] w fun e w' => e = .returned (.bool true) ∧ Below w.heap.size w w' ∧ Good w0 w' := by
  have := alike_any A A' c c' L M w (by unfold maxLen; omega) (by unfold maxLen; omega) ht ht' hal
  rw [hn, hm] at this
  exact this.mono fun e w' ⟨he, hb⟩ => ⟨he, hb, hg.step hb⟩
theorem great_g (A : Option Addr) (c : Nat) (L : List Tok) (n : Nat) (w : World) (hn : L.length = n) (hL : n ≤ maxLen) (ht : Toks w A L) (b : Bool) (hb : greatF L = b) :
    Calls Tryd.prog 14 #[.slice A n c] w fun e w' => e = .returned (.bool b) ∧ w = w' := by
  subst hn; exact great_any A c L w hL ht b hb
theorem great_small {L : List Tok} (h : greatF L = false) : L.length ≤ 220 ∧ ∀ t ∈ L, t.s.length ≤ 500 := by
  unfold greatF at h
  rw [Bool.or_eq_false_iff, List.any_eq_false] at h
  exact ⟨by have := h.1; simp at this; omega, fun t ht => by have := h.2 t ht; simp at this; omega⟩

theorem finds_big (s : ByteArray) (A : Option Addr) (c n : Nat) (w : World) (hs : s.size ≤ maxLen) (h4 : 1000 < s.size) (hg : Good w w) :
    Calls Tryd.prog 4 #[.string s, .slice A n c] w fun e w' => e = .returned (.bool true) ∧ Good w w' := by
  unfold maxLen at hs
  go_enter Tryd.func4, Tryd.ntmps4
  go_wp2
  go_ret
  exact ⟨rfl, by assumption⟩
theorem finds_great (s : ByteArray) (A : Option Addr) (c : Nat) (L : List Tok) (n : Nat) (w : World) (h4 : s.size ≤ 1000) (hn : L.length = n) (hL : n ≤ maxLen) (ht : Toks w A L) (hgr : greatF L = true) (hg : Good w w) :
    Calls Tryd.prog 4 #[.string s, .slice A n c] w fun e w' => e = .returned (.bool true) ∧ Good w w' := by
  have HG := Lib.hid (great_g A c L n w hn hL ht true hgr)
  have h6 : ¬ 1000 < s.size := by omega
  clear hn hL ht hgr
  go_enter Tryd.func4, Tryd.ntmps4
  go_wp2_with (go_at_call 14; refine HG.out.mono ?_; rintro e w1 ⟨rfl, rfl⟩)
  go_ret
  exact ⟨rfl, by assumption⟩
set_option maxHeartbeats 1000000 in
theorem finds_go (s : ByteArray) (A : Option Addr) (c : Nat) (L : List Tok) (n : Nat) (w : World) (h4 : s.size ≤ 1000) (hn : L.length = n) (ht : Toks w A L) (hgr : greatF L = false) (M : List Tok) (q : Nat) (er : Int) (m : Nat) (ha : allF s.data.toList = (M, q, er)) (hm : M.length = m) (Z : ByteArray) (ej : Int) (hj : joinF L = (Z.data.toList, ej)) (hg : Good w w) :
    Calls Tryd.prog 4 #[.string s, .slice A n c] w fun e w' => e = .returned (.bool true) ∧ Good w w' := by
  obtain ⟨hL, hs⟩ := great_small hgr
  have HT := Lib.hid ht
  have HG := Lib.hid (great_g A c L n w hn (by unfold maxLen; omega) ht false hgr)
  have HA := Lib.hid (fun w1 h => all_g s M q er m w w1 (by unfold maxLen; omega) ha hm h)
  have HR := Lib.hid (fun w1 h => rall_g s M q er m w w1 (by unfold maxLen; omega) ha hm h)
  have HJ := Lib.hid (fun w1 (h : Good w w1) => join_g A c L n Z ej w w1 hn (by omega) (ht.below h.1) (fun t ht => by have := hs t ht; unfold maxLen; omega) hj h)
  have HK := Lib.hid (fun w1 (h : Good w w1) => rjoin_g A c L n Z ej w w1 hn (by omega) (ht.below h.1) hs hj h)
  have HS := Lib.hid (fun A1 A2 c1 c2 w1 h1 h2 h => same_g A1 A2 c1 c2 M m w w1 hm (by have := (lex_small ha).1; omega) h1 h2 h)
  have h6 : ¬ 1000 < s.size := by omega
  have e1 : (er == er) = true := by simp
  have e2 : (ej == ej) = true := by simp
  have e3 : (Z.toList == Z.toList) = true := by simp
  clear hn hL hs ht hgr ha hm hj
  go_enter Tryd.func4, Tryd.ntmps4
  go_wp2_with (first
    | (go_at_call 14; refine HG.out.mono ?_; rintro e w1 ⟨rfl, rfl⟩)
    | (go_at_call 15; refine (HA.out _ (by assumption)).mono ?_; rintro e w1 ⟨A1, c1, rfl, ht1, hb1, hg1⟩; have HT1 := Lib.hid ht1; clear ht1)
    | (go_at_call 16; refine (HR.out _ (by assumption)).mono ?_; rintro e w2 ⟨A2, c2, rfl, ht2, hb2, hg2⟩; have HT2 := Lib.hid (And.intro (HT1.out.below hb2) ht2); clear ht2)
    | (go_at_call 12; refine (HJ.out _ (by assumption)).mono ?_; rintro e w3 ⟨rfl, hb3, hg3⟩)
    | (go_at_call 17; refine (HK.out _ (by assumption)).mono ?_; rintro e w4 ⟨rfl, hb4, hg4⟩)
    | (go_at_call 18; refine (HS.out _ _ _ _ _ ((HT2.out.1.below hb3).below hb4) ((HT2.out.2.below hb3).below hb4) (by assumption)).mono ?_; rintro e w5 ⟨rfl, hb5, hg5⟩))
  go_ret
  exact ⟨rfl, by assumption⟩
theorem joinF_bytes (L : List Tok) : ∃ (Z : ByteArray) (er : Int), joinF L = (Z.data.toList, er) := ⟨bytesOf (joinF L).1, (joinF L).2, by rw [bytesOf_list]⟩

theorem LexerFinds_walk (s : ByteArray) (A : Option Addr) (c : Nat) (L : List Tok) (w : World) (hs : s.size ≤ maxLen) (hL : L.length ≤ maxLen) (ht : Toks w A L) (tb : Tabs w) :
    Calls Tryd.prog 4 #[.string s, .slice A L.length c] w fun e w' => e = .returned (.bool true) ∧ Below w.heap.size w w' := by
  suffices hh : Calls Tryd.prog 4 #[.string s, .slice A L.length c] w fun e w' => e = .returned (.bool true) ∧ Good w w' from hh.mono fun e w' ⟨he, hg⟩ => ⟨he, hg.1⟩
  have hg := Good.start tb
  by_cases h4 : 1000 < s.size
  · exact finds_big s A c _ w hs h4 hg
  · cases hgr : greatF L
    · obtain ⟨Z, ej, hj⟩ := joinF_bytes L
      exact finds_go s A c L _ w (by omega) rfl ht hgr _ _ _ _ rfl rfl Z ej hj hg
    · exact finds_great s A c L _ w (by omega) rfl hL ht hgr hg
end Go.Proofs.YteidhjacnlcddaaDoor
