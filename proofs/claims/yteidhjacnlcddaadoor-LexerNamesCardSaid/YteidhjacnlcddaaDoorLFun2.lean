/- Contracts of extent and check of package lexer. -/
import Derived.Test.YteidhjacnlcddaaDoorLFun
namespace Go.Proofs.YteidhjacnlcddaaDoor
open Go.ChangeShapes Go.WideShapes Go.ChangeAt Go.RowKit
set_option linter.unusedVariables false

theorem bd_drewN (w : World) (n : Nat) : Below w.heap.size w (w.drewN n) := Below.drewN' (Below.refl _ _) n
theorem symbol_b (s : ByteArray) (a m : Nat) (w : World) (hs : s.size ≤ maxLen) (ha : a ≤ s.size) (hn : longL (s.data.toList.drop a) = m) (ht : Tabs w) :
    Calls Tryd.prog 39 #[.string s, .int .i64 a] w fun e w' => e = .returned (.tuple #[.int .i64 m, .int .i64 0]) ∧ Below w.heap.size w w' := by
  subst hn
  exact (symbol_in s a w hs ht ha).mono fun e w' ⟨he, n, hw⟩ => by subst hw; exact ⟨he, bd_drewN _ _⟩
theorem symbol_0 (s : ByteArray) (m : Nat) (w : World) (hs : s.size ≤ maxLen) (hn : longL s.data.toList = m) (ht : Tabs w) :
    Calls Tryd.prog 39 #[.string s, .int .i64 0] w fun e w' => e = .returned (.tuple #[.int .i64 m, .int .i64 0]) ∧ Below w.heap.size w w' :=
  symbol_b s 0 m w hs (Nat.zero_le _) (by rw [List.drop_zero]; exact hn) ht
theorem word_v (s : ByteArray) (b : Bool) (w : World) (hb : isWord s.data.toList = b) (ht : Tabs w) : Calls Tryd.prog 38 #[.string s] w fun e w' => e = .returned (.bool b) ∧ w = w' := by
  subst hb; exact word_any s w ht

/-- What extent returns. -/
theorem drop_at (s : ByteArray) (a : Nat) (h : a < s.size) : s.data.toList.drop a = s[a] :: s.data.toList.drop (a + 1) := List.drop_eq_getElem_cons (by simpa using h)

theorem extent_d (s : ByteArray) (a : Nat) (r : Nat) (w : World) (hs : s.size ≤ maxLen) (ha : a < s.size) (ht : Tabs w) (hk : kindI (s[a].toNat : Int) = 2) (hr : a + spanK 2 (s.data.toList.drop a) = r) :
    Calls Tryd.prog 28 #[.string s, .int .i64 a] w fun e w' => e = .returned (.tuple #[.int .u8 1, .int .i64 r]) ∧ Below w.heap.size w w' := by
  have HR := Lib.hid (fun w => behind_any s a 2 r w hs (Nat.le_of_lt ha) hr)
  have HK := Lib.hid (fun w => kind_v _ 2 w hk)
  clear hr hk ht
  go_enter Tryd.func28, Tryd.ntmps28
  go_wp2_with (first | (go_at_call 21; refine (HK.out _).mono ?_; rintro e w1 ⟨rfl, hb1⟩) | (go_at_call 27; refine (HR.out _).mono ?_; rintro e w2 ⟨rfl, hb2⟩))
  go_ret2
  exact ⟨rfl, hb1.trans (hb2.mono hb1.size)⟩
theorem extent_w (s : ByteArray) (a : Nat) (r : Nat) (w : World) (hs : s.size ≤ maxLen) (ha : a < s.size) (ht : Tabs w) (hk : kindI (s[a].toNat : Int) = 3) (hr : a + spanK 3 (s.data.toList.drop a) = r) :
    Calls Tryd.prog 28 #[.string s, .int .i64 a] w fun e w' => e = .returned (.tuple #[.int .u8 2, .int .i64 r]) ∧ Below w.heap.size w w' := by
  have HR := Lib.hid (fun w => behind_any s a 3 r w hs (Nat.le_of_lt ha) hr)
  have HK := Lib.hid (fun w => kind_v _ 3 w hk)
  clear hr hk ht
  go_enter Tryd.func28, Tryd.ntmps28
  go_wp2_with (first | (go_at_call 21; refine (HK.out _).mono ?_; rintro e w1 ⟨rfl, hb1⟩) | (go_at_call 27; refine (HR.out _).mono ?_; rintro e w2 ⟨rfl, hb2⟩))
  go_ret2
  exact ⟨rfl, hb1.trans (hb2.mono hb1.size)⟩
theorem extent_s (s : ByteArray) (a : Nat) (m r : Nat) (w : World) (hs : s.size ≤ maxLen) (ha : a < s.size) (ht : Tabs w) (v : Int) (hk : kindI (s[a].toNat : Int) = v) (h2 : v ≠ 2) (h3 : v ≠ 3) (hm : longL (s.data.toList.drop a) = m) (hr : a + m = r) :
    Calls Tryd.prog 28 #[.string s, .int .i64 a] w fun e w' => e = .returned (.tuple #[.int .u8 3, .int .i64 r]) ∧ Below w.heap.size w w' := by
  have hle := longL_two (s.data.toList.drop a)
  rw [hm] at hle
  have hml : a + m ≤ s.size := by
    have := longL_le (s.data.toList.drop a)
    rw [hm, List.length_drop] at this
    simp at this
    omega
  have HR := Lib.hid (fun w ht => symbol_b s a m w hs (Nat.le_of_lt ha) hm ht)
  have HK := Lib.hid (fun w => kind_v _ v w hk)
  have HT := Lib.hid ht
  have hv2 : (v == 2) = false := by simpa using h2
  have hv3 : (v == 3) = false := by simpa using h3
  have hE : ∀ (e : Ending), e = .returned (.tuple #[.int .u8 3, .int .i64 ((a : Int) + (m : Int))]) → e = .returned (.tuple #[.int .u8 3, .int .i64 r]) := fun e h => by rw [h, ← hr]; rfl
  have HE := Lib.hid hE
  clear hr hk ht h2 h3 hm hE
  unfold maxLen at hs
  go_enter Tryd.func28, Tryd.ntmps28
  go_wp2_with (first | (go_at_call 21; refine (HK.out _).mono ?_; rintro e w1 ⟨rfl, hb1⟩) | (go_at_call 39; refine (HR.out _ (HT.out.stays hb1)).mono ?_; rintro e w2 ⟨rfl, hb2⟩))
  go_ret2
  exact ⟨HE.out _ rfl, hb1.trans (hb2.mono hb1.size)⟩
theorem extent_any (s : ByteArray) (a : Nat) (k : Int) (n r : Nat) (w : World) (hs : s.size ≤ maxLen) (ha : a < s.size) (ht : Tabs w) (he : ext (s.data.toList.drop a) = (k, n)) (hr : a + n = r) :
    Calls Tryd.prog 28 #[.string s, .int .i64 a] w fun e w' => e = .returned (.tuple #[.int .u8 k, .int .i64 r]) ∧ Below w.heap.size w w' := by
  have hd := drop_at s a ha
  rw [hd] at he
  by_cases h2 : kindI (s[a].toNat : Int) = 2
  · rw [ext_cons2 _ _ h2, ← hd] at he
    obtain ⟨rfl, rfl⟩ := Prod.mk.inj he
    exact extent_d s a r w hs ha ht h2 hr
  · by_cases h3 : kindI (s[a].toNat : Int) = 3
    · rw [ext_cons3 _ _ h3, ← hd] at he
      obtain ⟨rfl, rfl⟩ := Prod.mk.inj he
      exact extent_w s a r w hs ha ht h3 hr
    · rw [ext_cons4 _ _ h2 h3, ← hd] at he
      obtain ⟨rfl, rfl⟩ := Prod.mk.inj he
      exact extent_s s a _ r w hs ha ht _ rfl h2 h3 rfl hr

theorem check_1 (s : ByteArray) (v : Int) (w : World) (hs : s.size ≤ maxLen) (hv : rdErr s.data.toList = v) :
    Calls Tryd.prog 22 #[.int .u8 1, .string s] w fun e w' => e = .returned (.int .i64 v) ∧ Below w.heap.size w w' := by
  obtain ⟨y, hy⟩ := iread_any s w hs
  rw [hv] at hy
  have HY := Lib.hid hy
  clear hy hv
  go_enter Tryd.func22, Tryd.ntmps22
  go_wp2_with (go_at_call 37; refine (HY.out).mono ?_; rintro e w1 ⟨rfl, rfl⟩)
  go_ret
  exact ⟨rfl, Below.refl _ _⟩
theorem check_2y (s : ByteArray) (w : World) (ht : Tabs w) (hv : isWord s.data.toList = true) :
    Calls Tryd.prog 22 #[.int .u8 2, .string s] w fun e w' => e = .returned (.int .i64 0) ∧ Below w.heap.size w w' := by
  have HY := Lib.hid (word_v s true w hv ht)
  clear ht hv
  go_enter Tryd.func22, Tryd.ntmps22
  go_wp2_with (go_at_call 38; refine (HY.out).mono ?_; rintro e w1 ⟨rfl, rfl⟩)
  go_ret
  exact ⟨rfl, Below.refl _ _⟩
theorem check_2n (s : ByteArray) (w : World) (ht : Tabs w) (hv : isWord s.data.toList = false) :
    Calls Tryd.prog 22 #[.int .u8 2, .string s] w fun e w' => e = .returned (.int .i64 32) ∧ Below w.heap.size w w' := by
  have HY := Lib.hid (word_v s false w hv ht)
  clear ht hv
  go_enter Tryd.func22, Tryd.ntmps22
  go_wp2_with (go_at_call 38; refine (HY.out).mono ?_; rintro e w1 ⟨rfl, rfl⟩)
  go_ret
  exact ⟨rfl, Below.refl _ _⟩
theorem check_3y (s : ByteArray) (m : Nat) (w : World) (hs : s.size ≤ maxLen) (ht : Tabs w) (hm : longL s.data.toList = m) (h0 : 0 < m) (h1 : m = s.size) :
    Calls Tryd.prog 22 #[.int .u8 3, .string s] w fun e w' => e = .returned (.int .i64 0) ∧ Below w.heap.size w w' := by
  have HY := Lib.hid (symbol_0 s m w hs hm ht)
  have e1 : ((m : Int) == (s.size : Int)) = true := by rw [h1]; simp
  have e2 : decide ((m : Int) = (s.size : Int)) = true := by rw [h1]; simp
  clear ht hm
  go_enter Tryd.func22, Tryd.ntmps22
  go_wp2_with (go_at_call 39; refine (HY.out).mono ?_; rintro e w1 ⟨rfl, hb1⟩)
  go_ret
  exact ⟨rfl, hb1⟩
theorem check_3z (s : ByteArray) (m : Nat) (w : World) (hs : s.size ≤ maxLen) (ht : Tabs w) (hm : longL s.data.toList = m) (h0 : m = 0) :
    Calls Tryd.prog 22 #[.int .u8 3, .string s] w fun e w' => e = .returned (.int .i64 32) ∧ Below w.heap.size w w' := by
  have HY := Lib.hid (symbol_0 s m w hs hm ht)
  have e1 : ¬ 0 < m := by omega
  clear ht hm
  go_enter Tryd.func22, Tryd.ntmps22
  go_wp2_with (go_at_call 39; refine (HY.out).mono ?_; rintro e w1 ⟨rfl, hb1⟩)
  go_ret
  exact ⟨rfl, hb1⟩
theorem check_3n (s : ByteArray) (m : Nat) (w : World) (hs : s.size ≤ maxLen) (ht : Tabs w) (hm : longL s.data.toList = m) (h0 : 0 < m) (h1 : m ≠ s.size) :
    Calls Tryd.prog 22 #[.int .u8 3, .string s] w fun e w' => e = .returned (.int .i64 32) ∧ Below w.heap.size w w' := by
  have HY := Lib.hid (symbol_0 s m w hs hm ht)
  have e1 : ((m : Int) == (s.size : Int)) = false := by simp; omega
  clear ht hm
  go_enter Tryd.func22, Tryd.ntmps22
  go_wp2_with (go_at_call 39; refine (HY.out).mono ?_; rintro e w1 ⟨rfl, hb1⟩)
  go_ret
  exact ⟨rfl, hb1⟩
theorem check_o (s : ByteArray) (k : Int) (w : World) (h1 : k ≠ 1) (h2 : k ≠ 2) (h3 : k ≠ 3) :
    Calls Tryd.prog 22 #[.int .u8 k, .string s] w fun e w' => e = .returned (.int .i64 32) ∧ Below w.heap.size w w' := by
  have e1 : (k == 1) = false := by simpa using h1
  have e2 : (k == 2) = false := by simpa using h2
  have e3 : (k == 3) = false := by simpa using h3
  clear h1 h2 h3
  go_enter Tryd.func22, Tryd.ntmps22
  go_wp2
  go_ret
  exact ⟨rfl, Below.refl _ _⟩
theorem check_any (k : Int) (s : ByteArray) (v : Int) (w : World) (hs : s.size ≤ maxLen) (ht : Tabs w) (hv : checkE k s.data.toList = v) :
    Calls Tryd.prog 22 #[.int .u8 k, .string s] w fun e w' => e = .returned (.int .i64 v) ∧ Below w.heap.size w w' := by
  unfold checkE at hv
  have hlen : s.data.toList.length = s.size := by simp
  by_cases h1 : k = 1
  · rw [if_pos h1] at hv; subst h1; exact check_1 s v w hs hv
  · rw [if_neg h1] at hv
    by_cases h2 : k = 2
    · rw [if_pos h2] at hv; subst h2
      cases hw : isWord s.data.toList
      · rw [if_neg (by rw [hw]; decide)] at hv; subst hv; exact check_2n s w ht hw
      · rw [if_pos hw] at hv; subst hv; exact check_2y s w ht hw
    · rw [if_neg h2] at hv
      by_cases h3 : k = 3
      · rw [if_pos h3] at hv; subst h3
        by_cases hl : longL s.data.toList = s.data.toList.length ∧ s.data.toList ≠ []
        · rw [if_pos hl] at hv; subst hv
          have := List.length_pos_iff.2 hl.2
          exact check_3y s _ w hs ht rfl (by omega) (by omega)
        · rw [if_neg hl] at hv; subst hv
          rcases Nat.eq_zero_or_pos (longL s.data.toList) with h0 | h0
          · exact check_3z s _ w hs ht rfl h0
          · refine check_3n s _ w hs ht rfl h0 (fun e => hl ⟨by omega, ?_⟩)
            intro hn
            rw [hn] at h0
            exact absurd h0 (by decide)
      · rw [if_neg h3] at hv; subst hv; exact check_o s k w h1 h2 h3
end Go.Proofs.YteidhjacnlcddaaDoor
