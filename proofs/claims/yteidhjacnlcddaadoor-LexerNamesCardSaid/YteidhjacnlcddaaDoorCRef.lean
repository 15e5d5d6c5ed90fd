/- Contracts of the reference of layer 2. -/
import Derived.Test.YteidhjacnlcddaaDoorCLong
namespace Go.Proofs.YteidhjacnlcddaaDoor
open Go.ChangeShapes Go.WideShapes Go.ChangeAt Go.RowKit
set_option linter.unusedVariables false

def hasB (l : List UInt8) (c : Int) : Bool := l.any fun b => (b.toNat : Int) == c
theorem hasB_drop (l : List UInt8) (k : Nat) (h : k < l.length) (c : Int) : hasB (l.drop k) c = (((l[k].toNat : Int) == c) || hasB (l.drop (k + 1)) c) := by
  unfold hasB; rw [List.drop_eq_getElem_cons h, List.any_cons]

theorem rin_any (c : Int) (s : ByteArray) (w : World) (hs : s.size ≤ maxLen) :
    Calls Tryd.prog 48 #[.int .u8 c, .string s] w fun e w' => e = .returned (.bool (hasB s.data.toList c)) ∧ w = w' := by
  unfold maxLen at hs
  go_enter Tryd.func48, Tryd.ntmps48
  go_wp2
  go_loop [5] (fun i => ∃ k : Nat, k ≤ s.size ∧ i = .int .i64 k ∧ hasB (s.data.toList.drop k) c = hasB s.data.toList c) (fun i => s.size - (intOf i).toNat)
  case atStart => exact ⟨0, Nat.zero_le _, rfl, rfl⟩
  case round =>
    obtain ⟨k, hk, rfl, hd⟩ := hrel
    have HD := Lib.hid hd
    clear hd
    by_cases hlt : k < s.size
    · have HC := Lib.hid (hasB_drop s.data.toList k (by simpa using hlt) c)
      by_cases he : (s[k].toNat : Int) = c
      · have hq : ((s[k].toNat : Int) == c) = true := by simpa using he
        have HQ := Lib.hid (show ((s.data.toList[k]'(by simpa using hlt)).toNat : Int) == c from hq)
        clear he
        go_wp2
        go_ret
        exact ⟨ret_bool' (by rw [← HD.out, HC.out, HQ.out]; rfl), rfl⟩
      · have hq : ((s[k].toNat : Int) == c) = false := by simpa using he
        have HQ := Lib.hid (show (((s.data.toList[k]'(by simpa using hlt)).toNat : Int) == c) = false from hq)
        clear he
        go_wp2
        go_round
        case rel => exact ⟨k + 1, by omega, by go_num, by rw [← HD.out, HC.out, HQ.out]; rfl⟩
        case measure => simp [intOf]; omega
    · go_wp2
      go_ret
      exact ⟨ret_bool' (by rw [← HD.out, List.drop_eq_nil_of_le (by simp; omega)]; rfl), rfl⟩

theorem has_blank (c : Int) : hasB [32, 10] c = decide (c = 32 ∨ c = 10) := by
  rw [Bool.eq_iff_iff]; simp [hasB]; omega
theorem has_digit (c : Int) : hasB [48, 49, 50, 51, 52, 53, 54, 55, 56, 57] c = decide (48 ≤ c ∧ c ≤ 57) := by
  rw [Bool.eq_iff_iff]; simp [hasB]; omega
theorem has_letter (c : Int) : hasB [97, 98, 99, 100, 101, 102, 103, 104, 105, 106, 107, 108, 109, 110, 111, 112, 113, 114, 115, 116, 117, 118, 119, 120, 121, 122] c = decide (97 ≤ c ∧ c ≤ 122) := by
  rw [Bool.eq_iff_iff]; simp [hasB]; omega
theorem has_symbol (c : Int) : hasB [40, 41, 42, 43, 45, 60, 61, 62, 33] c = decide (c = 40 ∨ c = 41 ∨ c = 42 ∨ c = 43 ∨ c = 45 ∨ c = 60 ∨ c = 61 ∨ c = 62 ∨ c = 33) := by
  rw [Bool.eq_iff_iff]; simp [hasB]; omega

theorem rin_blank (c : Int) (r : Bool) (w : World) (hr : decide (c = 32 ∨ c = 10) = r) : Calls Tryd.prog 48 #[.int .u8 c, .string ⟨#[32, 10]⟩] w fun e w' => e = .returned (.bool r) ∧ w = w' := by
  have := rin_any c ⟨#[32, 10]⟩ w (by decide)
  rw [show (ByteArray.mk #[32, 10]).data.toList = [32, 10] from rfl, has_blank, hr] at this
  exact this
theorem rin_digit (c : Int) (r : Bool) (w : World) (hr : decide (48 ≤ c ∧ c ≤ 57) = r) : Calls Tryd.prog 48 #[.int .u8 c, .string ⟨#[48, 49, 50, 51, 52, 53, 54, 55, 56, 57]⟩] w fun e w' => e = .returned (.bool r) ∧ w = w' := by
  have := rin_any c ⟨#[48, 49, 50, 51, 52, 53, 54, 55, 56, 57]⟩ w (by decide)
  rw [show (ByteArray.mk #[48, 49, 50, 51, 52, 53, 54, 55, 56, 57]).data.toList = [48, 49, 50, 51, 52, 53, 54, 55, 56, 57] from rfl, has_digit, hr] at this
  exact this
theorem rin_letter (c : Int) (r : Bool) (w : World) (hr : decide (97 ≤ c ∧ c ≤ 122) = r) : Calls Tryd.prog 48 #[.int .u8 c, .string ⟨#[97, 98, 99, 100, 101, 102, 103, 104, 105, 106, 107, 108, 109, 110, 111, 112, 113, 114, 115, 116, 117, 118, 119, 120, 121, 122]⟩] w fun e w' => e = .returned (.bool r) ∧ w = w' := by
  have := rin_any c ⟨#[97, 98, 99, 100, 101, 102, 103, 104, 105, 106, 107, 108, 109, 110, 111, 112, 113, 114, 115, 116, 117, 118, 119, 120, 121, 122]⟩ w (by decide)
  rw [show (ByteArray.mk #[97, 98, 99, 100, 101, 102, 103, 104, 105, 106, 107, 108, 109, 110, 111, 112, 113, 114, 115, 116, 117, 118, 119, 120, 121, 122]).data.toList = [97, 98, 99, 100, 101, 102, 103, 104, 105, 106, 107, 108, 109, 110, 111, 112, 113, 114, 115, 116, 117, 118, 119, 120, 121, 122] from rfl, has_letter, hr] at this
  exact this
theorem rin_symbol (c : Int) (r : Bool) (w : World) (hr : decide (c = 40 ∨ c = 41 ∨ c = 42 ∨ c = 43 ∨ c = 45 ∨ c = 60 ∨ c = 61 ∨ c = 62 ∨ c = 33) = r) : Calls Tryd.prog 48 #[.int .u8 c, .string ⟨#[40, 41, 42, 43, 45, 60, 61, 62, 33]⟩] w fun e w' => e = .returned (.bool r) ∧ w = w' := by
  have := rin_any c ⟨#[40, 41, 42, 43, 45, 60, 61, 62, 33]⟩ w (by decide)
  rw [show (ByteArray.mk #[40, 41, 42, 43, 45, 60, 61, 62, 33]).data.toList = [40, 41, 42, 43, 45, 60, 61, 62, 33] from rfl, has_symbol, hr] at this
  exact this

def kindOf5 (b d l s : Bool) : Int := if b then 1 else if d then 2 else if l then 3 else if s then 4 else 0
theorem rkind_of (c : Int) (b d l s : Bool) (w : World) (hb : decide (c = 32 ∨ c = 10) = b) (hd : decide (48 ≤ c ∧ c ≤ 57) = d) (hl : decide (97 ≤ c ∧ c ≤ 122) = l)
    (hs : decide (c = 40 ∨ c = 41 ∨ c = 42 ∨ c = 43 ∨ c = 45 ∨ c = 60 ∨ c = 61 ∨ c = 62 ∨ c = 33) = s) :
    Calls Tryd.prog 42 #[.int .u8 c] w fun e w' => e = .returned (.int .u8 (kindOf5 b d l s)) ∧ w = w' := by
  have B := Lib.hid (fun w => rin_blank c b w hb)
  have D := Lib.hid (fun w => rin_digit c d w hd)
  have L := Lib.hid (fun w => rin_letter c l w hl)
  have S := Lib.hid (fun w => rin_symbol c s w hs)
  clear hb hd hl hs
  cases b
  · cases d
    · cases l
      · cases s
        all_goals
          go_enter Tryd.func42, Tryd.ntmps42
          go_wp2_with (go_at_call 48; ((first | (with_reducible refine (B.out _).mono ?_) | (with_reducible refine (D.out _).mono ?_) | (with_reducible refine (L.out _).mono ?_) | (with_reducible refine (S.out _).mono ?_)); rintro e w' ⟨rfl, rfl⟩))
          go_ret
          exact ⟨rfl, rfl⟩
      · go_enter Tryd.func42, Tryd.ntmps42
        go_wp2_with (go_at_call 48; ((first | (with_reducible refine (B.out _).mono ?_) | (with_reducible refine (D.out _).mono ?_) | (with_reducible refine (L.out _).mono ?_)); rintro e w' ⟨rfl, rfl⟩))
        go_ret
        exact ⟨rfl, rfl⟩
    · go_enter Tryd.func42, Tryd.ntmps42
      go_wp2_with (go_at_call 48; ((first | (with_reducible refine (B.out _).mono ?_) | (with_reducible refine (D.out _).mono ?_)); rintro e w' ⟨rfl, rfl⟩))
      go_ret
      exact ⟨rfl, rfl⟩
  · go_enter Tryd.func42, Tryd.ntmps42
    go_wp2_with (go_at_call 48; ((with_reducible refine (B.out _).mono ?_); rintro e w' ⟨rfl, rfl⟩))
    go_ret
    exact ⟨rfl, rfl⟩
theorem kindOf5_eq (c : Int) : kindOf5 (decide (c = 32 ∨ c = 10)) (decide (48 ≤ c ∧ c ≤ 57)) (decide (97 ≤ c ∧ c ≤ 122)) (decide (c = 40 ∨ c = 41 ∨ c = 42 ∨ c = 43 ∨ c = 45 ∨ c = 60 ∨ c = 61 ∨ c = 62 ∨ c = 33)) = kindI c := by
  unfold kindOf5 kindI; simp only [decide_eq_true_eq]
theorem rkind_any (c : Int) (w : World) : Calls Tryd.prog 42 #[.int .u8 c] w fun e w' => e = .returned (.int .u8 (kindI c)) ∧ w = w' := by
  have := rkind_of c _ _ _ _ w rfl rfl rfl rfl
  rwa [kindOf5_eq] at this

theorem rwords_any (w : World) : Calls Tryd.prog 43 #[] w fun e w' => e = .returned (.slice (some ⟨w.heap.size, 0, none⟩) 29 29) ∧ w.alloc (.cells (strsOf wordL) 9) = w' := by
  go_enter Tryd.func43, Tryd.ntmps43
  go_wp2
  go_ret
  exact ⟨rfl, rfl⟩
theorem rsyms_any (w : World) : Calls Tryd.prog 44 #[] w fun e w' => e = .returned (.slice (some ⟨w.heap.size, 0, none⟩) 13 13) ∧ w.alloc (.cells (strsOf symL) 9) = w' := by
  go_enter Tryd.func44, Tryd.ntmps44
  go_wp2
  go_ret
  exact ⟨rfl, rfl⟩
end Go.Proofs.YteidhjacnlcddaaDoor
