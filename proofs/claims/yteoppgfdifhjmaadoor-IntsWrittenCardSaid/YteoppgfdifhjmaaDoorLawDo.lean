/- Contracts of the laws' helpers do and gives, for each operator; of digits and Read. -/
import Derived.Test.YteoppgfdifhjmaaDoorDo
import Derived.Test.YteoppgfdifhjmaaDoorWrap
import Derived.Lib.Hide
namespace Go.Proofs.YteoppgfdifhjmaaDoor
open Go.ChangeShapes Go.WideShapes Go.ChangeAt Go.RowKit
set_option linter.unusedVariables false

theorem ret_bool' {a b : Bool} (h : a = b) : Ending.returned (.bool a) = .returned (.bool b) := by rw [h]

theorem gives_of (k a b c v : Int) (w : World)
    (h1 : ∀ w : World, Calls Tryd.prog 7 #[.int .u8 k, .int .i64 a, .int .i64 b] w fun e w' => e = .returned (.tuple #[.int .i64 v, .int .i64 0]) ∧ w = w')
    (hv : v = c) :
    Calls Tryd.prog 6 #[.int .u8 k, .int .i64 a, .int .i64 b, .int .i64 c] w fun e w' => e = .returned (.bool true) ∧ w = w' := by
  subst hv
  have H1 := Lib.hid h1
  clear h1
  go_enter Tryd.func6, Tryd.ntmps6
  go_wp2_with (first | (go_at_call 7; refine (H1.out _).mono ?_; rintro e w' ⟨rfl, rfl⟩))
  go_ret
  exact ⟨rfl, rfl⟩

/-! ### digits and Read -/
def isDig (c : UInt8) : Bool := 48 ≤ c && c ≤ 57
def allDig (l : List UInt8) : Bool := l.all isDig
def val (l : List UInt8) : Nat := l.foldl (fun n c => 10 * n + (c.toNat - 48)) 0

theorem isDig_iff (c : UInt8) : isDig c = true ↔ 48 ≤ (c.toNat : Int) ∧ (c.toNat : Int) ≤ 57 := by
  unfold isDig; simp [UInt8.le_iff_toNat_le]; omega
theorem take_snoc (s : ByteArray) (k : Nat) (h : k < s.size) : s.data.toList.take (k + 1) = s.data.toList.take k ++ [s[k]] := by
  rw [List.take_succ_eq_append_getElem (by simpa using h)]; rfl
theorem allDig_snoc (l : List UInt8) (c : UInt8) : allDig (l ++ [c]) = (allDig l && isDig c) := by simp [allDig]
theorem val_snoc (l : List UInt8) (c : UInt8) : val (l ++ [c]) = 10 * val l + (c.toNat - 48) := by simp [val]
theorem allDig_at (s : ByteArray) (k : Nat) (h : k < s.size) (ha : allDig s.data.toList = true) : isDig s[k] = true := by
  unfold allDig at ha
  rw [List.all_eq_true] at ha
  exact ha _ (by rw [show s[k] = s.data.toList[k]'(by simpa using h) from rfl]; exact List.getElem_mem _)
theorem allDig_not (s : ByteArray) (k : Nat) (h : k < s.size) (hk : isDig s[k] = false) : allDig s.data.toList = false := by
  cases ha : allDig s.data.toList
  · rfl
  · rw [allDig_at s k h ha] at hk; cases hk
theorem val_append_ge (l m : List UInt8) : val l ≤ val (l ++ m) := by
  unfold val
  rw [List.foldl_append]
  generalize List.foldl (fun n c => 10 * n + (UInt8.toNat c - 48)) 0 l = x
  induction m generalizing x with
  | nil => exact Nat.le_refl _
  | cons c m ih => exact Nat.le_trans (show x ≤ 10 * x + (c.toNat - 48) by omega) (ih _)
theorem val_take_le (l : List UInt8) (k : Nat) : val (l.take k) ≤ val l := by
  have := val_append_ge (l.take k) (l.drop k)
  rwa [List.take_append_drop] at this

theorem isDig_no (c : UInt8) (h : ¬(48 ≤ (c.toNat : Int) ∧ (c.toNat : Int) ≤ 57)) : isDig c = false := by
  cases hc : isDig c
  · rfl
  · exact absurd ((isDig_iff c).1 hc) h

theorem digits_any (s : ByteArray) (w : World) (hs : s.size ≤ maxLen) :
    Calls Tryd.prog 15 #[.string s] w fun e w' => e = .returned (.bool (allDig s.data.toList && !s.data.toList.isEmpty)) ∧ w = w' := by
  unfold maxLen at hs
  go_enter Tryd.func15, Tryd.ntmps15
  go_wp2
  go_loop [6] (fun i => ∃ k : Nat, k ≤ s.size ∧ i = .int .i64 k ∧ allDig (s.data.toList.take k) = true) (fun i => s.size - (intOf i).toNat)
  case atStart => exact ⟨0, Nat.zero_le _, rfl, rfl⟩
  case round =>
    obtain ⟨k, hk, rfl, hd⟩ := hrel
    by_cases hlt : k < s.size
    · have HS := Lib.hid (take_snoc s k hlt)
      have HN := Lib.hid (allDig_not s k hlt)
      have HD := Lib.hid hd
      clear hd
      by_cases hc : 48 ≤ (s[k].toNat : Int) ∧ (s[k].toNat : Int) ≤ 57
      · have HI := Lib.hid ((isDig_iff s[k]).2 hc)
        obtain ⟨h1, h2⟩ := hc
        go_wp2
        go_round
        case rel => exact ⟨k + 1, by omega, by go_num, by rw [HS.out, allDig_snoc, HD.out, HI.out]; rfl⟩
        case measure => simp [intOf]; omega
      · have HI := Lib.hid (isDig_no s[k] hc)
        by_cases h1 : (s[k].toNat : Int) < 48
        · clear hc
          go_wp2
          go_ret
          exact ⟨ret_bool' (by rw [HN.out HI.out]; rfl), rfl⟩
        · have h2 : 57 < (s[k].toNat : Int) := by omega
          clear hc
          go_wp2
          go_ret
          exact ⟨ret_bool' (by rw [HN.out HI.out]; rfl), rfl⟩
    · have HD := Lib.hid (show allDig s.data.toList = true by rw [← hd, List.take_of_length_le (by simp; omega)])
      clear hd
      go_wp2
      go_ret
      exact ⟨ret_bool' (by rw [HD.out, Bool.true_and, ByteArray.toList_eq]; simp), rfl⟩

theorem read_form (s : ByteArray) (w : World) (hs : s.size ≤ maxLen) (hf : (allDig s.data.toList && !s.data.toList.isEmpty) = false) :
    Calls Tryd.prog 8 #[.string s] w fun e w' => e = .returned (.tuple #[.int .i64 0, .int .i64 12]) ∧ w = w' := by
  have HF := Lib.hid hf
  clear hf
  go_enter Tryd.func8, Tryd.ntmps8
  go_wp2_with (go_at_call 15; refine (digits_any _ _ hs).mono ?_; rw [HF.out]; rintro e w' ⟨rfl, rfl⟩)
  go_ret2
  exact ⟨rfl, rfl⟩

def rdN (l : List UInt8) : Int := if val l ≤ 9223372036854775807 then val l else 0
def rdE (l : List UInt8) : Int := if val l ≤ 9223372036854775807 then 0 else 16
theorem ret_two' {k j : IntKind} {a b c d : Int} (h : a = b) (g : c = d) : Ending.returned (.tuple #[.int k a, .int j c]) = .returned (.tuple #[.int k b, .int j d]) := by rw [h, g]

theorem dig_conv (c : UInt8) (h1 : 48 ≤ (c.toNat : Int)) : ((c.toNat - 48 : Nat) : Int) = (c.toNat : Int) - 48 := by omega

theorem read_dig (s : ByteArray) (w : World) (hs : s.size ≤ maxLen) (hf : (allDig s.data.toList && !s.data.toList.isEmpty) = true) :
    Calls Tryd.prog 8 #[.string s] w fun e w' => e = .returned (.tuple #[.int .i64 (rdN s.data.toList), .int .i64 (rdE s.data.toList)]) ∧ w = w' := by
  have HF := Lib.hid hf
  clear hf
  have HM := Lib.hid hs
  unfold maxLen at hs
  go_enter Tryd.func8, Tryd.ntmps8
  go_wp2_with (go_at_call 15; refine (digits_any _ _ HM.out).mono ?_; rw [HF.out]; rintro e w' ⟨rfl, rfl⟩)
  go_loop [4, 12] (fun n i => ∃ k m : Nat, k ≤ s.size ∧ m ≤ 9223372036854775807 ∧ i = .int .i64 k ∧ n = .int .i64 m ∧ m = val (s.data.toList.take k)) (fun _ i => s.size - (intOf i).toNat)
  case atStart => exact ⟨0, 0, Nat.zero_le _, Nat.zero_le _, rfl, rfl, rfl⟩
  case round =>
    obtain ⟨k, m, hk, hm, rfl, rfl, hv⟩ := hrel
    have HV := Lib.hid hv
    clear hv
    by_cases hlt : k < s.size
    · have HS := Lib.hid (take_snoc s k hlt)
      have HD := Lib.hid ((isDig_iff s[k]).1 (allDig_at s k hlt (by have := HF.out; simp only [Bool.and_eq_true] at this; exact this.1)))
      obtain ⟨h1, h2⟩ := HD.out
      clear HD
      have HN := Lib.hid (show val (s.data.toList.take (k + 1)) = 10 * m + (s[k].toNat - 48) by rw [HS.out, val_snoc, HV.out])
      have HL := Lib.hid (val_take_le s.data.toList (k + 1))
      by_cases hm2 : (9223372036854775807 - ((s[k].toNat : Int) - 48)) / 10 < m
      · go_wp2
        go_ret2
        have h3 := HL.out
        rw [HN.out] at h3
        exact ⟨ret_two' (by rw [rdN, if_neg (by omega)]) (by rw [rdE, if_neg (by omega)]), rfl⟩
      · go_wp2
        go_round
        case rel => exact ⟨k + 1, 10 * m + (s[k].toNat - 48), by omega, by omega, by go_num, by go_num, by rw [HN.out]⟩
        case measure => simp [intOf]; omega
    · have HL := Lib.hid (show val s.data.toList = m by rw [HV.out, List.take_of_length_le (by simp; omega)])
      go_wp2
      go_ret2
      exact ⟨ret_two' (by rw [rdN, HL.out, if_pos hm]) (by rw [rdE, HL.out, if_pos hm]), rfl⟩

theorem gives_1 (w : World) : Calls Tryd.prog 6 #[.int .u8 8, .int .i64 9223372036854775807, .int .i64 1, .int .i64 (-9223372036854775808)] w fun e w' => e = .returned (.bool true) ∧ w = w' :=
  gives_of _ _ _ _ _ _ (do_add _ _) (by unfold wrap64; omega)
theorem gives_2 (w : World) : Calls Tryd.prog 6 #[.int .u8 10, .int .i64 1, .int .i64 65, .int .i64 2] w fun e w' => e = .returned (.bool true) ∧ w = w' :=
  gives_of _ _ _ _ _ _ (do_shl _ _) (by simp [wrap64, pl])
theorem gives_3 (w : World) : Calls Tryd.prog 6 #[.int .u8 11, .int .i64 (-5), .int .i64 1, .int .i64 (-3)] w fun e w' => e = .returned (.bool true) ∧ w = w' :=
  gives_of _ _ _ _ _ _ (do_shr _ _) (by simp [pl])
theorem gives_4 (w : World) : Calls Tryd.prog 6 #[.int .u8 11, .int .i64 (-5), .int .i64 (-1), .int .i64 (-1)] w fun e w' => e = .returned (.bool true) ∧ w = w' :=
  gives_of _ _ _ _ _ _ (do_shr _ _) (by simp [pl])

theorem alive_any (w : World) : Calls Tryd.prog 10 #[] w fun e w' => e = .returned (.bool true) ∧ w = w' := by
  have HR := Lib.hid (read_dig ⟨#[48, 48, 55]⟩ w (by decide) (by decide))
  have e1 : rdN (ByteArray.mk #[48, 48, 55]).data.toList = 7 := by decide
  have e2 : rdE (ByteArray.mk #[48, 48, 55]).data.toList = 0 := by decide
  rw [e1, e2] at HR
  clear e1 e2
  go_enter Tryd.func10, Tryd.ntmps10
  go_wp2_with (first | (go_at_call 8; refine (HR.out).mono ?_; rintro e w' ⟨rfl, rfl⟩) | (go_at_call 6; (first | (with_reducible refine (gives_1 _).mono ?_) | (with_reducible refine (gives_2 _).mono ?_) | (with_reducible refine (gives_3 _).mono ?_) | (with_reducible refine (gives_4 _).mono ?_)); rintro e w' ⟨rfl, rfl⟩))
  go_ret
  exact ⟨rfl, rfl⟩
end Go.Proofs.YteoppgfdifhjmaaDoor
