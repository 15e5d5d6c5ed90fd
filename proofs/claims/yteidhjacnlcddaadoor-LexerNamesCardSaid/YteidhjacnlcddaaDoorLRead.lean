/- Contracts of ints.Read and of the reference's Read. -/
import Derived.Test.YteidhjacnlcddaaDoorCKind
import Derived.Test.YteidhjacnlcddaaDoorLPlain
import Derived.Lib.Hide
import Derived.LoopTactic
namespace Go.Proofs.YteidhjacnlcddaaDoor
open Go.ChangeShapes Go.WideShapes Go.ChangeAt Go.RowKit
set_option linter.unusedVariables false

/-! ### digits and Read -/

theorem isDig_iff (c : UInt8) : isDig c = true ↔ 48 ≤ (c.toNat : Int) ∧ (c.toNat : Int) ≤ 57 := by
  unfold isDig; simp [UInt8.le_iff_toNat_le]; omega
theorem take_snoc (s : ByteArray) (k : Nat) (h : k < s.size) : s.data.toList.take (k + 1) = s.data.toList.take k ++ [s[k]] := by
  rw [List.take_succ_eq_append_getElem (by simpa using h)]; rfl
theorem allDig_snoc (l : List UInt8) (c : UInt8) : allDig (l ++ [c]) = (allDig l && isDig c) := by simp [allDig]
theorem val_snoc (l : List UInt8) (c : UInt8) : val (l ++ [c]) = 10 * val l + (c.toNat - 48) := by simp [val]
theorem allDig_at (s : ByteArray) (k : Nat) (h : k < s.size) (ha : allDig s.data.toList = true) : isDig s[k] = true := by
  unfold allDig at ha
  rw [List.all_eq_true] at ha
  exact ha _ (by rw [show s[k] = s.data.toList[k]'(by simpa using h) from rfl]; exact List.getElem_mem _)
theorem allDig_not (s : ByteArray) (k : Nat) (h : k < s.size) (hk : isDig s[k] = false) : allDig s.data.toList = false := by
  cases ha : allDig s.data.toList
  · rfl
  · rw [allDig_at s k h ha] at hk; cases hk
theorem val_append_ge (l m : List UInt8) : val l ≤ val (l ++ m) := by
  unfold val
  rw [List.foldl_append]
  generalize List.foldl (fun n c => 10 * n + (UInt8.toNat c - 48)) 0 l = x
  induction m generalizing x with
  | nil => exact Nat.le_refl _
  | cons c m ih => exact Nat.le_trans (show x ≤ 10 * x + (c.toNat - 48) by omega) (ih _)
theorem val_take_le (l : List UInt8) (k : Nat) : val (l.take k) ≤ val l := by
  have := val_append_ge (l.take k) (l.drop k)
  rwa [List.take_append_drop] at this

theorem isDig_no (c : UInt8) (h : ¬(48 ≤ (c.toNat : Int) ∧ (c.toNat : Int) ≤ 57)) : isDig c = false := by
  cases hc : isDig c
  · rfl
  · exact absurd ((isDig_iff c).1 hc) h

theorem digits_any (s : ByteArray) (w : World) (hs : s.size ≤ maxLen) :
    Calls Tryd.prog 45 #[.string s] w fun e w' => e = .returned (.bool (allDig s.data.toList && !s.data.toList.isEmpty)) ∧ w = w' := by
  unfold maxLen at hs
  go_enter Tryd.func45, Tryd.ntmps45
  go_wp2
  go_loop [6] (fun i => ∃ k : Nat, k ≤ s.size ∧ i = .int .i64 k ∧ allDig (s.data.toList.take k) = true) (fun i => s.size - (intOf i).toNat)
  case atStart => exact ⟨0, Nat.zero_le _, rfl, rfl⟩
  case round =>
    obtain ⟨k, hk, rfl, hd⟩ := hrel
    by_cases hlt : k < s.size
    · have HS := Lib.hid (take_snoc s k hlt)
      have HN := Lib.hid (allDig_not s k hlt)
      have HD := Lib.hid hd
      clear hd
      by_cases hc : 48 ≤ (s[k].toNat : Int) ∧ (s[k].toNat : Int) ≤ 57
      · have HI := Lib.hid ((isDig_iff s[k]).2 hc)
        obtain ⟨h1, h2⟩ := hc
        go_wp2
        go_round
        case rel => exact ⟨k + 1, by omega, by go_num, by rw [HS.out, allDig_snoc, HD.out, HI.out]; rfl⟩
        case measure => simp [intOf]; omega
      · have HI := Lib.hid (isDig_no s[k] hc)
        by_cases h1 : (s[k].toNat : Int) < 48
        · clear hc
          go_wp2
          go_ret
          exact ⟨ret_bool' (by rw [HN.out HI.out]; rfl), rfl⟩
        · have h2 : 57 < (s[k].toNat : Int) := by omega
          clear hc
          go_wp2
          go_ret
          exact ⟨ret_bool' (by rw [HN.out HI.out]; rfl), rfl⟩
    · have HD := Lib.hid (show allDig s.data.toList = true by rw [← hd, List.take_of_length_le (by simp; omega)])
      clear hd
      go_wp2
      go_ret
      exact ⟨ret_bool' (by rw [HD.out, Bool.true_and, ByteArray.toList_eq]; simp), rfl⟩

theorem read_form (s : ByteArray) (w : World) (hs : s.size ≤ maxLen) (hf : (allDig s.data.toList && !s.data.toList.isEmpty) = false) :
    Calls Tryd.prog 37 #[.string s] w fun e w' => e = .returned (.tuple #[.int .i64 0, .int .i64 12]) ∧ w = w' := by
  have HF := Lib.hid hf
  clear hf
  go_enter Tryd.func37, Tryd.ntmps37
  go_wp2_with (go_at_call 45; refine (digits_any _ _ hs).mono ?_; rw [HF.out]; rintro e w' ⟨rfl, rfl⟩)
  go_ret2
  exact ⟨rfl, rfl⟩

def rdN (l : List UInt8) : Int := if val l ≤ 9223372036854775807 then val l else 0
theorem ret_two' {k j : IntKind} {a b c d : Int} (h : a = b) (g : c = d) : Ending.returned (.tuple #[.int k a, .int j c]) = .returned (.tuple #[.int k b, .int j d]) := by rw [h, g]

theorem dig_conv (c : UInt8) (h1 : 48 ≤ (c.toNat : Int)) : ((c.toNat - 48 : Nat) : Int) = (c.toNat : Int) - 48 := by omega

theorem read_dig (s : ByteArray) (w : World) (hs : s.size ≤ maxLen) (hf : (allDig s.data.toList && !s.data.toList.isEmpty) = true) :
    Calls Tryd.prog 37 #[.string s] w fun e w' => e = .returned (.tuple #[.int .i64 (rdN s.data.toList), .int .i64 (rdE s.data.toList)]) ∧ w = w' := by
  have HF := Lib.hid hf
  clear hf
  have HM := Lib.hid hs
  unfold maxLen at hs
  go_enter Tryd.func37, Tryd.ntmps37
  go_wp2_with (go_at_call 45; refine (digits_any _ _ HM.out).mono ?_; rw [HF.out]; rintro e w' ⟨rfl, rfl⟩)
  go_loop [4, 12] (fun n i => ∃ k m : Nat, k ≤ s.size ∧ m ≤ 9223372036854775807 ∧ i = .int .i64 k ∧ n = .int .i64 m ∧ m = val (s.data.toList.take k)) (fun _ i => s.size - (intOf i).toNat)
  case atStart => exact ⟨0, 0, Nat.zero_le _, Nat.zero_le _, rfl, rfl, rfl⟩
  case round =>
    obtain ⟨k, m, hk, hm, rfl, rfl, hv⟩ := hrel
    have HV := Lib.hid hv
    clear hv
    by_cases hlt : k < s.size
    · have HS := Lib.hid (take_snoc s k hlt)
      have HD := Lib.hid ((isDig_iff s[k]).1 (allDig_at s k hlt (by have := HF.out; simp only [Bool.and_eq_true] at this; exact this.1)))
      obtain ⟨h1, h2⟩ := HD.out
      clear HD
      have HN := Lib.hid (show val (s.data.toList.take (k + 1)) = 10 * m + (s[k].toNat - 48) by rw [HS.out, val_snoc, HV.out])
      have HL := Lib.hid (val_take_le s.data.toList (k + 1))
      by_cases hm2 : (9223372036854775807 - ((s[k].toNat : Int) - 48)) / 10 < m
      · go_wp2
        go_ret2
        have h3 := HL.out
        rw [HN.out] at h3
        exact ⟨ret_two' (by rw [rdN, if_neg (by omega)]) (by rw [rdE, if_neg (by omega)]), rfl⟩
      · go_wp2
        go_round
        case rel => exact ⟨k + 1, 10 * m + (s[k].toNat - 48), by omega, by omega, by go_num, by go_num, by rw [HN.out]⟩
        case measure => simp [intOf]; omega
    · have HL := Lib.hid (show val s.data.toList = m by rw [HV.out, List.take_of_length_le (by simp; omega)])
      go_wp2
      go_ret2
      exact ⟨ret_two' (by rw [rdN, HL.out, if_pos hm]) (by rw [rdE, HL.out, if_pos hm]), rfl⟩

/-! ### the reference's Read -/
theorem rread_empty (s : ByteArray) (w : World) (hs : s.data.toList = []) :
    Calls Tryd.prog 32 #[.string s] w fun e w' => e = .returned (.tuple #[.int .i64 0, .int .i64 12]) ∧ w = w' := by
  have h1 : s.toList = [] := by rw [ByteArray.toList_eq]; exact hs
  go_enter Tryd.func32, Tryd.ntmps32
  go_wp2_with fail
  go_ret2
  exact ⟨rfl, rfl⟩

theorem rread_form (s : ByteArray) (w : World) (hs : s.size ≤ maxLen) (hn : s.data.toList ≠ []) (hf : allDig s.data.toList = false) :
    Calls Tryd.prog 32 #[.string s] w fun e w' => e = .returned (.tuple #[.int .i64 0, .int .i64 12]) ∧ w = w' := by
  have h1 : (!s.toList.isEmpty) = true := by rw [ByteArray.toList_eq]; simpa using hn
  have h2 : s.toList.isEmpty = false := by simpa using h1
  clear h1 hn
  have HF := Lib.hid hf
  clear hf
  unfold maxLen at hs
  go_enter Tryd.func32, Tryd.ntmps32
  go_wp2_with fail
  go_loop [4] (fun i => ∃ k : Nat, k ≤ s.size ∧ i = .int .i64 k ∧ allDig (s.data.toList.take k) = true) (fun i => s.size - (intOf i).toNat)
  case atStart => exact ⟨0, Nat.zero_le _, rfl, rfl⟩
  case round =>
    obtain ⟨k, hk, rfl, hd⟩ := hrel
    by_cases hlt : k < s.size
    · have HS := Lib.hid (take_snoc s k hlt)
      have HD := Lib.hid hd
      clear hd
      by_cases hc : 48 ≤ (s[k].toNat : Int) ∧ (s[k].toNat : Int) ≤ 57
      · have HI := Lib.hid ((isDig_iff s[k]).2 hc)
        obtain ⟨h1, h2⟩ := hc
        go_wp2_with fail
        go_round
        case rel => exact ⟨k + 1, by omega, by go_num, by rw [HS.out, allDig_snoc, HD.out, HI.out]; rfl⟩
        case measure => simp [intOf]; omega
      · by_cases h1 : (s[k].toNat : Int) < 48
        · clear hc
          go_wp2_with fail
          go_ret2
          exact ⟨rfl, rfl⟩
        · have h2 : 57 < (s[k].toNat : Int) := by omega
          clear hc
          go_wp2_with fail
          go_ret2
          exact ⟨rfl, rfl⟩
    · exact absurd (show allDig s.data.toList = true by rw [← hd, List.take_of_length_le (by simp; omega)]) (by rw [HF.out]; decide)

theorem rread_dig (s : ByteArray) (w : World) (hs : s.size ≤ maxLen) (hf : (allDig s.data.toList && !s.data.toList.isEmpty) = true) :
    Calls Tryd.prog 32 #[.string s] w fun e w' => e = .returned (.tuple #[.int .i64 (rdN s.data.toList), .int .i64 (rdE s.data.toList)]) ∧ w = w' := by
  have ha : allDig s.data.toList = true := by simp only [Bool.and_eq_true] at hf; exact hf.1
  have h2 : s.toList.isEmpty = false := by rw [ByteArray.toList_eq]; simp only [Bool.and_eq_true] at hf; simpa using hf.2
  have HA := Lib.hid ha
  clear hf ha
  unfold maxLen at hs
  go_enter Tryd.func32, Tryd.ntmps32
  go_wp2_with fail
  go_loop [4] (fun i => ∃ k : Nat, k ≤ s.size ∧ i = .int .i64 k) (fun i => s.size - (intOf i).toNat)
  case atStart => exact ⟨0, Nat.zero_le _, rfl⟩
  case round =>
    obtain ⟨k, hk, rfl⟩ := hrel
    by_cases hlt : k < s.size
    · have HD := Lib.hid ((isDig_iff s[k]).1 (allDig_at s k hlt HA.out))
      obtain ⟨h1, h2⟩ := HD.out
      clear HD
      go_wp2_with fail
      go_round
      case rel => exact ⟨k + 1, by omega, by go_num⟩
      case measure => simp [intOf]; omega
    · go_wp2_with fail
      go_loop [5, 6] (fun n i => ∃ k m : Nat, k ≤ s.size ∧ m ≤ 9223372036854775807 ∧ i = .int .i64 k ∧ n = .int .i64 m ∧ m = val (s.data.toList.take k)) (fun _ i => s.size - (intOf i).toNat)
      case atStart => exact ⟨0, 0, Nat.zero_le _, Nat.zero_le _, rfl, rfl, rfl⟩
      case round =>
        clear hk hlt
        obtain ⟨k, m, hk, hm, rfl, rfl, hv⟩ := hrel
        have HV := Lib.hid hv
        clear hv
        by_cases hlt : k < s.size
        · have HS := Lib.hid (take_snoc s k hlt)
          have HD := Lib.hid ((isDig_iff s[k]).1 (allDig_at s k hlt HA.out))
          obtain ⟨h1, h2⟩ := HD.out
          clear HD
          have HN := Lib.hid (show val (s.data.toList.take (k + 1)) = 10 * m + (s[k].toNat - 48) by rw [HS.out, val_snoc, HV.out])
          have HL := Lib.hid (val_take_le s.data.toList (k + 1))
          by_cases hm2 : (9223372036854775807 - ((s[k].toNat : Int) - 48)) / 10 < m
          · go_wp2_with fail
            go_ret2
            have h3 := HL.out
            rw [HN.out] at h3
            exact ⟨ret_two' (by rw [rdN, if_neg (by omega)]) (by rw [rdE, if_neg (by omega)]), rfl⟩
          · go_wp2_with fail
            go_round
            case rel => exact ⟨k + 1, 10 * m + (s[k].toNat - 48), by omega, by omega, by go_num, by go_num, by rw [HN.out]⟩
            case measure => simp [intOf]; omega
        · have HL := Lib.hid (show val s.data.toList = m by rw [HV.out, List.take_of_length_le (by simp; omega)])
          go_wp2_with fail
          go_ret2
          exact ⟨ret_two' (by rw [rdN, HL.out, if_pos hm]) (by rw [rdE, HL.out, if_pos hm]), rfl⟩

theorem iread_any (s : ByteArray) (w : World) (hs : s.size ≤ maxLen) : ∃ x : Int,
    Calls Tryd.prog 37 #[.string s] w fun e w' => e = .returned (.tuple #[.int .i64 x, .int .i64 (rdErr s.data.toList)]) ∧ w = w' := by
  cases hf : (allDig s.data.toList && !s.data.toList.isEmpty)
  · refine ⟨0, ?_⟩
    rw [rdErr, if_neg (by rw [hf]; decide)]
    exact read_form s w hs hf
  · refine ⟨rdN s.data.toList, ?_⟩
    rw [rdErr, if_pos hf]
    exact read_dig s w hs hf
theorem rread_any (s : ByteArray) (w : World) (hs : s.size ≤ maxLen) : ∃ x : Int,
    Calls Tryd.prog 32 #[.string s] w fun e w' => e = .returned (.tuple #[.int .i64 x, .int .i64 (rdErr s.data.toList)]) ∧ w = w' := by
  by_cases hn : s.data.toList = []
  · refine ⟨0, ?_⟩
    rw [rdErr, if_neg (by rw [hn]; decide)]
    exact rread_empty s w hn
  · cases ha : allDig s.data.toList
    · refine ⟨0, ?_⟩
      rw [rdErr, if_neg (by rw [ha]; simp)]
      exact rread_form s w hs hn ha
    · have hf : (allDig s.data.toList && !s.data.toList.isEmpty) = true := by rw [ha]; simpa using hn
      refine ⟨rdN s.data.toList, ?_⟩
      rw [rdErr, if_pos hf]
      exact rread_dig s w hs hf
end Go.Proofs.YteidhjacnlcddaaDoor
