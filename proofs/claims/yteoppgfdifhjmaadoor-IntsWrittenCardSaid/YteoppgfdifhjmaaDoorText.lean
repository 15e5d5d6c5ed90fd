/- Contracts of the reference's Text and Read. -/
import Derived.Test.YteoppgfdifhjmaaDoorLawDo
import Derived.Lib.ItoaNum
import Derived.Lib.ItoaLen
import Derived.Maps.AppendAt
import Derived.Laws.BytesString
namespace Go.Proofs.YteoppgfdifhjmaaDoor
open Go.ChangeShapes Go.WideShapes Go.ChangeAt Go.RowKit
set_option linter.unusedVariables false

theorem ret_str' {a b : ByteArray} (h : a = b) : Ending.returned (.string a) = .returned (.string b) := by rw [h]

theorem conv_one (d : Int) (w : World) :
    Sem.run Tryd.prog (convert 25 9 (.slice (some ⟨w.heap.size, 0, none⟩) 1 1)) (w.alloc (.cells #[.int .u8 d] 5)) = .ok (.string ⟨#[UInt8.ofNat d.toNat]⟩) (w.alloc (.cells #[.int .u8 d] 5)) := by
  rw [run_convert_bytes_string _ _ _ 5 _ _ _ Tryd.underlying25 Tryd.underlying5 Tryd.underlying9]
  rw [run_bytesToString _ _ 1 1 [d] (run_loadCells_list _ _ [.int .u8 d] (fun j v hv => by
    match j with
    | 0 => simp at hv; subst hv; exact cell_one_new _ _ _ 0 _ rfl
    | j + 1 => simp at hv))]
  rfl

theorem itoa_one (n : Int) (h0 : 0 ≤ n) (h1 : n ≤ 9) : Lib.itoa n = [UInt8.ofNat (48 + n).toNat] := by
  rw [Lib.itoa, if_neg (by omega), Lib.decDigits, dif_pos (by omega)]
  rw [show (48 + n).toNat = 48 + n.toNat by omega]
theorem itoa_more (n : Int) (h0 : 10 ≤ n) : Lib.itoa n = Lib.itoa (n / 10) ++ [UInt8.ofNat (48 + n % 10).toNat] := by
  rw [Lib.itoa, if_neg (by omega), Lib.decDigits, dif_neg (by omega), Lib.itoa, if_neg (by omega)]
  rw [show (48 + n % 10).toNat = 48 + n.toNat % 10 by omega, show (n / 10).toNat = n.toNat / 10 by omega]
theorem itoa_neg1 (n : Int) (h0 : n < 0) (h1 : -9 ≤ n) : Lib.itoa n = [45, UInt8.ofNat (48 + -n).toNat] := by
  rw [Lib.itoa, if_pos h0, Lib.decDigits, dif_pos (by omega)]
  rw [show (48 + -n).toNat = 48 + n.natAbs by omega]
theorem itoa_negs (n : Int) (h0 : n ≤ -10) : Lib.itoa n = Lib.itoa (n.tdiv 10) ++ [UInt8.ofNat (48 + -(n.tmod 10)).toNat] := by
  obtain ⟨m, rfl⟩ : ∃ m : Nat, n = -(m : Int) := ⟨n.natAbs, by omega⟩
  rw [Int.neg_tdiv, Int.neg_tmod, Int.tdiv_eq_ediv_of_nonneg (by omega), Int.tmod_eq_emod_of_nonneg (by omega)]
  rw [Lib.itoa, if_pos (by omega), Lib.decDigits, dif_neg (by omega), Lib.itoa, if_pos (by omega)]
  rw [show (48 + - -((m : Int) % 10)).toNat = 48 + m % 10 by omega, show (-((m : Int) / 10)).natAbs = m / 10 by omega, show (-(m : Int)).natAbs = m by omega]
  rfl

theorem bytes_cat (l m : List UInt8) : (⟨l.toArray⟩ : ByteArray) ++ ⟨m.toArray⟩ = ⟨(l ++ m).toArray⟩ := by
  apply ByteArray.ext
  simp [ByteArray.data_append]

theorem neg_tmod_lo (n : Int) (h : n ≤ 0) : -9 ≤ n.tmod 10 ∧ n.tmod 10 ≤ 0 := by
  obtain ⟨m, rfl⟩ : ∃ m : Nat, n = -(m : Int) := ⟨n.natAbs, by omega⟩
  rw [Int.neg_tmod, Int.tmod_eq_emod_of_nonneg (by omega)]
  omega
theorem neg_tdiv_in (n : Int) (h : n ≤ 0) : n ≤ n.tdiv 10 * 10 ∧ n.tdiv 10 ≤ 0 ∧ n.tdiv 10 * 10 ≤ n + 9 ∧ n.tdiv 10 * 10 + n.tmod 10 = n := by
  obtain ⟨m, rfl⟩ : ∃ m : Nat, n = -(m : Int) := ⟨n.natAbs, by omega⟩
  rw [Int.neg_tdiv, Int.neg_tmod, Int.tdiv_eq_ediv_of_nonneg (by omega), Int.tmod_eq_emod_of_nonneg (by omega)]
  omega

theorem rtext_any (k : Nat) : ∀ (n : Int) (w : World), n.natAbs ≤ k → -9223372036854775808 ≤ n → n ≤ 9223372036854775807 →
    Calls Tryd.prog 12 #[.int .i64 n] w fun e w' => e = .returned (.string ⟨(Lib.itoa n).toArray⟩) ∧ Below w.heap.size w w' := by
  induction k with
  | zero =>
    intro n w hk _ _
    obtain rfl : n = 0 := by omega
    have hc := conv_one 48 w
    go_enter Tryd.func12, Tryd.ntmps12
    go_wp2_with fail
    go_ret
    exact ⟨ret_str' (by rw [itoa_one 0 (by decide) (by decide)]; rfl), (Below.refl _ _).alloc (Nat.le_refl _) _⟩
  | succ k ih =>
    intro n w hk h0 h1
    have IH := Lib.hid ih
    clear ih
    by_cases hn : 0 ≤ n
    · have e1 : ¬ n < 0 := by omega
      have g1 : 0 ≤ n % 10 := by omega
      have g2 : n % 10 ≤ 9 := by omega
      have hc := conv_one (48 + n % 10) w
      by_cases hb : n ≤ 9
      · have HF := Lib.hid (itoa_one n hn hb)
        have e2 : n / 10 = 0 := by omega
        have e3 : n % 10 = n := by omega
        rw [e3] at hc
        go_enter Tryd.func12, Tryd.ntmps12
        go_wp2_with fail
        go_ret
        exact ⟨ret_str' (by rw [HF.out]), (Below.refl _ _).alloc (Nat.le_refl _) _⟩
      · have HF := Lib.hid (itoa_more n (by omega))
        have e2 : (n / 10 != 0) = true := by rw [bne_iff_ne]; omega
        have q1 : 0 ≤ n / 10 := by omega
        have HB := Lib.hid (show (n / 10).natAbs ≤ k by omega)
        have q3 : n / 10 ≤ 9223372036854775807 := by omega
        have q4 := Lib.itoa_length_le (n / 10) (by omega) q3
        go_enter Tryd.func12, Tryd.ntmps12
        go_wp2_with (go_at_call 12; refine (IH.out _ _ HB.out (by omega) (by omega)).mono ?_; rintro e w' ⟨rfl, hb1⟩)
        go_ret
        refine ⟨ret_str' (by rw [HF.out, ← bytes_cat] <;> rfl), ?_⟩
        exact ((Below.refl _ _).alloc (Nat.le_refl _) _).trans (hb1.mono (by simp))
    · obtain ⟨g1, g2⟩ := neg_tmod_lo n (by omega)
      obtain ⟨g3, g4, g5, g6⟩ := neg_tdiv_in n (by omega)
      have e1 : n < 0 := by omega
      have hc := conv_one (48 + -(n.tmod 10)) w
      have hc0 := conv_one 48 w
      by_cases hb : -9 ≤ n
      · have HF := Lib.hid (itoa_neg1 n e1 hb)
        have e2 : n.tdiv 10 = 0 := by omega
        have e3 : n.tmod 10 = n := by omega
        rw [e3] at hc
        clear g3 g4 g5 g6 hn hc0
        go_enter Tryd.func12, Tryd.ntmps12
        go_wp2_with fail
        go_ret
        exact ⟨ret_str' (by rw [HF.out]; rfl), (Below.refl _ _).alloc (Nat.le_refl _) _⟩
      · have HF := Lib.hid (itoa_negs n (by omega))
        have e2 : (n.tdiv 10 != 0) = true := by rw [bne_iff_ne]; omega
        have HB := Lib.hid (show (n.tdiv 10).natAbs ≤ k by omega)
        have HL := Lib.hid (show -9223372036854775808 ≤ n.tdiv 10 by omega)
        have q4 := Lib.itoa_length_le (n.tdiv 10) (by omega) (by omega)
        clear g3 g5 g6 hn
        by_cases hr : n.tmod 10 < 0
        · clear hc0
          go_enter Tryd.func12, Tryd.ntmps12
          go_wp2_with (go_at_call 12; refine (IH.out _ _ HB.out HL.out (by omega)).mono ?_; rintro e w' ⟨rfl, hb1⟩)
          go_ret
          refine ⟨ret_str' (by rw [HF.out, ← bytes_cat] <;> rfl), ?_⟩
          exact ((Below.refl _ _).alloc (Nat.le_refl _) _).trans (hb1.mono (by simp))
        · have e4 : n.tmod 10 = 0 := by omega
          clear hc
          rw [e4] at HF
          clear g1 g2
          go_enter Tryd.func12, Tryd.ntmps12
          go_wp2_with (go_at_call 12; refine (IH.out _ _ HB.out HL.out (by omega)).mono ?_; rintro e w' ⟨rfl, hb1⟩)
          go_ret
          refine ⟨ret_str' (by rw [HF.out, ← bytes_cat] <;> rfl), ?_⟩
          exact ((Below.refl _ _).alloc (Nat.le_refl _) _).trans (hb1.mono (by simp))

/-! ### the reference's Read -/
theorem rread_empty (s : ByteArray) (w : World) (hs : s.data.toList = []) :
    Calls Tryd.prog 11 #[.string s] w fun e w' => e = .returned (.tuple #[.int .i64 0, .int .i64 12]) ∧ w = w' := by
  have h1 : s.toList = [] := by rw [ByteArray.toList_eq]; exact hs
  go_enter Tryd.func11, Tryd.ntmps11
  go_wp2_with fail
  go_ret2
  exact ⟨rfl, rfl⟩

theorem rread_form (s : ByteArray) (w : World) (hs : s.size ≤ maxLen) (hn : s.data.toList ≠ []) (hf : allDig s.data.toList = false) :
    Calls Tryd.prog 11 #[.string s] w fun e w' => e = .returned (.tuple #[.int .i64 0, .int .i64 12]) ∧ w = w' := by
  have h1 : (!s.toList.isEmpty) = true := by rw [ByteArray.toList_eq]; simpa using hn
  have h2 : s.toList.isEmpty = false := by simpa using h1
  clear h1 hn
  have HF := Lib.hid hf
  clear hf
  unfold maxLen at hs
  go_enter Tryd.func11, Tryd.ntmps11
  go_wp2_with fail
  go_loop [4] (fun i => ∃ k : Nat, k ≤ s.size ∧ i = .int .i64 k ∧ allDig (s.data.toList.take k) = true) (fun i => s.size - (intOf i).toNat)
  case atStart => exact ⟨0, Nat.zero_le _, rfl, rfl⟩
  case round =>
    obtain ⟨k, hk, rfl, hd⟩ := hrel
    by_cases hlt : k < s.size
    · have HS := Lib.hid (take_snoc s k hlt)
      have HD := Lib.hid hd
      clear hd
      by_cases hc : 48 ≤ (s[k].toNat : Int) ∧ (s[k].toNat : Int) ≤ 57
      · have HI := Lib.hid ((isDig_iff s[k]).2 hc)
        obtain ⟨h1, h2⟩ := hc
        go_wp2_with fail
        go_round
        case rel => exact ⟨k + 1, by omega, by go_num, by rw [HS.out, allDig_snoc, HD.out, HI.out]; rfl⟩
        case measure => simp [intOf]; omega
      · by_cases h1 : (s[k].toNat : Int) < 48
        · clear hc
          go_wp2_with fail
          go_ret2
          exact ⟨rfl, rfl⟩
        · have h2 : 57 < (s[k].toNat : Int) := by omega
          clear hc
          go_wp2_with fail
          go_ret2
          exact ⟨rfl, rfl⟩
    · exact absurd (show allDig s.data.toList = true by rw [← hd, List.take_of_length_le (by simp; omega)]) (by rw [HF.out]; decide)

theorem rread_dig (s : ByteArray) (w : World) (hs : s.size ≤ maxLen) (hf : (allDig s.data.toList && !s.data.toList.isEmpty) = true) :
    Calls Tryd.prog 11 #[.string s] w fun e w' => e = .returned (.tuple #[.int .i64 (rdN s.data.toList), .int .i64 (rdE s.data.toList)]) ∧ w = w' := by
  have ha : allDig s.data.toList = true := by simp only [Bool.and_eq_true] at hf; exact hf.1
  have h2 : s.toList.isEmpty = false := by rw [ByteArray.toList_eq]; simp only [Bool.and_eq_true] at hf; simpa using hf.2
  have HA := Lib.hid ha
  clear hf ha
  unfold maxLen at hs
  go_enter Tryd.func11, Tryd.ntmps11
  go_wp2_with fail
  go_loop [4] (fun i => ∃ k : Nat, k ≤ s.size ∧ i = .int .i64 k) (fun i => s.size - (intOf i).toNat)
  case atStart => exact ⟨0, Nat.zero_le _, rfl⟩
  case round =>
    obtain ⟨k, hk, rfl⟩ := hrel
    by_cases hlt : k < s.size
    · have HD := Lib.hid ((isDig_iff s[k]).1 (allDig_at s k hlt HA.out))
      obtain ⟨h1, h2⟩ := HD.out
      clear HD
      go_wp2_with fail
      go_round
      case rel => exact ⟨k + 1, by omega, by go_num⟩
      case measure => simp [intOf]; omega
    · go_wp2_with fail
      go_loop [5, 6] (fun n i => ∃ k m : Nat, k ≤ s.size ∧ m ≤ 9223372036854775807 ∧ i = .int .i64 k ∧ n = .int .i64 m ∧ m = val (s.data.toList.take k)) (fun _ i => s.size - (intOf i).toNat)
      case atStart => exact ⟨0, 0, Nat.zero_le _, Nat.zero_le _, rfl, rfl, rfl⟩
      case round =>
        clear hk hlt
        obtain ⟨k, m, hk, hm, rfl, rfl, hv⟩ := hrel
        have HV := Lib.hid hv
        clear hv
        by_cases hlt : k < s.size
        · have HS := Lib.hid (take_snoc s k hlt)
          have HD := Lib.hid ((isDig_iff s[k]).1 (allDig_at s k hlt HA.out))
          obtain ⟨h1, h2⟩ := HD.out
          clear HD
          have HN := Lib.hid (show val (s.data.toList.take (k + 1)) = 10 * m + (s[k].toNat - 48) by rw [HS.out, val_snoc, HV.out])
          have HL := Lib.hid (val_take_le s.data.toList (k + 1))
          by_cases hm2 : (9223372036854775807 - ((s[k].toNat : Int) - 48)) / 10 < m
          · go_wp2_with fail
            go_ret2
            have h3 := HL.out
            rw [HN.out] at h3
            exact ⟨ret_two' (by rw [rdN, if_neg (by omega)]) (by rw [rdE, if_neg (by omega)]), rfl⟩
          · go_wp2_with fail
            go_round
            case rel => exact ⟨k + 1, 10 * m + (s[k].toNat - 48), by omega, by omega, by go_num, by go_num, by rw [HN.out]⟩
            case measure => simp [intOf]; omega
        · have HL := Lib.hid (show val s.data.toList = m by rw [HV.out, List.take_of_length_le (by simp; omega)])
          go_wp2_with fail
          go_ret2
          exact ⟨ret_two' (by rw [rdN, HL.out, if_pos hm]) (by rw [rdE, HL.out, if_pos hm]), rfl⟩
end Go.Proofs.YteoppgfdifhjmaaDoor
