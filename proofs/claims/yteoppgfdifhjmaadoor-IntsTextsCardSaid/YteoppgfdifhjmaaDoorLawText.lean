/- The laws IntsTexts and IntsWritten: texts of numbers and numbers of texts. -/
import Derived.Test.YteoppgfdifhjmaaDoorText
import Derived.Test.YteoppgfdifhjmaaDoorShelf
import Derived.Lib.AppendIntMem
import Derived.Lib.SmallJoins
namespace Go.Proofs.YteoppgfdifhjmaaDoor
open Go.ChangeShapes Go.WideShapes Go.ChangeAt Go.RowKit
set_option linter.unusedVariables false

def Pow (w : World) : Prop := Lib.TabIs Tryd.prog w "internal/strconv.uint64pow10" .u64 Lib.pow10Tab
theorem Pow.stays {w w' : World} (h : Pow w) (hb : Below w.heap.size w w') : Pow w' :=
  Joins.tab_stays (g := 0) (by kernel_rfl) h hb (Nat.le_refl _)

def txt (n : Int) : ByteArray := ⟨(Lib.itoa n).toArray⟩

theorem val_snoc' (l : List UInt8) (d : Nat) (h : d ≤ 9) : val (l ++ [UInt8.ofNat (48 + d)]) = 10 * val l + d := by
  rw [val_snoc]
  have : (UInt8.ofNat (48 + d)).toNat = 48 + d := by rw [UInt8.toNat_ofNat']; omega
  omega
theorem isDig_ofNat (d : Nat) (h : d ≤ 9) : isDig (UInt8.ofNat (48 + d)) = true := by
  rw [isDig_iff]
  have : (UInt8.ofNat (48 + d)).toNat = 48 + d := by rw [UInt8.toNat_ofNat']; omega
  omega
theorem dec_ok (u : Nat) : val (Lib.decDigits u) = u ∧ allDig (Lib.decDigits u) = true ∧ Lib.decDigits u ≠ [] := by
  induction u using Nat.strongRecOn with
  | ind u ih =>
    rw [Lib.decDigits]
    by_cases h : u < 10
    · rw [dif_pos h]
      refine ⟨?_, ?_, by simp⟩
      · have := val_snoc' [] u (by omega); simpa [val] using this
      · have := isDig_ofNat u (by omega); simpa [allDig] using this
    · rw [dif_neg h]
      obtain ⟨h1, h2, h3⟩ := ih (u / 10) (by omega)
      refine ⟨?_, ?_, by simp⟩
      · rw [val_snoc' _ _ (by omega), h1]; omega
      · rw [allDig_snoc, h2, isDig_ofNat _ (by omega)]; rfl
theorem dec_inj {u v : Nat} (h : Lib.decDigits u = Lib.decDigits v) : u = v := by
  rw [← (dec_ok u).1, h, (dec_ok v).1]
theorem dec_no_minus (u : Nat) (l : List UInt8) : Lib.decDigits u ≠ 45 :: l := by
  intro h
  have h2 := (dec_ok u).2.1
  rw [h] at h2
  simp [allDig, isDig] at h2
theorem itoa_inj {n m : Int} (h : Lib.itoa n = Lib.itoa m) : n = m := by
  unfold Lib.itoa at h
  split at h <;> split at h
  · have := dec_inj (List.cons.inj h).2; omega
  · exact absurd h.symm (dec_no_minus _ _)
  · exact absurd h (dec_no_minus _ _)
  · have := dec_inj h; omega

def zers (k : Nat) : ByteArray := ⟨(List.replicate k 48).toArray⟩
theorem zers_succ (k : Nat) : zers k ++ ⟨#[48]⟩ = zers (k + 1) := by
  unfold zers
  rw [List.replicate_succ']
  exact bytes_cat _ [48]
theorem zers_size (k : Nat) : (zers k).size = k := by
  show (List.replicate k (48 : UInt8)).toArray.size = k
  simp
theorem txt_size (n : Int) (h0 : -9223372036854775808 ≤ n) (h1 : n ≤ 9223372036854775807) : (txt n).size ≤ 21 := by
  have := Lib.itoa_length_le n h0 h1
  show (Lib.itoa n).toArray.size ≤ 21
  simpa using this
theorem joint_list (k : Nat) (n : Int) : (zers k ++ txt n).data.toList = List.replicate k 48 ++ Lib.itoa n := by
  rw [ByteArray.data_append]; simp [zers, txt]
theorem val_zeros (k : Nat) (l : List UInt8) : val (List.replicate k 48 ++ l) = val l := by
  have h : ∀ k : Nat, List.foldl (fun n c => 10 * n + (UInt8.toNat c - 48)) 0 (List.replicate k (48 : UInt8)) = 0 := by
    intro k
    induction k with
    | zero => rfl
    | succ k ih => rw [List.replicate_succ, List.foldl_cons]; exact ih
  unfold val
  rw [List.foldl_append, h]
theorem dig_zeros (k : Nat) (l : List UInt8) : allDig (List.replicate k 48 ++ l) = allDig l := by
  unfold allDig
  rw [List.all_append]
  have : List.all (List.replicate k (48 : UInt8)) isDig = true := by
    rw [List.all_eq_true]; intro x hx; rw [List.eq_of_mem_replicate hx]; rfl
  rw [this, Bool.true_and]
theorem joint_pos (k : Nat) (n : Int) (h0 : 0 ≤ n) (h1 : n ≤ 9223372036854775807) :
    (allDig (zers k ++ txt n).data.toList && !(zers k ++ txt n).data.toList.isEmpty) = true ∧ rdN (zers k ++ txt n).data.toList = n ∧ rdE (zers k ++ txt n).data.toList = 0 := by
  obtain ⟨d1, d2, d3⟩ := dec_ok n.toNat
  have e : Lib.itoa n = Lib.decDigits n.toNat := by rw [Lib.itoa, if_neg (by omega)]
  rw [joint_list, e]
  refine ⟨?_, ?_, ?_⟩
  · rw [dig_zeros, d2]; simp [d3]
  · rw [rdN, val_zeros, d1, if_pos (by omega)]; omega
  · rw [rdE, val_zeros, d1, if_pos (by omega)]
theorem joint_neg (k : Nat) (n : Int) (h0 : n < 0) : (allDig (zers k ++ txt n).data.toList && !(zers k ++ txt n).data.toList.isEmpty) = false := by
  rw [joint_list, dig_zeros, Lib.itoa, if_pos h0]
  rfl
theorem txt_ne (n : Int) : Lib.itoa n ≠ [] := by
  unfold Lib.itoa
  split
  · simp
  · exact (dec_ok _).2.2

theorem itext_any (n : Int) (w : World) (h0 : -9223372036854775808 ≤ n) (h1 : n ≤ 9223372036854775807) (hp : Pow w) :
    Calls Tryd.prog 9 #[.int .i64 n] w fun e w' => e = .returned (.string (txt n)) ∧ Below w.heap.size w w' := by
  have HP := Lib.hid hp
  clear hp
  go_enter Tryd.func9, Tryd.ntmps9
  go_wp2_with (go_at_call 16; refine (Tryd.strconv_FormatInt_10 _ (by assumption) (by assumption) _ HP.out).mono ?_; rintro e w' ⟨rfl, k, os, rfl⟩)
  go_ret
  exact ⟨rfl, Lib.below_grow _ _ (Nat.le_refl _) _ _⟩

theorem reads_same (s : ByteArray) (hs : s.size ≤ maxLen) : ∃ x y : Int, (∀ w : World, Calls Tryd.prog 8 #[.string s] w fun e w' => e = .returned (.tuple #[.int .i64 x, .int .i64 y]) ∧ w = w') ∧ (∀ w : World, Calls Tryd.prog 11 #[.string s] w fun e w' => e = .returned (.tuple #[.int .i64 x, .int .i64 y]) ∧ w = w') := by
  by_cases he : s.data.toList = []
  · exact ⟨0, 12, fun w => read_form s w hs (by rw [he]; rfl), fun w => rread_empty s w he⟩
  · cases ha : allDig s.data.toList
    · exact ⟨0, 12, fun w => read_form s w hs (by rw [ha]; rfl), fun w => rread_form s w hs he ha⟩
    · have hd : (allDig s.data.toList && !s.data.toList.isEmpty) = true := by rw [ha]; simpa using he
      exact ⟨_, _, fun w => read_dig s w hs hd, fun w => rread_dig s w hs hd⟩

theorem IntsTexts_walk (n : Int) (s : ByteArray) (w0 : (Lit.int .i64 n).wf = true) (hs : s.size ≤ maxLen) (w : World) (hp : Pow w) :
    Calls Tryd.prog 4 #[.int .i64 n, .string s] w fun e w' => e = .returned (.bool true) ∧ Below w.heap.size w w' := by
  obtain ⟨h0, h1⟩ := bounds_i64 w0
  clear w0
  obtain ⟨x, y, r1, r2⟩ := reads_same s hs
  have R1 := Lib.hid r1
  have R2 := Lib.hid r2
  have HP := Lib.hid hp
  clear r1 r2 hp hs
  by_cases hl : 100 < s.size
  · go_enter Tryd.func4, Tryd.ntmps4
    go_wp2_with fail
    go_ret
    exact ⟨rfl, Below.refl _ _⟩
  · have htx : (txt n).toList = Lib.itoa n := by rw [ByteArray.toList_eq]; rfl
    go_enter Tryd.func4, Tryd.ntmps4
    go_wp2_with (first | (go_at_call 8; refine (R1.out _).mono ?_; rintro e w' ⟨rfl, rfl⟩) | (go_at_call 11; refine (R2.out _).mono ?_; rintro e w' ⟨rfl, rfl⟩) | (go_at_call 9; refine (itext_any _ _ (by assumption) (by assumption) HP.out).mono ?_; rintro e w1 ⟨rfl, hb1⟩) | (go_at_call 12; refine (rtext_any _ _ _ (Nat.le_refl _) (by assumption) (by assumption)).mono ?_; rintro e w2 ⟨rfl, hb2⟩))
    go_ret
    refine ⟨rfl, ?_⟩
    exact hb1.trans (hb2.mono hb1.size)

theorem IntsWritten_walk (n m z : Int) (w0 : (Lit.int .i64 n).wf = true) (w1 : (Lit.int .i64 m).wf = true) (w2 : (Lit.int .i64 z).wf = true) (w : World) (hp : Pow w) :
    Calls Tryd.prog 5 #[.int .i64 n, .int .i64 m, .int .i64 z] w fun e w' => e = .returned (.bool true) ∧ Below w.heap.size w w' := by
  obtain ⟨h0, h1⟩ := bounds_i64 w0
  obtain ⟨g0, g1⟩ := bounds_i64 w1
  clear w0 w1 w2
  have HP := Lib.hid hp
  clear hp
  by_cases z0 : z < 0
  · go_enter Tryd.func5, Tryd.ntmps5
    go_wp2_with (go_at_call 10; refine (alive_any _).mono ?_; rintro e w' ⟨rfl, rfl⟩)
    go_ret
    exact ⟨rfl, Below.refl _ _⟩
  · by_cases z1 : 30 < z
    · go_enter Tryd.func5, Tryd.ntmps5
      go_wp2_with (go_at_call 10; refine (alive_any _).mono ?_; rintro e w' ⟨rfl, rfl⟩)
      go_ret
      exact ⟨rfl, Below.refl _ _⟩
    · have htx : (txt n).toList = Lib.itoa n := by rw [ByteArray.toList_eq]; rfl
      have hty : (txt m).toList = Lib.itoa m := by rw [ByteArray.toList_eq]; rfl
      have hne : (Lib.itoa n).isEmpty = false := by simpa using txt_ne n
      have hsz := txt_size n h0 h1
      obtain ⟨z, rfl⟩ := Int.eq_ofNat_of_zero_le (show 0 ≤ z by omega)
      have hz : z ≤ 30 := by omega
      clear z0 z1
      have hboth : (n == m) = (Lib.itoa n == Lib.itoa m) := by
        rw [Bool.eq_iff_iff]; simp only [beq_iff_eq]; exact ⟨fun h => by rw [h], itoa_inj⟩
      have HMX := Lib.hid (show (zers z ++ txt n).size ≤ maxLen by rw [ByteArray.size_append, zers_size]; unfold maxLen; omega)
      by_cases hn : n < 0
      · have HR := Lib.hid (fun w => read_form (zers z ++ txt n) w HMX.out (joint_neg z n hn))
        have hp0 : 0 < (txt n).size := by
          show 0 < (Lib.itoa n).toArray.size
          rw [Lib.itoa, if_pos hn]; simp
        have hix : (((txt n)[0]'hp0).toNat : Int) = 45 := by
          show (((Lib.itoa n).toArray[0]'hp0).toNat : Int) = 45
          simp [Lib.itoa, hn]
        obtain ⟨b, hb⟩ : ∃ b : Bool, (Lib.itoa n == Lib.itoa m) = b := ⟨_, rfl⟩
        rw [hb] at hboth
        go_enter Tryd.func5, Tryd.ntmps5
        go_wp2_with (first | (go_at_call 9; first | (with_reducible refine (itext_any n _ (by assumption) (by assumption) HP.out).mono ?_; rintro e w1 ⟨rfl, hb1⟩) | (with_reducible refine (itext_any m _ (by assumption) (by assumption) (HP.out.stays hb1)).mono ?_; rintro e w2 ⟨rfl, hb2⟩)))
        go_loop [9, 10] (fun f i => ∃ k : Nat, k ≤ z ∧ i = .int .i64 k ∧ f = .string (zers k)) (fun _ i => z - (intOf i).toNat)
        case atStart => exact ⟨0, Nat.zero_le _, rfl, rfl⟩
        case round =>
          obtain ⟨k, hk, rfl, rfl⟩ := hrel
          have HZ := Lib.hid (zers_succ k)
          have HS := Lib.hid (zers_size k)
          by_cases hlt : k < z
          · have hks : (zers k).size ≤ 30 := by rw [HS.out]; omega
            go_wp2_with fail
            go_round
            case rel => exact ⟨k + 1, by omega, by go_num, by rw [← HZ.out]⟩
            case measure => simp [intOf]; omega
          · obtain rfl : k = z := by omega
            have hks : (zers k).size ≤ 30 := by rw [HS.out]; omega
            go_wp2_with (first | (go_at_call 8; refine (HR.out _).mono ?_; rintro e w' ⟨rfl, rfl⟩) | (go_at_call 10; refine (alive_any _).mono ?_; rintro e w' ⟨rfl, rfl⟩))
            go_ret
            exact ⟨rfl, hb1.trans (hb2.mono hb1.size)⟩
      · obtain ⟨jp1, jp2, jp3⟩ := joint_pos z n (by omega) h1
        have HR0 := read_dig (zers z ++ txt n)
        rw [jp2, jp3] at HR0
        have HR := Lib.hid (fun w => HR0 w HMX.out jp1)
        clear jp1 jp2 jp3 HR0
        obtain ⟨b, hb⟩ : ∃ b : Bool, (Lib.itoa n == Lib.itoa m) = b := ⟨_, rfl⟩
        rw [hb] at hboth
        go_enter Tryd.func5, Tryd.ntmps5
        go_wp2_with (first | (go_at_call 9; first | (with_reducible refine (itext_any n _ (by assumption) (by assumption) HP.out).mono ?_; rintro e w1 ⟨rfl, hb1⟩) | (with_reducible refine (itext_any m _ (by assumption) (by assumption) (HP.out.stays hb1)).mono ?_; rintro e w2 ⟨rfl, hb2⟩)))
        go_loop [9, 10] (fun f i => ∃ k : Nat, k ≤ z ∧ i = .int .i64 k ∧ f = .string (zers k)) (fun _ i => z - (intOf i).toNat)
        case atStart => exact ⟨0, Nat.zero_le _, rfl, rfl⟩
        case round =>
          obtain ⟨k, hk, rfl, rfl⟩ := hrel
          have HZ := Lib.hid (zers_succ k)
          have HS := Lib.hid (zers_size k)
          by_cases hlt : k < z
          · have hks : (zers k).size ≤ 30 := by rw [HS.out]; omega
            go_wp2_with fail
            go_round
            case rel => exact ⟨k + 1, by omega, by go_num, by rw [← HZ.out]⟩
            case measure => simp [intOf]; omega
          · obtain rfl : k = z := by omega
            have hks : (zers k).size ≤ 30 := by rw [HS.out]; omega
            go_wp2_with (first | (go_at_call 8; refine (HR.out _).mono ?_; rintro e w' ⟨rfl, rfl⟩) | (go_at_call 10; refine (alive_any _).mono ?_; rintro e w' ⟨rfl, rfl⟩))
            go_ret
            exact ⟨rfl, hb1.trans (hb2.mono hb1.size)⟩
end Go.Proofs.YteoppgfdifhjmaaDoor
