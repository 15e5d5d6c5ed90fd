/- The contract of digits. -/
import Derived.Test.YtlmamidodahgmaaGreatDoorPText
import Derived.Test.YtlmamidodahgmaaGreatDoorPAlive
import Derived.Tactics2
import Derived.Laws.BytesArg
namespace Go.Proofs.YtlmamidodahgmaaGreatDoor.P9
open Go.ChangeShapes Go.WideShapes Go.ChangeAt Go.RowKit N4 Q8
set_option linter.unusedVariables false
set_option linter.unusedSimpArgs false
set_option maxRecDepth 100000

theorem conv_one (w : World) (c : Int) : (convert 75 9 (.slice (some ⟨w.heap.size, 0, none⟩) 1 1)).run Tryz.prog (w.alloc (.cells #[.int .u8 c] 5)) = .ok (.string (strOfNums [c])) (w.alloc (.cells #[.int .u8 c] 5)) := by
  refine run_convert_bytes_arg (w.alloc (.cells #[.int .u8 c] 5)) _ _ Tryz.underlying75 Tryz.underlying5 _ _ _ _ [c] rfl (fun i hi => ?_) _ Tryz.underlying9
  obtain rfl : i = 0 := Nat.lt_one_iff.1 hi
  go_simp
theorem dig_bytes (d : Nat) (h : d < 10) : strOfNums [48 + (d : Int)] = bytesOf [UInt8.ofNat (48 + d)] := by
  have hn : d = 0 ∨ d = 1 ∨ d = 2 ∨ d = 3 ∨ d = 4 ∨ d = 5 ∨ d = 6 ∨ d = 7 ∨ d = 8 ∨ d = 9 := by omega
  rcases hn with rfl | rfl | rfl | rfl | rfl | rfl | rfl | rfl | rfl | rfl <;> rfl
theorem dec_one (d : Nat) (h : d < 10) : Lib.decDigits d = [UInt8.ofNat (48 + d)] := by rw [Lib.decDigits, dif_pos h]
theorem dec_len (m : Nat) (h : m ≤ 9223372036854775807) : (Lib.decDigits m).length ≤ 21 := by
  have := (num_ok (n := (m : Int)) (by omega) (by omega)).2.2.2.2
  rwa [show numT (m : Int) = Lib.decDigits m by rw [numT, Lib.itoa, if_neg (by omega)]; rfl] at this
theorem digits_any (n : Nat) (w0 w : World) (hw : G9 w0 w) : n ≤ 9223372036854775807 → Calls Tryz.prog 26 #[.int .i64 (n : Int)] w fun e w' => e = .returned (.string (bytesOf (Lib.decDigits n))) ∧ Below w.heap.size w w' := by
  induction n using Nat.strongRecOn generalizing w with
  | ind n ih =>
  intro hn
  obtain ⟨m, hm⟩ : ∃ m, n / 10 = m := ⟨_, rfl⟩
  obtain ⟨d, hd⟩ : ∃ d, n % 10 = d := ⟨_, rfl⟩
  have hd10 : d < 10 := by omega
  have hnm : n = 10 * m + d := by omega
  have t1 : (n : Int).tmod 10 = (d : Int) := by rw [Int.tmod_eq_emod_of_nonneg (by omega)]; omega
  have t2 : (n : Int).tdiv 10 = (m : Int) := by rw [Int.tdiv_eq_ediv_of_nonneg (by omega)]; omega
  have HB := Lib.hid (dig_bytes d hd10)
  have kc := fun W => conv_one W
  by_cases h : n < 10
  · have h1 : (n : Int) < 10 := by omega
    have HD := Lib.hid (show strOfNums [48 + (d : Int)] = bytesOf (Lib.decDigits n) by rw [HB.out, dec_one n h, show n = d by omega])
    clear ih hnm hm hd
    go_enter Tryz.func26, Tryz.ntmps26
    go_wp2
    go_ret
    exact ⟨by rw [HD.out]; rfl, (Below.refl _ _).alloc (Nat.le_refl _) _⟩
  · have h1 : ¬ (n : Int) < 10 := by omega
    have hl := dec_len m (Nat.le_trans (by omega) hn)
    have hmn : m < n := by omega
    have hmx : m ≤ 9223372036854775807 := Nat.le_trans (Nat.le_of_lt hmn) hn
    have HI := Lib.hid (fun W (hg : G9 w0 W) => ih m hmn W hg hmx)
    have HG := Lib.hid hw
    have HD := Lib.hid (show bytesOf (Lib.decDigits m) ++ strOfNums [48 + (d : Int)] = bytesOf (Lib.decDigits n) by
      have e : Lib.decDigits n = Lib.decDigits m ++ [UInt8.ofNat (48 + d)] := by
        rw [Lib.decDigits, dif_neg h, hm, hd]
      rw [HB.out, bytes_app, e])
    have k1 := fun W => run_string_add_sum (P := Tryz.prog) W (bytesOf (Lib.decDigits m)) (strOfNums [48 + (d : Int)]) (by rw [bytesOf_size, strOfNums_size]; simp only [List.length_cons, List.length_nil]; omega)
    generalize Lib.decDigits m = T at *
    clear ih hnm hm hd hw hn
    go_enter Tryz.func26, Tryz.ntmps26
    go_wp2_with (go_at_call 26; refine (HI.out _ (HG.out.step ((Below.refl _ _).alloc (Nat.le_refl _) _))).mono ?_; rintro e w2 ⟨rfl, hb⟩; have HB2 := Lib.hid hb; clear hb)
    go_ret
    exact ⟨by rw [HD.out]; rfl, ((Below.refl w.heap.size w).alloc (Nat.le_refl _) _).trans (HB2.out.mono (by simp))⟩
theorem digits_c (n : Int) (h0 : 0 ≤ n) (h1 : n ≤ 9223372036854775807) (w0 w : World) (hw : G9 w0 w) : Calls Tryz.prog 26 #[.int .i64 n] w fun e w' => e = .returned (.string (bytesOf (numT n))) ∧ Below w.heap.size w w' := by
  have e : numT n = Lib.decDigits n.toNat := by rw [numT, Lib.itoa, if_neg (by omega)]
  rw [e]
  have := digits_any n.toNat w0 w hw (by omega)
  rwa [show ((n.toNat : Nat) : Int) = n by omega] at this
end Go.Proofs.YtlmamidodahgmaaGreatDoor.P9
