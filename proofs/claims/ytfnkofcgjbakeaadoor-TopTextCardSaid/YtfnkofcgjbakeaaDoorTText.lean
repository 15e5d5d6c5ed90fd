/- Contracts of the reference's texts of numbers and leaves. -/
import Derived.Test.YtfnkofcgjbakeaaDoorETextB
import Derived.Maps.AppendAt
import Derived.Laws.BytesString
namespace Go.Proofs.YtfnkofcgjbakeaaDoor.T6
open Go.ChangeShapes Go.WideShapes Go.ChangeAt Go.RowKit N4
set_option linter.unusedVariables false
set_option maxRecDepth 100000

theorem conv_one (d : Int) (w : World) :
    Sem.run Tryd.prog (convert 120 9 (.slice (some ⟨w.heap.size, 0, none⟩) 1 1)) (w.alloc (.cells #[.int .u8 d] 5)) = .ok (.string ⟨#[UInt8.ofNat d.toNat]⟩) (w.alloc (.cells #[.int .u8 d] 5)) := by
  rw [run_convert_bytes_string _ _ _ 5 _ _ _ Tryd.underlying120 Tryd.underlying5 Tryd.underlying9]
  rw [run_bytesToString _ _ 1 1 [d] (run_loadCells_list _ _ [.int .u8 d] (fun j v hv => by
    match j with
    | 0 => simp at hv; subst hv; exact cell_one_new _ _ _ 0 _ rfl
    | j + 1 => simp at hv))]
  rfl
theorem itoa_one (n : Int) (h0 : 0 ≤ n) (h1 : n ≤ 9) : Lib.itoa n = [UInt8.ofNat (48 + n).toNat] := by
  rw [Lib.itoa, if_neg (by omega), Lib.decDigits, dif_pos (by omega)]
  rw [show (48 + n).toNat = 48 + n.toNat by omega]
theorem itoa_more (n : Int) (h0 : 10 ≤ n) : Lib.itoa n = Lib.itoa (n / 10) ++ [UInt8.ofNat (48 + n % 10).toNat] := by
  rw [Lib.itoa, if_neg (by omega), Lib.decDigits, dif_neg (by omega), Lib.itoa, if_neg (by omega)]
  rw [show (48 + n % 10).toNat = 48 + n.toNat % 10 by omega, show (n / 10).toNat = n.toNat / 10 by omega]
theorem bytes_cat (l m : List UInt8) : (⟨l.toArray⟩ : ByteArray) ++ ⟨m.toArray⟩ = ⟨(l ++ m).toArray⟩ := by
  apply ByteArray.ext
  simp [ByteArray.data_append]
theorem rtext_pos (k : Nat) : ∀ (n : Int) (w : World), n.natAbs ≤ k → 0 ≤ n → n ≤ 9223372036854775807 →
    Calls Tryd.prog 76 #[.int .i64 n] w fun e w' => e = .returned (.string ⟨(Lib.itoa n).toArray⟩) ∧ Below w.heap.size w w' := by
  induction k with
  | zero =>
    intro n w hk _ _
    obtain rfl : n = 0 := by omega
    have hc := conv_one 48 w
    go_enter Tryd.func76, Tryd.ntmps76
    go_wp2_with fail
    go_ret
    exact ⟨ret_s (by rw [itoa_one 0 (by decide) (by decide)]; rfl), (Below.refl _ _).alloc (Nat.le_refl _) _⟩
  | succ k ih =>
    intro n w hk hn h1
    have IH := Lib.hid ih
    clear ih
    have e1 : ¬ n < 0 := by omega
    have g1 : 0 ≤ n % 10 := by omega
    have g2 : n % 10 ≤ 9 := by omega
    have hc := conv_one (48 + n % 10) w
    by_cases hb : n ≤ 9
    · have HF := Lib.hid (itoa_one n hn hb)
      have e2 : n / 10 = 0 := by omega
      have e3 : n % 10 = n := by omega
      rw [e3] at hc
      go_enter Tryd.func76, Tryd.ntmps76
      go_wp2_with fail
      go_ret
      exact ⟨ret_s (by rw [HF.out]), (Below.refl _ _).alloc (Nat.le_refl _) _⟩
    · have HF := Lib.hid (itoa_more n (by omega))
      have e2 : (n / 10 != 0) = true := by rw [bne_iff_ne]; omega
      have q1 : 0 ≤ n / 10 := by omega
      have HB := Lib.hid (show (n / 10).natAbs ≤ k by omega)
      have q3 : n / 10 ≤ 9223372036854775807 := by omega
      have q4 := Lib.itoa_length_le (n / 10) (by omega) q3
      go_enter Tryd.func76, Tryd.ntmps76
      go_wp2_with (go_at_call 76; refine (IH.out _ _ HB.out (by omega) (by omega)).mono ?_; rintro e w' ⟨rfl, hb1⟩)
      go_ret
      refine ⟨ret_s (by rw [HF.out, ← bytes_cat] <;> rfl), ?_⟩
      exact ((Below.refl _ _).alloc (Nat.le_refl _) _).trans (hb1.mono (by simp))
theorem rtext_num (n : Int) (w : World) (h0 : 0 ≤ n) (h1 : n ≤ 9223372036854775807) : Calls Tryd.prog 76 #[.int .i64 n] w fun e w' => e = .returned (.string (bytesOf (numT n))) ∧ Below w.heap.size w w' :=
  rtext_pos _ n w (Nat.le_refl _) h0 h1
theorem rleaf_any (k m a b p : Int) (w : World) (hk : 1 ≤ k ∧ k ≤ 4) (h0 : 0 ≤ m) (h1 : m ≤ 9223372036854775807) :
    Calls Tryd.prog 58 #[.agg #[.int .u8 k, .int .i64 m, .int .i64 a, .int .i64 b, .int .i64 p]] w fun e w' => e = .returned (.string (bytesOf (leafT k m))) ∧ Below w.heap.size w w' := by
  have HT := Lib.hid (fun W => rtext_num m W h0 h1)
  have hk' : k = 1 ∨ k = 2 ∨ k = 3 ∨ k = 4 := by omega
  clear hk h0 h1
  rcases hk' with rfl | rfl | rfl | rfl
  · show Calls _ _ _ _ fun e w' => e = .returned (.string (bytesOf (numT m))) ∧ _
    go_enter Tryd.func58, Tryd.ntmps58
    go_wp2_with (go_at_call 76; refine (HT.out _).mono ?_; rintro e w2 ⟨rfl, hb⟩; have HB := Lib.hid hb; clear hb)
    go_ret
    exact ⟨rfl, ((Below.refl _ _).alloc (Nat.le_refl _) _).trans (HB.out.mono (by simp))⟩
  all_goals
    go_enter Tryd.func58, Tryd.ntmps58
    go_wp2
    go_ret
    exact ⟨rfl, ((Below.refl _ _).alloc (Nat.le_refl _) _).alloc (by simp) _⟩
end Go.Proofs.YtfnkofcgjbakeaaDoor.T6
