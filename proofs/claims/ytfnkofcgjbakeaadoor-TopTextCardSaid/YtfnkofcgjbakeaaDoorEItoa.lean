
/- Numbers as text. -/
import Derived.Test.YtfnkofcgjbakeaaDoorEMem
import Derived.Test.YtfnkofcgjbakeaaDoorShelf
import Derived.Lib.ItoaNum
import Derived.Lib.ItoaLen
import Derived.Lib.AppendIntMem
import Derived.Lib.SmallJoins
namespace Go.Proofs.YtfnkofcgjbakeaaDoor
open Go.ChangeShapes Go.WideShapes Go.ChangeAt Go.RowKit N4
set_option linter.unusedVariables false
set_option maxRecDepth 100000

def Pow (w : World) : Prop := Lib.TabIs Tryd.prog w "internal/strconv.uint64pow10" .u64 Lib.pow10Tab
theorem Pow.stays {w w' : World} (h : Pow w) (hb : Below w.heap.size w w') : Pow w' :=
  Joins.tab_stays (g := 5) (by kernel_rfl) h hb (Nat.le_refl _)
theorem val_snoc' (l : List UInt8) (d : Nat) (h : d ≤ 9) : val (l ++ [UInt8.ofNat (48 + d)]) = 10 * val l + d := by
  rw [val_snoc]
  have : (UInt8.ofNat (48 + d)).toNat = 48 + d := by rw [UInt8.toNat_ofNat']; omega
  omega
theorem isDig_ofNat (d : Nat) (h : d ≤ 9) : isDig (UInt8.ofNat (48 + d)) = true := by
  rw [isDig_iff]
  have : (UInt8.ofNat (48 + d)).toNat = 48 + d := by rw [UInt8.toNat_ofNat']; omega
  omega
theorem dec_ok (u : Nat) : val (Lib.decDigits u) = u ∧ allDig (Lib.decDigits u) = true ∧ Lib.decDigits u ≠ [] := by
  induction u using Nat.strongRecOn with
  | ind u ih =>
    rw [Lib.decDigits]
    by_cases h : u < 10
    · rw [dif_pos h]
      refine ⟨?_, ?_, by simp⟩
      · have := val_snoc' [] u (by omega); simpa [val] using this
      · have := isDig_ofNat u (by omega); simpa [allDig] using this
    · rw [dif_neg h]
      obtain ⟨h1, h2, h3⟩ := ih (u / 10) (by omega)
      refine ⟨?_, ?_, by simp⟩
      · rw [val_snoc' _ _ (by omega), h1]; omega
      · rw [allDig_snoc, h2, isDig_ofNat _ (by omega)]; rfl
/-- The digits of a number. -/
def numT (n : Int) : List UInt8 := Lib.itoa n
theorem num_ok {n : Int} (h0 : 0 ≤ n) (h1 : n ≤ 9223372036854775807) : rdErr (numT n) = 0 ∧ ((val (numT n) : Nat) : Int) = n ∧ numT n ≠ [] ∧ (∀ c ∈ numT n, isDig c = true) ∧ (numT n).length ≤ 21 := by
  obtain ⟨d1, d2, d3⟩ := dec_ok n.toNat
  have e : numT n = Lib.decDigits n.toNat := by rw [numT, Lib.itoa, if_neg (by omega)]
  have hl := Lib.itoa_length_le n (by omega) h1
  refine ⟨?_, by rw [e, d1]; omega, by rw [e]; exact d3, by rw [e]; intro c hc; exact (List.all_eq_true.1 d2) c hc, by show (Lib.itoa n).length ≤ 21; omega⟩
  rw [rdErr, rdE, e, d2, d1, if_pos (by simp [d3]), if_pos (by omega)]
theorem itext_any (n : Int) (w : World) (h0 : 0 ≤ n) (h1 : n ≤ 9223372036854775807) (hp : Pow w) :
    Calls Tryd.prog 74 #[.int .i64 n] w fun e w' => e = .returned (.string (bytesOf (numT n))) ∧ Below w.heap.size w w' := by
  have HP := Lib.hid hp
  have h2 : -9223372036854775808 ≤ n := by omega
  clear hp
  go_enter Tryd.func74, Tryd.ntmps74
  go_wp2_with (go_at_call 86; refine (Tryd.strconv_FormatInt_10 _ (by assumption) (by assumption) _ HP.out).mono ?_; rintro e w' ⟨rfl, k, os, rfl⟩)
  go_ret
  exact ⟨rfl, Lib.below_grow _ _ (Nat.le_refl _) _ _⟩
end Go.Proofs.YtfnkofcgjbakeaaDoor
