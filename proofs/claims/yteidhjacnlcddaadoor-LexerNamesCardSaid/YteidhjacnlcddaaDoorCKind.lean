/- The kind of a byte: contracts of inSymbol, of the closure in Kind, and of Kind. -/
import Derived.Test.YteidhjacnlcddaaDoorCPlain
import Derived.Test.YteidhjacnlcddaaDoorChecked
import Derived.WalkKit
import Derived.ProofKit
import Derived.Carry
import Derived.Lib.Hide
import Derived.Deep.QuietTactic
import Derived.BigQuiet
namespace Go.Proofs.YteidhjacnlcddaaDoor
open Go.ChangeShapes Go.WideShapes Go.ChangeAt Go.RowKit
set_option linter.unusedVariables false

theorem ret_bool' {a b : Bool} (h : a = b) : Ending.returned (.bool a) = .returned (.bool b) := by rw [h]
theorem ret_int' {k : IntKind} {a b : Int} (h : a = b) : Ending.returned (.int k a) = .returned (.int k b) := by rw [h]

theorem insym_yes (c : Int) (w : World) (h : c = 40 ∨ c = 41 ∨ c = 42 ∨ c = 43 ∨ c = 45 ∨ c = 60 ∨ c = 61 ∨ c = 62 ∨ c = 33) :
    Calls Tryd.prog 36 #[.int .u8 c] w fun e w' => e = .returned (.bool true) ∧ w = w' := by
  rcases h with rfl | rfl | rfl | rfl | rfl | rfl | rfl | rfl | rfl
  all_goals
    go_enter Tryd.func36, Tryd.ntmps36
    go_wp2
    go_ret
    exact ⟨rfl, rfl⟩
theorem insym_no (c : Int) (w : World) (h : ¬(c = 40 ∨ c = 41 ∨ c = 42 ∨ c = 43 ∨ c = 45 ∨ c = 60 ∨ c = 61 ∨ c = 62 ∨ c = 33)) :
    Calls Tryd.prog 36 #[.int .u8 c] w fun e w' => e = .returned (.bool false) ∧ w = w' := by
  simp only [not_or] at h
  obtain ⟨h1, h2, h3, h4, h5, h6, h7, h8, h9⟩ := h
  go_enter Tryd.func36, Tryd.ntmps36
  go_wp2
  go_ret
  exact ⟨rfl, rfl⟩

theorem within_any (a b c : Int) (p : Addr) (r : Bool) (w : World) (hc : w.cell? p = some (.int .u8 c)) (hr : r = true ↔ a ≤ c ∧ c ≤ b) :
    Calls Tryd.prog 35 #[.int .u8 a, .int .u8 b, .pointer (some p)] w fun e w' => e = .returned (.bool r) ∧ w = w' := by
  cases r
  · by_cases h : a ≤ c
    · have h2 : b < c := by
        have : ¬ (a ≤ c ∧ c ≤ b) := fun h' => by simpa using hr.2 h'
        omega
      have h3 : decide (c ≤ b) = false := by simpa using h2
      clear hr h2
      go_enter Tryd.func35, Tryd.ntmps35
      go_wp2
      go_ret
      exact ⟨rfl, rfl⟩
    · have h' : decide (a ≤ c) = false := by simpa using h
      clear hr h
      go_enter Tryd.func35, Tryd.ntmps35
      go_wp2
      go_ret
      exact ⟨rfl, rfl⟩
  · obtain ⟨h1, h2⟩ := hr.1 rfl
    clear hr
    go_enter Tryd.func35, Tryd.ntmps35
    go_wp2
    go_ret
    exact ⟨rfl, rfl⟩

def Win (a b c : Int) (r : Bool) : Prop := r = true ↔ a ≤ c ∧ c ≤ b
theorem within_at (a b c : Int) (r : Bool) (w : World) (hr : Win a b c r) :
    Calls Tryd.prog 35 #[.int .u8 a, .int .u8 b, .pointer (some ⟨w.heap.size, 0, none⟩)] (w.alloc (.cells #[.int .u8 c] 5)) fun e w' => e = .returned (.bool r) ∧ w.alloc (.cells #[.int .u8 c] 5) = w' :=
  within_any a b c _ r _ (by go_simp) hr

theorem kind_b (c : Int) (w : World) (hb : c = 32 ∨ c = 10) :
    Calls Tryd.prog 21 #[.int .u8 c] w fun e w' => e = .returned (.int .u8 (kindI c)) ∧ Below w.heap.size w w' := by
  rw [kind_blank c hb]
  rcases hb with rfl | rfl
  all_goals
    go_enter Tryd.func21, Tryd.ntmps21
    go_wp2
    go_ret
    exact ⟨rfl, (Below.refl _ _).alloc (Nat.le_refl _) _⟩
theorem kind_d (c : Int) (w : World) (h0 : ¬(c = 32 ∨ c = 10)) (hd : 48 ≤ c ∧ c ≤ 57) :
    Calls Tryd.prog 21 #[.int .u8 c] w fun e w' => e = .returned (.int .u8 (kindI c)) ∧ Below w.heap.size w w' := by
  simp only [not_or] at h0
  obtain ⟨b1, b2⟩ := h0
  have e1 : (c == 32) = false := by simpa using b1
  have e2 : (c == 10) = false := by simpa using b2
  have HK := Lib.hid (kind_digit c hd.1 hd.2)
  have H1 : Win 48 57 c true := ⟨fun h => hd, fun h => rfl⟩
  clear hd b1 b2
  go_enter Tryd.func21, Tryd.ntmps21
  go_wp2_with (go_at_call 35; refine (within_at 48 57 c true _ H1).mono ?_; rintro e w' ⟨rfl, rfl⟩)
  go_ret
  exact ⟨ret_int' HK.out.symm, (Below.refl _ _).alloc (Nat.le_refl _) _⟩
theorem kind_l (c : Int) (w : World) (h0 : ¬(c = 32 ∨ c = 10)) (hd : ¬(48 ≤ c ∧ c ≤ 57)) (hl : 97 ≤ c ∧ c ≤ 122) :
    Calls Tryd.prog 21 #[.int .u8 c] w fun e w' => e = .returned (.int .u8 (kindI c)) ∧ Below w.heap.size w w' := by
  simp only [not_or] at h0
  obtain ⟨b1, b2⟩ := h0
  have e1 : (c == 32) = false := by simpa using b1
  have e2 : (c == 10) = false := by simpa using b2
  have HK := Lib.hid (kind_letter c hl.1 hl.2)
  have H1 : Win 48 57 c false := ⟨fun h => absurd h (by decide), fun h => absurd h hd⟩
  have H2 : Win 97 122 c true := ⟨fun h => hl, fun h => rfl⟩
  clear hd hl b1 b2
  go_enter Tryd.func21, Tryd.ntmps21
  go_wp2_with ((go_at_call 35; ((first | (with_reducible refine (within_at 48 57 c false _ H1).mono ?_) | (with_reducible refine (within_at 97 122 c true _ H2).mono ?_)); rintro e w' ⟨rfl, rfl⟩)))
  go_ret
  exact ⟨ret_int' HK.out.symm, (Below.refl _ _).alloc (Nat.le_refl _) _⟩
theorem kind_s (c : Int) (w : World) (h0 : ¬(c = 32 ∨ c = 10)) (hd : ¬(48 ≤ c ∧ c ≤ 57)) (hl : ¬(97 ≤ c ∧ c ≤ 122)) (hs : (c = 40 ∨ c = 41 ∨ c = 42 ∨ c = 43 ∨ c = 45 ∨ c = 60 ∨ c = 61 ∨ c = 62 ∨ c = 33)) :
    Calls Tryd.prog 21 #[.int .u8 c] w fun e w' => e = .returned (.int .u8 (kindI c)) ∧ Below w.heap.size w w' := by
  have h00 := h0
  simp only [not_or] at h0
  obtain ⟨b1, b2⟩ := h0
  have e1 : (c == 32) = false := by simpa using b1
  have e2 : (c == 10) = false := by simpa using b2
  have HK := Lib.hid (kind_symbol c hs)
  have H1 : Win 48 57 c false := ⟨fun h => absurd h (by decide), fun h => absurd h hd⟩
  have H2 : Win 97 122 c false := ⟨fun h => absurd h (by decide), fun h => absurd h hl⟩
  have HS := Lib.hid hs
  clear hd hl b1 b2 hs h00
  go_enter Tryd.func21, Tryd.ntmps21
  go_wp2_with (first | (go_at_call 35; ((first | (with_reducible refine (within_at 48 57 c false _ H1).mono ?_) | (with_reducible refine (within_at 97 122 c false _ H2).mono ?_)); rintro e w' ⟨rfl, rfl⟩)) | (go_at_call 36; refine (insym_yes c _ HS.out).mono ?_; rintro e w' ⟨rfl, rfl⟩))
  go_ret
  exact ⟨ret_int' HK.out.symm, (Below.refl _ _).alloc (Nat.le_refl _) _⟩
theorem kind_n (c : Int) (w : World) (h0 : ¬(c = 32 ∨ c = 10)) (hd : ¬(48 ≤ c ∧ c ≤ 57)) (hl : ¬(97 ≤ c ∧ c ≤ 122)) (hs : ¬(c = 40 ∨ c = 41 ∨ c = 42 ∨ c = 43 ∨ c = 45 ∨ c = 60 ∨ c = 61 ∨ c = 62 ∨ c = 33)) :
    Calls Tryd.prog 21 #[.int .u8 c] w fun e w' => e = .returned (.int .u8 (kindI c)) ∧ Below w.heap.size w w' := by
  have h00 := h0
  simp only [not_or] at h0
  obtain ⟨b1, b2⟩ := h0
  have e1 : (c == 32) = false := by simpa using b1
  have e2 : (c == 10) = false := by simpa using b2
  have HK := Lib.hid (kind_none c h00 hd hl hs)
  have H1 : Win 48 57 c false := ⟨fun h => absurd h (by decide), fun h => absurd h hd⟩
  have H2 : Win 97 122 c false := ⟨fun h => absurd h (by decide), fun h => absurd h hl⟩
  have HS := Lib.hid hs
  clear hd hl b1 b2 hs h00
  go_enter Tryd.func21, Tryd.ntmps21
  go_wp2_with (first | (go_at_call 35; ((first | (with_reducible refine (within_at 48 57 c false _ H1).mono ?_) | (with_reducible refine (within_at 97 122 c false _ H2).mono ?_)); rintro e w' ⟨rfl, rfl⟩)) | (go_at_call 36; refine (insym_no c _ HS.out).mono ?_; rintro e w' ⟨rfl, rfl⟩))
  go_ret
  exact ⟨ret_int' HK.out.symm, (Below.refl _ _).alloc (Nat.le_refl _) _⟩
theorem kind_any (c : Int) (w : World)  :
    Calls Tryd.prog 21 #[.int .u8 c] w fun e w' => e = .returned (.int .u8 (kindI c)) ∧ Below w.heap.size w w' := by
  by_cases h0 : c = 32 ∨ c = 10
  · exact kind_b c w h0
  · by_cases hd : 48 ≤ c ∧ c ≤ 57
    · exact kind_d c w h0 hd
    · by_cases hl : 97 ≤ c ∧ c ≤ 122
      · exact kind_l c w h0 hd hl
      · by_cases hs : (c = 40 ∨ c = 41 ∨ c = 42 ∨ c = 43 ∨ c = 45 ∨ c = 60 ∨ c = 61 ∨ c = 62 ∨ c = 33)
        · exact kind_s c w h0 hd hl hs
        · exact kind_n c w h0 hd hl hs
end Go.Proofs.YteidhjacnlcddaaDoor
