/- Plain facts on the longest symbol: no program is imported. -/
import Derived.Test.YtbiaogkemglkcaaDoorCPlain
namespace Go.Proofs.YtbiaogkemglkcaaDoor
open Go.RowKit
set_option linter.unusedVariables false

theorem all_u8 {P : UInt8 → Prop} (h : ∀ n : Nat, n < 256 → P (UInt8.ofNat n)) (b : UInt8) : P b := by
  have := h b.toNat (UInt8.toNat_lt b)
  rwa [UInt8.ofNat_toNat] at this
def symB (b : UInt8) : Bool := b == 40 || b == 41 || b == 42 || b == 43 || b == 45 || b == 60 || b == 61 || b == 62 || b == 33
theorem symB_kind (b : UInt8) : symB b = decide (kindI b.toNat = 4) := by
  revert b; exact all_u8 (by decide +kernel)
def two (a b : UInt8) : Bool := (a == 60 && (b == 61 || b == 60)) || (a == 62 && (b == 61 || b == 62)) || (a == 33 && b == 61)
def one (a : UInt8) : Bool := symB a && a != 33
theorem longL_one (a : UInt8) : longL [a] = if one a then 1 else 0 := by
  revert a; exact all_u8 (by decide +kernel)
theorem longL_tail (a b : UInt8) (l : List UInt8) : longL (a :: b :: l) = longL [a, b] := by
  simp [longL, longIn, symL, List.isPrefixOf]
theorem longL_non (a b : UInt8) (h : symB a = false) : longL [a, b] = 0 := by
  simp only [symB, Bool.or_eq_false_iff, beq_eq_false_iff_ne] at h
  obtain ⟨⟨⟨⟨⟨⟨⟨⟨h1, h2⟩, h3⟩, h4⟩, h5⟩, h6⟩, h7⟩, h8⟩, h9⟩ := h
  simp [longL, longIn, symL, List.isPrefixOf, Ne.symm h1, Ne.symm h2, Ne.symm h3, Ne.symm h4, Ne.symm h5, Ne.symm h6, Ne.symm h7, Ne.symm h8, Ne.symm h9]
theorem symB_cases (a : UInt8) (h : symB a = true) : a = 40 ∨ a = 41 ∨ a = 42 ∨ a = 43 ∨ a = 45 ∨ a = 60 ∨ a = 61 ∨ a = 62 ∨ a = 33 := by
  simpa [symB, or_assoc] using h
theorem longL_pair (a b : UInt8) : longL [a, b] = if two a b then 2 else if one a then 1 else 0 := by
  cases h : symB a
  · rw [longL_non a b h]
    have h2 : two a b = false := by
      revert h; revert a; refine all_u8 (fun n hn => ?_)
      intro h
      simp only [symB, Bool.or_eq_false_iff, beq_eq_false_iff_ne] at h
      obtain ⟨⟨⟨⟨⟨⟨⟨⟨h1, h2⟩, h3⟩, h4⟩, h5⟩, h6⟩, h7⟩, h8⟩, h9⟩ := h
      simp [two, h6, h8, h9]
    rw [h2, one, h]; rfl
  · rcases symB_cases a h with h | h | h | h | h | h | h | h | h <;> subst h <;> (revert b; exact all_u8 (by decide +kernel))
theorem two_sym (a b : UInt8) (h : two a b = true) : symB a = true ∧ symB b = true := by
  simp only [two, Bool.or_eq_true, Bool.and_eq_true, beq_iff_eq] at h
  rcases h with (⟨rfl, rfl | rfl⟩ | ⟨rfl, rfl | rfl⟩) | ⟨rfl, rfl⟩ <;> decide
theorem long_le (l : List UInt8) : longL l = 0 ∨ longL l = 1 ∨ longL l = 2 := by
  match l with
  | [] => exact Or.inl rfl
  | [a] => rw [longL_one]; split <;> simp
  | a :: b :: r => rw [longL_tail, longL_pair]; split <;> (try split) <;> simp
theorem long_facts2 (l : List UInt8) (h : longL l = 2) : ∃ a b r, l = a :: b :: r ∧ kindI a.toNat = 4 ∧ kindI b.toNat = 4 ∧ ∀ m, longL (a :: b :: m) = 2 := by
  match l, h with
  | [], h => cases h
  | [a], h => rw [longL_one] at h; split at h <;> cases h
  | a :: b :: r, h =>
    rw [longL_tail] at h
    have h0 := h
    rw [longL_pair] at h
    cases ht : two a b
    · rw [ht] at h; split at h <;> simp_all <;> split at h <;> cases h
    · obtain ⟨h1, h2⟩ := two_sym a b ht
      rw [symB_kind, decide_eq_true_eq] at h1 h2
      exact ⟨a, b, r, rfl, h1, h2, fun m => by rw [longL_tail]; exact h0⟩
theorem long_facts1 (l : List UInt8) (h : longL l = 1) : ∃ a r, l = a :: r ∧ kindI a.toNat = 4 ∧ longL [a] = 1 ∧ (r = [] ∨ ∃ b r', r = b :: r' ∧ longL [a, b] = 1) := by
  have key : ∀ a, one a = true → kindI a.toNat = 4 ∧ longL [a] = 1 := by
    intro a ha
    refine ⟨?_, by rw [longL_one, ha]; rfl⟩
    have h1 : symB a = true := by simp only [one, Bool.and_eq_true] at ha; exact ha.1
    rwa [symB_kind, decide_eq_true_eq] at h1
  match l, h with
  | [], h => cases h
  | [a], h =>
    have h0 := h
    rw [longL_one] at h
    cases ha : one a
    · rw [ha] at h; cases h
    · exact ⟨a, [], rfl, (key a ha).1, h0, Or.inl rfl⟩
  | a :: b :: r, h =>
    rw [longL_tail] at h
    have h0 := h
    rw [longL_pair] at h
    cases ht : two a b
    · rw [ht] at h
      cases ha : one a
      · rw [ha] at h; cases h
      · exact ⟨a, b :: r, rfl, (key a ha).1, (key a ha).2, Or.inr ⟨b, r, rfl, h0⟩⟩
    · rw [ht] at h; cases h
theorem long_facts0 (l : List UInt8) (h : longL l = 0) : l = [] ∨ ∃ a r, l = a :: r ∧ (kindI a.toNat ≠ 4 ∨ a = 33) := by
  have key : ∀ a, one a = false → kindI a.toNat ≠ 4 ∨ a = 33 := by
    intro a ha
    cases hs : symB a
    · rw [symB_kind, decide_eq_false_iff_not] at hs; exact Or.inl hs
    · simp only [one, hs, Bool.true_and, bne_eq_false_iff_eq] at ha; exact Or.inr ha
  match l, h with
  | [], h => exact Or.inl rfl
  | [a], h =>
    rw [longL_one] at h
    cases ha : one a
    · exact Or.inr ⟨a, [], rfl, key a ha⟩
    · rw [ha] at h; cases h
  | a :: b :: r, h =>
    rw [longL_tail, longL_pair] at h
    cases ht : two a b
    · rw [ht] at h
      cases ha : one a
      · exact Or.inr ⟨a, b :: r, rfl, key a ha⟩
      · rw [ha] at h; cases h
    · rw [ht] at h; cases h
end Go.Proofs.YtbiaogkemglkcaaDoor
