/- Tokens of a text, in plain mathematics: no program is imported but for the facts on bytes. -/
import Derived.Test.YteidhjacnlcddaaDoorCPlain
namespace Go.Proofs.YteidhjacnlcddaaDoor
open Go.RowKit
set_option linter.unusedVariables false

def isDig (c : UInt8) : Bool := 48 ≤ c && c ≤ 57
def allDig (l : List UInt8) : Bool := l.all isDig
def val (l : List UInt8) : Nat := l.foldl (fun n c => 10 * n + (c.toNat - 48)) 0
def rdE (l : List UInt8) : Int := if val l ≤ 9223372036854775807 then 0 else 16
/-- The error of Read, of whatever text. -/
def rdErr (l : List UInt8) : Int := if (allDig l && !l.isEmpty) = true then rdE l else 12

structure Tok where
  k : Int
  s : List UInt8
  a : Int
deriving DecidableEq

def kindB (c : UInt8) : Int := kindI (c.toNat : Int)
/-- How many bytes of a kind stand in front. -/
def spanK (k : Int) : List UInt8 → Nat
  | [] => 0
  | c :: r => if kindB c = k then spanK k r + 1 else 0
/-- The error of a token of a kind with a text. -/
def checkE (k : Int) (s : List UInt8) : Int :=
  if k = 1 then rdErr s else if k = 2 then (if isWord s then 0 else 32) else if k = 3 then (if longL s = s.length ∧ s ≠ [] then 0 else 32) else 32
/-- Kind and length of the token in front. -/
def ext : List UInt8 → Int × Nat
  | [] => (3, 0)
  | c :: r => if kindB c = 2 then (1, spanK 2 (c :: r)) else if kindB c = 3 then (2, spanK 3 (c :: r)) else (3, longL (c :: r))
def tkE (l : List UInt8) : Int := checkE (ext l).1 (l.take (ext l).2)

/-- The tokens from a place on, the place at which it ends, and the error there. -/
def lexF : Nat → List UInt8 → Nat → Nat → List Tok × Nat × Int
  | 0, _, p, _ => ([], p, 0)
  | f + 1, l, p, n =>
    let q := p + spanK 1 l
    let m := l.drop (spanK 1 l)
    if m = [] then ([], q, 0)
    else if n = 200 then ([], q, 4)
    else if tkE m ≠ 0 then ([], q, tkE m)
    else
      let r := lexF f (m.drop (ext m).2) (q + (ext m).2) (n + 1)
      (⟨(ext m).1, m.take (ext m).2, q⟩ :: r.1, r.2)

inductive Lex : List UInt8 → Nat → Nat → List Tok → Nat → Int → Prop
  | done {l p n} : l.drop (spanK 1 l) = [] → Lex l p n [] (p + spanK 1 l) 0
  | many {l p} : l.drop (spanK 1 l) ≠ [] → Lex l p 200 [] (p + spanK 1 l) 4
  | err {l p n} : l.drop (spanK 1 l) ≠ [] → n ≠ 200 → tkE (l.drop (spanK 1 l)) ≠ 0 → Lex l p n [] (p + spanK 1 l) (tkE (l.drop (spanK 1 l)))
  | tok {l p n m ts q e} : l.drop (spanK 1 l) = m → m ≠ [] → n ≠ 200 → tkE m = 0 → Lex (m.drop (ext m).2) (p + spanK 1 l + (ext m).2) (n + 1) ts q e →
      Lex l p n (⟨(ext m).1, m.take (ext m).2, ((p + spanK 1 l : Nat) : Int)⟩ :: ts) q e

/-! ### spans -/
theorem spanK_le (k : Int) (l : List UInt8) : spanK k l ≤ l.length := by
  induction l with
  | nil => exact Nat.le_refl _
  | cons c r ih => rw [spanK]; split <;> simp <;> omega
theorem spanK_cons (k : Int) (c : UInt8) (r : List UInt8) (h : kindB c = k) : spanK k (c :: r) = spanK k r + 1 := by rw [spanK, if_pos h]
theorem spanK_cons_not (k : Int) (c : UInt8) (r : List UInt8) (h : kindB c ≠ k) : spanK k (c :: r) = 0 := by rw [spanK, if_neg h]
theorem spanK_all (k : Int) (l : List UInt8) : ∀ c ∈ l.take (spanK k l), kindB c = k := by
  induction l with
  | nil => simp [spanK]
  | cons c r ih =>
    rw [spanK]
    split
    · rename_i h
      intro x hx
      rw [List.take_succ_cons, List.mem_cons] at hx
      rcases hx with rfl | hx
      · exact h
      · exact ih x hx
    · simp
theorem spanK_next (k : Int) (l : List UInt8) (c : UInt8) (r : List UInt8) (h : l.drop (spanK k l) = c :: r) : kindB c ≠ k := by
  induction l with
  | nil => simp [spanK] at h
  | cons x t ih =>
    rw [spanK] at h
    split at h
    · exact ih (by simpa using h)
    · rename_i hx
      simp only [List.drop_zero, List.cons.injEq] at h
      rw [← h.1]; exact hx
/-- A span, and what stands behind it, of another kind. -/
theorem spanK_append (k : Int) (b r : List UInt8) (hb : ∀ c ∈ b, kindB c = k) : spanK k (b ++ r) = b.length + spanK k r := by
  induction b with
  | nil => simp
  | cons c t ih =>
    rw [List.cons_append, spanK_cons k c _ (hb c (by simp)), ih (fun x hx => hb x (by simp [hx]))]
    simp; omega
theorem spanK_stop (k : Int) (r : List UInt8) (hr : ∀ c, r.head? = some c → kindB c ≠ k) : spanK k r = 0 := by
  cases r with
  | nil => rfl
  | cons c t => exact spanK_cons_not k c t (hr c rfl)
theorem spanK_drop (k : Int) (l : List UInt8) : spanK k (l.drop (spanK k l)) = 0 := by
  apply spanK_stop
  intro c hc
  cases h : l.drop (spanK k l) with
  | nil => rw [h] at hc; cases hc
  | cons x r =>
    rw [h] at hc
    simp only [List.head?_cons, Option.some.injEq] at hc
    subst hc
    exact spanK_next k l _ r h
theorem spanK_split (k : Int) (l : List UInt8) : ∃ b r, l = b ++ r ∧ b.length = spanK k l ∧ (∀ c ∈ b, kindB c = k) ∧ (∀ c, r.head? = some c → kindB c ≠ k) ∧ r = l.drop (spanK k l) :=
  ⟨l.take (spanK k l), l.drop (spanK k l), (List.take_append_drop _ _).symm, by rw [List.length_take]; have := spanK_le k l; omega, spanK_all k l, by
    intro c hc
    cases h : l.drop (spanK k l) with
    | nil => rw [h] at hc; cases hc
    | cons x r =>
      rw [h] at hc
      simp only [List.head?_cons, Option.some.injEq] at hc
      subst hc
      exact spanK_next k l _ r h, rfl⟩

/-! ### symbols -/
def blankB (c : UInt8) : Prop := kindB c = 1
theorem sym_facts : ∀ x ∈ symL, (x.length = 1 ∨ x.length = 2) ∧ (∀ c ∈ x, kindB c = 4) := by decide
theorem longIn_le (L : List (List UInt8)) (l : List UInt8) : longIn L l ≤ l.length := by
  induction L with
  | nil => exact Nat.zero_le _
  | cons x r ih =>
    rw [longIn]
    split
    · rename_i h; exact ((isPrefixOf_iff_take x l).1 h).1
    · exact ih
theorem longL_le (l : List UInt8) : longL l ≤ l.length := longIn_le _ _
theorem longIn_two (L : List (List UInt8)) (hL : ∀ x ∈ L, x.length = 1 ∨ x.length = 2) (l : List UInt8) : longIn L l ≤ 2 := by
  induction L with
  | nil => exact Nat.zero_le _
  | cons x r ih =>
    rw [longIn]
    split
    · have := hL x (by simp); omega
    · exact ih fun y hy => hL y (by simp [hy])
theorem longL_two (l : List UInt8) : longL l ≤ 2 := longIn_two _ (fun x hx => (sym_facts x hx).1) l
/-- Only the first two bytes count. -/
theorem longIn_take (L : List (List UInt8)) (hL : ∀ x ∈ L, x.length = 1 ∨ x.length = 2) (l : List UInt8) : longIn L (l.take 2) = longIn L l := by
  induction L with
  | nil => rfl
  | cons x r ih =>
    have hx := hL x (by simp)
    have e : x.isPrefixOf (l.take 2) = x.isPrefixOf l := by
      rw [Bool.eq_iff_iff, isPrefixOf_iff_take, isPrefixOf_iff_take, List.take_take, List.length_take, show min x.length 2 = x.length by omega]
      constructor
      · rintro ⟨h1, h2⟩; exact ⟨by omega, h2⟩
      · rintro ⟨h1, h2⟩; exact ⟨by omega, h2⟩
    rw [longIn, longIn, e, ih fun y hy => hL y (by simp [hy])]
theorem longL_take (l : List UInt8) : longL (l.take 2) = longL l := longIn_take _ (fun x hx => (sym_facts x hx).1) l
theorem longL_nil : longL [] = 0 := by decide
/-- A symbol of one byte, or of two, by its own bytes. -/
theorem longIn_mem (L : List (List UInt8)) (l : List UInt8) (h : longIn L l ≠ 0) : ∃ x ∈ L, x.length = longIn L l ∧ l.take (longIn L l) = x := by
  induction L with
  | nil => exact absurd rfl h
  | cons x r ih =>
    rw [longIn] at h ⊢
    split
    · rename_i hp
      exact ⟨x, by simp, rfl, ((isPrefixOf_iff_take x l).1 hp).2⟩
    · rename_i hp
      rw [if_neg hp] at h
      obtain ⟨y, hy, h1, h2⟩ := ih h
      exact ⟨y, by simp [hy], h1, h2⟩
theorem longL_mem (l : List UInt8) (h : longL l ≠ 0) : l.take (longL l) ∈ symL := by
  obtain ⟨x, hx, h1, h2⟩ := longIn_mem symL l h
  show l.take (longIn symL l) ∈ symL
  rw [h2]; exact hx
theorem long_self : ∀ x ∈ symL, longL x = x.length := by decide
theorem longL_own (l : List UInt8) : longL (l.take (longL l)) = longL l := by
  by_cases h : longL l = 0
  · rw [h, List.take_zero]; rfl
  · rw [long_self _ (longL_mem l h), List.length_take]
    have := longL_le l
    omega
end Go.Proofs.YteidhjacnlcddaaDoor
