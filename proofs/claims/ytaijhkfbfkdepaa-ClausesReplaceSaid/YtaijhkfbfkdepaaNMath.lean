
/- Expressions as lists of nodes, in plain mathematics: no program is imported. -/
import Init
namespace Go.Proofs.Ytaijhkfbfkdepaa.N4
set_option linter.unusedVariables false

structure Nd where
  k : Int
  n : Int
  a : Int
  b : Int
  p : Int
deriving DecidableEq
structure Ex where
  s : Nat
  d : Nat
deriving DecidableEq

def cnt (k : Int) : Int := if k ≤ 4 then 0 else if k ≤ 6 then 1 else 2
def okK (k : Int) : Bool := decide (1 ≤ k) && decide (k ≤ 19)
def fitsF (k n p : Int) : Bool := decide (0 ≤ n) && (decide (n = 0) || decide (k = 1)) && decide (0 ≤ p) && decide (p ≤ 400)
/-- The extent of a node of a kind behind others, and its A and B. -/
def need (E : List Ex) (k : Int) : Option (Ex × Int × Int) :=
  if k ≤ 4 then some (⟨1, 1⟩, 0, 0)
  else match E[E.length - 1]? with
    | none => none
    | some e =>
      if k ≤ 6 then some (⟨1 + e.s, e.d + 1⟩, (E.length : Int) - 1, 0)
      else if E.length - 1 < e.s then none
      else match E[E.length - 1 - e.s]? with
        | none => none
        | some f => some (⟨1 + e.s + f.s, max (e.d + 1) (f.d + 1)⟩, (E.length : Int) - 1 - e.s, (E.length : Int) - 1)
def nextF (E : List Ex) (x : Nd) : Option Ex :=
  if (okK x.k && fitsF x.k x.n x.p) = true then
    match need E x.k with
    | none => none
    | some (y, a, b) => if x.a = a ∧ x.b = b then some y else none
  else none
def extG : List Ex → List Nd → Option (List Ex)
  | E, [] => some E
  | E, x :: r => match nextF E x with | none => none | some y => extG (E ++ [y]) r
def extF (L : List Nd) : Option (List Ex) := extG [] L
def checkE (n : Nat) (E : List Ex) : Int := match E[n - 1]? with | none => 8 | some e => if e.s < n then 8 else if 20 < e.d then 34 else 0
def checkF (L : List Nd) : Int := if 60 < L.length then 4 else match extF L with | none => 8 | some E => checkE L.length E

def shift (d : Int) (x : Nd) : Nd := { x with a := if 0 < cnt x.k then x.a + d else x.a, b := if 1 < cnt x.k then x.b + d else x.b }
def unp (x : Nd) : Nd := { x with p := 0 }

/-! ### the extents of a list -/
theorem extG_append (L1 L2 : List Nd) : ∀ E, extG E (L1 ++ L2) = (extG E L1).bind fun E1 => extG E1 L2 := by
  induction L1 with
  | nil => intro E; rfl
  | cons x r ih =>
    intro E
    rw [List.cons_append, extG, extG]
    cases nextF E x with
    | none => rfl
    | some y => exact ih _
theorem extF_snoc {L : List Nd} {E : List Ex} (h : extF L = some E) (x : Nd) : extF (L ++ [x]) = (nextF E x).map fun y => E ++ [y] := by
  unfold extF at *
  rw [extG_append, h, Option.bind_some, extG]
  cases nextF E x <;> rfl
theorem extG_length : ∀ (L : List Nd) (E F : List Ex), extG E L = some F → F.length = E.length + L.length := by
  intro L
  induction L with
  | nil => intro E F h; injection h with h; subst h; rfl
  | cons x r ih =>
    intro E F h
    rw [extG] at h
    cases hn : nextF E x with
    | none => rw [hn] at h; cases h
    | some y =>
      rw [hn] at h
      have := ih _ _ h
      rw [List.length_append, List.length_singleton] at this
      rw [List.length_cons]; omega
theorem extF_length {L : List Nd} {E : List Ex} (h : extF L = some E) : E.length = L.length := by
  have := extG_length L [] E h
  simpa using this
theorem extF_split {L : List Nd} {k : Nat} {x : Nd} (hk : L[k]? = some x) : L = L.take k ++ [x] ++ L.drop (k + 1) ∧ L.take (k + 1) = L.take k ++ [x] := by
  obtain ⟨hlt, e⟩ := List.getElem?_eq_some_iff.1 hk
  have h1 : L.take (k + 1) = L.take k ++ [x] := by rw [List.take_succ_eq_append_getElem hlt, e]
  exact ⟨by rw [← h1, List.take_append_drop], h1⟩
theorem extF_none {L : List Nd} {k : Nat} {x : Nd} {E : List Ex} (hk : L[k]? = some x) (hE : extF (L.take k) = some E) (hn : nextF E x = none) : extF L = none := by
  rw [(extF_split hk).1, extF, extG_append, show extG [] (L.take k ++ [x]) = none by have := extF_snoc hE x; rw [hn] at this; exact this]
  rfl
theorem extF_step {L : List Nd} {k : Nat} {x : Nd} {E : List Ex} {y : Ex} (hk : L[k]? = some x) (hE : extF (L.take k) = some E) (hn : nextF E x = some y) : extF (L.take (k + 1)) = some (E ++ [y]) := by
  rw [(extF_split hk).2, extF_snoc hE, hn]
  rfl

/-- By places: each extent is that of its node behind those in front. -/
def Ext (L : List Nd) (E : List Ex) : Prop := E.length = L.length ∧ ∀ (i : Nat) (x : Nd) (y : Ex), L[i]? = some x → E[i]? = some y → nextF (E.take i) x = some y
theorem ext_of : ∀ (L : List Nd) (E F : List Ex), extG E L = some F → F.take E.length = E ∧ ∀ (i : Nat) (x : Nd) (y : Ex), L[i]? = some x → F[E.length + i]? = some y → nextF (F.take (E.length + i)) x = some y := by
  intro L
  induction L with
  | nil => intro E F h; injection h with h; subst h; exact ⟨List.take_length, by intro i x y hx; simp at hx⟩
  | cons x r ih =>
    intro E F h
    rw [extG] at h
    cases hn : nextF E x with
    | none => rw [hn] at h; cases h
    | some y =>
      rw [hn] at h
      obtain ⟨h1, h2⟩ := ih _ _ h
      rw [List.length_append, List.length_singleton] at h1 h2
      have h3 : F.take E.length = E := by
        have := congrArg (List.take E.length) h1
        rw [List.take_take, List.take_left, Nat.min_eq_left (by omega)] at this
        exact this
      refine ⟨h3, fun i x' y' hx hy => ?_⟩
      cases i with
      | zero =>
        simp only [List.getElem?_cons_zero, Option.some.injEq] at hx
        subst hx
        rw [Nat.add_zero, h3, hn]
        have := congrArg (fun l => l[E.length]?) h1
        simp only [List.getElem?_concat_length, List.getElem?_take] at this
        rw [if_pos (by omega)] at this
        rw [Nat.add_zero, this] at hy
        exact hy
      | succ i =>
        rw [List.getElem?_cons_succ] at hx
        have := h2 i x' y' hx (by rw [show E.length + 1 + i = E.length + (i + 1) by omega]; exact hy)
        rwa [show E.length + 1 + i = E.length + (i + 1) by omega] at this
theorem Ext.of {L : List Nd} {E : List Ex} (h : extF L = some E) : Ext L E := by
  obtain ⟨_, h2⟩ := ext_of L [] E h
  refine ⟨extF_length h, fun i x y hx hy => ?_⟩
  have := h2 i x y hx (by simpa using hy)
  simpa using this
theorem Ext.take {L : List Nd} {E : List Ex} (h : Ext L E) (k : Nat) : extF (L.take k) = some (E.take k) := by
  induction k with
  | zero => rfl
  | succ k ih =>
    rcases Nat.lt_or_ge k L.length with hk | hk
    · have hkE : k < E.length := by rw [h.1]; exact hk
      have hx : L[k]? = some L[k] := List.getElem?_eq_getElem hk
      have hy : E[k]? = some E[k] := List.getElem?_eq_getElem hkE
      rw [extF_step hx ih (h.2 k _ _ hx hy), List.take_succ_eq_append_getElem hkE]
    · rw [List.take_of_length_le (by omega), List.take_of_length_le (by rw [h.1]; omega)]
      rwa [List.take_of_length_le hk, List.take_of_length_le (by rw [h.1]; omega)] at ih
theorem Ext.ext {L : List Nd} {E : List Ex} (h : Ext L E) : extF L = some E := by
  have := h.take L.length
  rwa [List.take_length, List.take_of_length_le (by rw [h.1]; exact Nat.le_refl _)] at this

theorem nextF_some {E : List Ex} {x : Nd} {y : Ex} (h : nextF E x = some y) : okK x.k = true ∧ fitsF x.k x.n x.p = true ∧ need E x.k = some (y, x.a, x.b) := by
  unfold nextF at h
  split at h
  · rename_i h0
    rw [Bool.and_eq_true] at h0
    cases hn : need E x.k with
    | none => rw [hn] at h; cases h
    | some r =>
      obtain ⟨z, a, b⟩ := r
      rw [hn] at h
      simp only at h
      split at h
      · rename_i hab
        injection h with h
        rw [h, hab.1, hab.2]
        exact ⟨h0.1, h0.2, rfl⟩
      · cases h
  · cases h
theorem nextF_mk {E : List Ex} {x : Nd} {y : Ex} (h1 : okK x.k = true) (h2 : fitsF x.k x.n x.p = true) (h3 : need E x.k = some (y, x.a, x.b)) : nextF E x = some y := by
  unfold nextF
  rw [h1, h2, h3]
  simp
theorem nextF_bad {E : List Ex} {x : Nd} (h : (okK x.k && fitsF x.k x.n x.p) = false) : nextF E x = none := by
  unfold nextF; rw [h]; rfl
theorem nextF_no {E : List Ex} {x : Nd} {y : Ex} {a b : Int} (h3 : need E x.k = some (y, a, b)) (h : ¬(x.a = a ∧ x.b = b)) : nextF E x = none := by
  unfold nextF; rw [h3]; simp only; rw [if_neg h]; split <;> rfl
theorem nextF_needNone {E : List Ex} {x : Nd} (h3 : need E x.k = none) : nextF E x = none := by
  unfold nextF; rw [h3]; split <;> rfl

/-- Sizes are right: no expression begins in front of the list. -/
def SzOk (E : List Ex) : Prop := ∀ i y, E[i]? = some y → 1 ≤ y.s ∧ y.s ≤ i + 1 ∧ 1 ≤ y.d ∧ y.d ≤ y.s
theorem need_leaf {E : List Ex} {k : Int} (h : k ≤ 4) : need E k = some (⟨1, 1⟩, 0, 0) := by unfold need; rw [if_pos h]
theorem need_some {E : List Ex} {k : Int} {y : Ex} {a b : Int} (h : need E k = some (y, a, b)) :
    (k ≤ 4 ∧ y = ⟨1, 1⟩ ∧ a = 0 ∧ b = 0) ∨
    (4 < k ∧ k ≤ 6 ∧ ∃ e, E[E.length - 1]? = some e ∧ 1 ≤ E.length ∧ y = ⟨1 + e.s, e.d + 1⟩ ∧ a = (E.length : Int) - 1 ∧ b = 0) ∨
    (6 < k ∧ ∃ e f, E[E.length - 1]? = some e ∧ 1 ≤ E.length ∧ e.s ≤ E.length - 1 ∧ E[E.length - 1 - e.s]? = some f ∧ y = ⟨1 + e.s + f.s, max (e.d + 1) (f.d + 1)⟩ ∧ a = (E.length : Int) - 1 - e.s ∧ b = (E.length : Int) - 1) := by
  unfold need at h
  split at h
  · rename_i hk
    injection h with h
    injection h with h1 h
    injection h with h2 h3
    exact .inl ⟨hk, h1.symm, h2.symm, h3.symm⟩
  · rename_i hk
    refine .inr ?_
    cases he : E[E.length - 1]? with
    | none => rw [he] at h; cases h
    | some e =>
      have hl : 1 ≤ E.length := by have := (List.getElem?_eq_some_iff.1 he).1; omega
      rw [he] at h
      simp only at h
      split at h
      · rename_i h6
        injection h with h
        injection h with h1 h
        injection h with h2 h3
        exact .inl ⟨by omega, h6, e, rfl, hl, h1.symm, h2.symm, h3.symm⟩
      · rename_i h6
        split at h
        · cases h
        · rename_i hs
          cases hf : E[E.length - 1 - e.s]? with
          | none => rw [hf] at h; cases h
          | some f =>
            rw [hf] at h
            simp only at h
            injection h with h
            injection h with h1 h
            injection h with h2 h3
            exact .inr ⟨by omega, e, f, rfl, hl, by omega, hf, h1.symm, h2.symm, h3.symm⟩
theorem need_one {E : List Ex} {k : Int} {e : Ex} (h4 : 4 < k) (h6 : k ≤ 6) (he : E[E.length - 1]? = some e) : need E k = some (⟨1 + e.s, e.d + 1⟩, (E.length : Int) - 1, 0) := by
  unfold need; rw [if_neg (by omega), he]; simp only; rw [if_pos h6]
theorem need_two {E : List Ex} {k : Int} {e f : Ex} (h6 : 6 < k) (he : E[E.length - 1]? = some e) (hs : e.s ≤ E.length - 1) (hf : E[E.length - 1 - e.s]? = some f) :
    need E k = some (⟨1 + e.s + f.s, max (e.d + 1) (f.d + 1)⟩, (E.length : Int) - 1 - e.s, (E.length : Int) - 1) := by
  unfold need; rw [if_neg (by omega), he]; simp only; rw [if_neg (by omega), if_neg (by omega), hf]
theorem need_none_nil {k : Int} (h4 : 4 < k) : need [] k = none := by
  unfold need; rw [if_neg (by omega)]; rfl
theorem need_none_big {E : List Ex} {k : Int} {e : Ex} (h6 : 6 < k) (he : E[E.length - 1]? = some e) (hs : E.length - 1 < e.s) : need E k = none := by
  unfold need; rw [if_neg (by omega), he]; simp only; rw [if_neg (by omega), if_pos hs]

theorem SzOk.snoc {E : List Ex} {k : Int} {y : Ex} {a b : Int} (h : SzOk E) (hn : need E k = some (y, a, b)) : SzOk (E ++ [y]) := by
  intro i z hz
  rcases Nat.lt_trichotomy i E.length with hi | hi | hi
  · rw [List.getElem?_append_left hi] at hz
    exact h i z hz
  · subst hi
    rw [List.getElem?_concat_length] at hz
    injection hz with hz
    subst hz
    rcases need_some hn with ⟨_, rfl, _, _⟩ | ⟨_, _, e, he, hl, rfl, _, _⟩ | ⟨_, e, f, he, hl, hs, hf, rfl, _, _⟩
    · exact ⟨Nat.le_refl _, by show 1 ≤ _; omega, Nat.le_refl _, Nat.le_refl _⟩
    · have := h _ _ he
      refine ⟨?_, ?_, ?_, ?_⟩ <;> simp only <;> omega
    · have h1 := h _ _ he
      have h2 := h _ _ hf
      refine ⟨?_, ?_, ?_, ?_⟩ <;> simp only <;> omega
  · rw [List.getElem?_eq_none (by simp; omega)] at hz
    cases hz
theorem extG_sz : ∀ (L : List Nd) (E F : List Ex), SzOk E → extG E L = some F → SzOk F := by
  intro L
  induction L with
  | nil => intro E F h0 h; injection h with h; subst h; exact h0
  | cons x r ih =>
    intro E F h0 h
    rw [extG] at h
    cases hn : nextF E x with
    | none => rw [hn] at h; cases h
    | some y =>
      rw [hn] at h
      exact ih _ _ (h0.snoc (nextF_some hn).2.2) h
theorem extF_sz {L : List Nd} {E : List Ex} (h : extF L = some E) : SzOk E := extG_sz L [] E (by intro i y hy; simp at hy) h

/-- A valid expression. -/
def Good4 (L : List Nd) (E : List Ex) : Prop := L ≠ [] ∧ L.length ≤ 60 ∧ extF L = some E ∧ ∃ e, E[L.length - 1]? = some e ∧ e.s = L.length ∧ e.d ≤ 20
theorem checkF_ok {L : List Nd} {E : List Ex} (h : Good4 L E) : checkF L = 0 := by
  obtain ⟨h1, h2, h3, e, h4, h5, h6⟩ := h
  unfold checkF
  rw [if_neg (by omega), h3]
  simp only [checkE]
  rw [h4]
  simp only
  rw [if_neg (by omega), if_neg (by omega)]
theorem checkF_zero {L : List Nd} (h : checkF L = 0) : ∃ E, Good4 L E := by
  unfold checkF at h
  split at h
  · cases h
  · rename_i hl
    cases hE : extF L with
    | none => rw [hE] at h; cases h
    | some E =>
      rw [hE] at h
      simp only [checkE] at h
      cases he : E[L.length - 1]? with
      | none => rw [he] at h; cases h
      | some e =>
        rw [he] at h
        simp only at h
        split at h
        · cases h
        · rename_i h1
          split at h
          · cases h
          · rename_i h2
            have hlt := (List.getElem?_eq_some_iff.1 he).1
            have hs := extF_sz hE _ _ he
            rw [extF_length hE] at hlt
            exact ⟨E, by intro h0; subst h0; simp at hlt, by omega, hE, e, he, by omega, by omega⟩
theorem checkF_vals (L : List Nd) : checkF L = 0 ∨ checkF L = 4 ∨ checkF L = 8 ∨ checkF L = 34 := by
  unfold checkF
  split
  · exact .inr (.inl rfl)
  · split
    · exact .inr (.inr (.inl rfl))
    · unfold checkE
      split
      · exact .inr (.inr (.inl rfl))
      · split
        · exact .inr (.inr (.inl rfl))
        · split
          · exact .inr (.inr (.inr rfl))
          · exact .inl rfl
theorem checkF_bad {L : List Nd} (h : L.length ≤ 60) (he : extF L = none) : checkF L = 8 := by
  unfold checkF; rw [if_neg (by omega), he]
theorem checkF_nil : checkF [] = 8 := rfl
end Go.Proofs.Ytaijhkfbfkdepaa.N4
