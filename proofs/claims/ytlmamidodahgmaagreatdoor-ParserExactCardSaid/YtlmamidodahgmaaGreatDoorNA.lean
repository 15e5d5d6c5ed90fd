/- Merged: NMath, NMem, NNext1, NNext2, NNext, NMeas, NMath2, NProg. -/
import Init
import Derived.Test.YtlmamidodahgmaaGreatDoorChecked
import Derived.WalkKit
import Derived.ProofKit
import Derived.Carry
import Derived.Lib.Hide
import Derived.Deep.QuietTactic
import Derived.BigQuiet
import Derived.Maps.AppendAt
import Derived.Deep.AppendLies
import Derived.Laws.OwnMore
import Derived.OwnWalk
import Derived.IntWalk
import Derived.Deep.RegionHeld3
import Derived.Laws.StructEq
import Derived.LoopTactic
import Derived.LoopN
import Derived.Outline
/- NMath: Expressions as lists of nodes, in plain mathematics: no program is imported. -/
namespace Go.Proofs.YtlmamidodahgmaaGreatDoor.N4
set_option linter.unusedVariables false

structure Nd where
  k : Int
  n : Int
  a : Int
  b : Int
  p : Int
deriving DecidableEq
structure Ex where
  s : Nat
  d : Nat
deriving DecidableEq

def cnt (k : Int) : Int := if k ≤ 4 then 0 else if k ≤ 6 then 1 else 2
def okK (k : Int) : Bool := decide (1 ≤ k) && decide (k ≤ 19)
def fitsF (k n p : Int) : Bool := decide (0 ≤ n) && (decide (n = 0) || decide (k = 1)) && decide (0 ≤ p) && decide (p ≤ 400)
/-- The extent of a node of a kind behind others, and its A and B. -/
def need (E : List Ex) (k : Int) : Option (Ex × Int × Int) :=
  if k ≤ 4 then some (⟨1, 1⟩, 0, 0)
  else match E[E.length - 1]? with
    | none => none
    | some e =>
      if k ≤ 6 then some (⟨1 + e.s, e.d + 1⟩, (E.length : Int) - 1, 0)
      else if E.length - 1 < e.s then none
      else match E[E.length - 1 - e.s]? with
        | none => none
        | some f => some (⟨1 + e.s + f.s, max (e.d + 1) (f.d + 1)⟩, (E.length : Int) - 1 - e.s, (E.length : Int) - 1)
def nextF (E : List Ex) (x : Nd) : Option Ex :=
  if (okK x.k && fitsF x.k x.n x.p) = true then
    match need E x.k with
    | none => none
    | some (y, a, b) => if x.a = a ∧ x.b = b then some y else none
  else none
def extG : List Ex → List Nd → Option (List Ex)
  | E, [] => some E
  | E, x :: r => match nextF E x with | none => none | some y => extG (E ++ [y]) r
def extF (L : List Nd) : Option (List Ex) := extG [] L
def checkE (n : Nat) (E : List Ex) : Int := match E[n - 1]? with | none => 8 | some e => if e.s < n then 8 else if 20 < e.d then 34 else 0
def checkF (L : List Nd) : Int := if 60 < L.length then 4 else match extF L with | none => 8 | some E => checkE L.length E

def shift (d : Int) (x : Nd) : Nd := { x with a := if 0 < cnt x.k then x.a + d else x.a, b := if 1 < cnt x.k then x.b + d else x.b }
def unp (x : Nd) : Nd := { x with p := 0 }

/-! ### the extents of a list -/
theorem extG_append (L1 L2 : List Nd) : ∀ E, extG E (L1 ++ L2) = (extG E L1).bind fun E1 => extG E1 L2 := by
  induction L1 with
  | nil => intro E; rfl
  | cons x r ih =>
    intro E
    rw [List.cons_append, extG, extG]
    cases nextF E x with
    | none => rfl
    | some y => exact ih _
theorem extF_snoc {L : List Nd} {E : List Ex} (h : extF L = some E) (x : Nd) : extF (L ++ [x]) = (nextF E x).map fun y => E ++ [y] := by
  unfold extF at *
  rw [extG_append, h, Option.bind_some, extG]
  cases nextF E x <;> rfl
theorem extG_length : ∀ (L : List Nd) (E F : List Ex), extG E L = some F → F.length = E.length + L.length := by
  intro L
  induction L with
  | nil => intro E F h; injection h with h; subst h; rfl
  | cons x r ih =>
    intro E F h
    rw [extG] at h
    cases hn : nextF E x with
    | none => rw [hn] at h; cases h
    | some y =>
      rw [hn] at h
      have := ih _ _ h
      rw [List.length_append, List.length_singleton] at this
      rw [List.length_cons]; omega
theorem extF_length {L : List Nd} {E : List Ex} (h : extF L = some E) : E.length = L.length := by
  have := extG_length L [] E h
  simpa using this
theorem extF_split {L : List Nd} {k : Nat} {x : Nd} (hk : L[k]? = some x) : L = L.take k ++ [x] ++ L.drop (k + 1) ∧ L.take (k + 1) = L.take k ++ [x] := by
  obtain ⟨hlt, e⟩ := List.getElem?_eq_some_iff.1 hk
  have h1 : L.take (k + 1) = L.take k ++ [x] := by rw [List.take_succ_eq_append_getElem hlt, e]
  exact ⟨by rw [← h1, List.take_append_drop], h1⟩
theorem extF_none {L : List Nd} {k : Nat} {x : Nd} {E : List Ex} (hk : L[k]? = some x) (hE : extF (L.take k) = some E) (hn : nextF E x = none) : extF L = none := by
  rw [(extF_split hk).1, extF, extG_append, show extG [] (L.take k ++ [x]) = none by have := extF_snoc hE x; rw [hn] at this; exact this]
  rfl
theorem extF_step {L : List Nd} {k : Nat} {x : Nd} {E : List Ex} {y : Ex} (hk : L[k]? = some x) (hE : extF (L.take k) = some E) (hn : nextF E x = some y) : extF (L.take (k + 1)) = some (E ++ [y]) := by
  rw [(extF_split hk).2, extF_snoc hE, hn]
  rfl

/-- By places: each extent is that of its node behind those in front. -/
def Ext (L : List Nd) (E : List Ex) : Prop := E.length = L.length ∧ ∀ (i : Nat) (x : Nd) (y : Ex), L[i]? = some x → E[i]? = some y → nextF (E.take i) x = some y
theorem ext_of : ∀ (L : List Nd) (E F : List Ex), extG E L = some F → F.take E.length = E ∧ ∀ (i : Nat) (x : Nd) (y : Ex), L[i]? = some x → F[E.length + i]? = some y → nextF (F.take (E.length + i)) x = some y := by
  intro L
  induction L with
  | nil => intro E F h; injection h with h; subst h; exact ⟨List.take_length, by intro i x y hx; simp at hx⟩
  | cons x r ih =>
    intro E F h
    rw [extG] at h
    cases hn : nextF E x with
    | none => rw [hn] at h; cases h
    | some y =>
      rw [hn] at h
      obtain ⟨h1, h2⟩ := ih _ _ h
      rw [List.length_append, List.length_singleton] at h1 h2
      have h3 : F.take E.length = E := by
        have := congrArg (List.take E.length) h1
        rw [List.take_take, List.take_left, Nat.min_eq_left (by omega)] at this
        exact this
      refine ⟨h3, fun i x' y' hx hy => ?_⟩
      cases i with
      | zero =>
        simp only [List.getElem?_cons_zero, Option.some.injEq] at hx
        subst hx
        rw [Nat.add_zero, h3, hn]
        have := congrArg (fun l => l[E.length]?) h1
        simp only [List.getElem?_concat_length, List.getElem?_take] at this
        rw [if_pos (by omega)] at this
        rw [Nat.add_zero, this] at hy
        exact hy
      | succ i =>
        rw [List.getElem?_cons_succ] at hx
        have := h2 i x' y' hx (by rw [show E.length + 1 + i = E.length + (i + 1) by omega]; exact hy)
        rwa [show E.length + 1 + i = E.length + (i + 1) by omega] at this
theorem Ext.of {L : List Nd} {E : List Ex} (h : extF L = some E) : Ext L E := by
  obtain ⟨_, h2⟩ := ext_of L [] E h
  refine ⟨extF_length h, fun i x y hx hy => ?_⟩
  have := h2 i x y hx (by simpa using hy)
  simpa using this
theorem Ext.take {L : List Nd} {E : List Ex} (h : Ext L E) (k : Nat) : extF (L.take k) = some (E.take k) := by
  induction k with
  | zero => rfl
  | succ k ih =>
    rcases Nat.lt_or_ge k L.length with hk | hk
    · have hkE : k < E.length := by rw [h.1]; exact hk
      have hx : L[k]? = some L[k] := List.getElem?_eq_getElem hk
      have hy : E[k]? = some E[k] := List.getElem?_eq_getElem hkE
      rw [extF_step hx ih (h.2 k _ _ hx hy), List.take_succ_eq_append_getElem hkE]
    · rw [List.take_of_length_le (by omega), List.take_of_length_le (by rw [h.1]; omega)]
      rwa [List.take_of_length_le hk, List.take_of_length_le (by rw [h.1]; omega)] at ih
theorem Ext.ext {L : List Nd} {E : List Ex} (h : Ext L E) : extF L = some E := by
  have := h.take L.length
  rwa [List.take_length, List.take_of_length_le (by rw [h.1]; exact Nat.le_refl _)] at this

theorem nextF_some {E : List Ex} {x : Nd} {y : Ex} (h : nextF E x = some y) : okK x.k = true ∧ fitsF x.k x.n x.p = true ∧ need E x.k = some (y, x.a, x.b) := by
  unfold nextF at h
  split at h
  · rename_i h0
    rw [Bool.and_eq_true] at h0
    cases hn : need E x.k with
    | none => rw [hn] at h; cases h
    | some r =>
      obtain ⟨z, a, b⟩ := r
      rw [hn] at h
      simp only at h
      split at h
      · rename_i hab
        injection h with h
        rw [h, hab.1, hab.2]
        exact ⟨h0.1, h0.2, rfl⟩
      · cases h
  · cases h
theorem nextF_mk {E : List Ex} {x : Nd} {y : Ex} (h1 : okK x.k = true) (h2 : fitsF x.k x.n x.p = true) (h3 : need E x.k = some (y, x.a, x.b)) : nextF E x = some y := by
  unfold nextF
  rw [h1, h2, h3]
  simp
theorem nextF_bad {E : List Ex} {x : Nd} (h : (okK x.k && fitsF x.k x.n x.p) = false) : nextF E x = none := by
  unfold nextF; rw [h]; rfl
theorem nextF_no {E : List Ex} {x : Nd} {y : Ex} {a b : Int} (h3 : need E x.k = some (y, a, b)) (h : ¬(x.a = a ∧ x.b = b)) : nextF E x = none := by
  unfold nextF; rw [h3]; simp only; rw [if_neg h]; split <;> rfl
theorem nextF_needNone {E : List Ex} {x : Nd} (h3 : need E x.k = none) : nextF E x = none := by
  unfold nextF; rw [h3]; split <;> rfl

/-- Sizes are right: no expression begins in front of the list. -/
def SzOk (E : List Ex) : Prop := ∀ i y, E[i]? = some y → 1 ≤ y.s ∧ y.s ≤ i + 1 ∧ 1 ≤ y.d ∧ y.d ≤ y.s
theorem need_leaf {E : List Ex} {k : Int} (h : k ≤ 4) : need E k = some (⟨1, 1⟩, 0, 0) := by unfold need; rw [if_pos h]
theorem need_some {E : List Ex} {k : Int} {y : Ex} {a b : Int} (h : need E k = some (y, a, b)) :
    (k ≤ 4 ∧ y = ⟨1, 1⟩ ∧ a = 0 ∧ b = 0) ∨
    (4 < k ∧ k ≤ 6 ∧ ∃ e, E[E.length - 1]? = some e ∧ 1 ≤ E.length ∧ y = ⟨1 + e.s, e.d + 1⟩ ∧ a = (E.length : Int) - 1 ∧ b = 0) ∨
    (6 < k ∧ ∃ e f, E[E.length - 1]? = some e ∧ 1 ≤ E.length ∧ e.s ≤ E.length - 1 ∧ E[E.length - 1 - e.s]? = some f ∧ y = ⟨1 + e.s + f.s, max (e.d + 1) (f.d + 1)⟩ ∧ a = (E.length : Int) - 1 - e.s ∧ b = (E.length : Int) - 1) := by
  unfold need at h
  split at h
  · rename_i hk
    injection h with h
    injection h with h1 h
    injection h with h2 h3
    exact .inl ⟨hk, h1.symm, h2.symm, h3.symm⟩
  · rename_i hk
    refine .inr ?_
    cases he : E[E.length - 1]? with
    | none => rw [he] at h; cases h
    | some e =>
      have hl : 1 ≤ E.length := by have := (List.getElem?_eq_some_iff.1 he).1; omega
      rw [he] at h
      simp only at h
      split at h
      · rename_i h6
        injection h with h
        injection h with h1 h
        injection h with h2 h3
        exact .inl ⟨by omega, h6, e, rfl, hl, h1.symm, h2.symm, h3.symm⟩
      · rename_i h6
        split at h
        · cases h
        · rename_i hs
          cases hf : E[E.length - 1 - e.s]? with
          | none => rw [hf] at h; cases h
          | some f =>
            rw [hf] at h
            simp only at h
            injection h with h
            injection h with h1 h
            injection h with h2 h3
            exact .inr ⟨by omega, e, f, rfl, hl, by omega, hf, h1.symm, h2.symm, h3.symm⟩
theorem need_one {E : List Ex} {k : Int} {e : Ex} (h4 : 4 < k) (h6 : k ≤ 6) (he : E[E.length - 1]? = some e) : need E k = some (⟨1 + e.s, e.d + 1⟩, (E.length : Int) - 1, 0) := by
  unfold need; rw [if_neg (by omega), he]; simp only; rw [if_pos h6]
theorem need_two {E : List Ex} {k : Int} {e f : Ex} (h6 : 6 < k) (he : E[E.length - 1]? = some e) (hs : e.s ≤ E.length - 1) (hf : E[E.length - 1 - e.s]? = some f) :
    need E k = some (⟨1 + e.s + f.s, max (e.d + 1) (f.d + 1)⟩, (E.length : Int) - 1 - e.s, (E.length : Int) - 1) := by
  unfold need; rw [if_neg (by omega), he]; simp only; rw [if_neg (by omega), if_neg (by omega), hf]
theorem need_none_nil {k : Int} (h4 : 4 < k) : need [] k = none := by
  unfold need; rw [if_neg (by omega)]; rfl
theorem need_none_big {E : List Ex} {k : Int} {e : Ex} (h6 : 6 < k) (he : E[E.length - 1]? = some e) (hs : E.length - 1 < e.s) : need E k = none := by
  unfold need; rw [if_neg (by omega), he]; simp only; rw [if_neg (by omega), if_pos hs]

theorem SzOk.snoc {E : List Ex} {k : Int} {y : Ex} {a b : Int} (h : SzOk E) (hn : need E k = some (y, a, b)) : SzOk (E ++ [y]) := by
  intro i z hz
  rcases Nat.lt_trichotomy i E.length with hi | hi | hi
  · rw [List.getElem?_append_left hi] at hz
    exact h i z hz
  · subst hi
    rw [List.getElem?_concat_length] at hz
    injection hz with hz
    subst hz
    rcases need_some hn with ⟨_, rfl, _, _⟩ | ⟨_, _, e, he, hl, rfl, _, _⟩ | ⟨_, e, f, he, hl, hs, hf, rfl, _, _⟩
    · exact ⟨Nat.le_refl _, by show 1 ≤ _; omega, Nat.le_refl _, Nat.le_refl _⟩
    · have := h _ _ he
      refine ⟨?_, ?_, ?_, ?_⟩ <;> simp only <;> omega
    · have h1 := h _ _ he
      have h2 := h _ _ hf
      refine ⟨?_, ?_, ?_, ?_⟩ <;> simp only <;> omega
  · rw [List.getElem?_eq_none (by simp; omega)] at hz
    cases hz
theorem extG_sz : ∀ (L : List Nd) (E F : List Ex), SzOk E → extG E L = some F → SzOk F := by
  intro L
  induction L with
  | nil => intro E F h0 h; injection h with h; subst h; exact h0
  | cons x r ih =>
    intro E F h0 h
    rw [extG] at h
    cases hn : nextF E x with
    | none => rw [hn] at h; cases h
    | some y =>
      rw [hn] at h
      exact ih _ _ (h0.snoc (nextF_some hn).2.2) h
theorem extF_sz {L : List Nd} {E : List Ex} (h : extF L = some E) : SzOk E := extG_sz L [] E (by intro i y hy; simp at hy) h

/-- A valid expression. -/
def Good4 (L : List Nd) (E : List Ex) : Prop := L ≠ [] ∧ L.length ≤ 60 ∧ extF L = some E ∧ ∃ e, E[L.length - 1]? = some e ∧ e.s = L.length ∧ e.d ≤ 20
theorem checkF_ok {L : List Nd} {E : List Ex} (h : Good4 L E) : checkF L = 0 := by
  obtain ⟨h1, h2, h3, e, h4, h5, h6⟩ := h
  unfold checkF
  rw [if_neg (by omega), h3]
  simp only [checkE]
  rw [h4]
  simp only
  rw [if_neg (by omega), if_neg (by omega)]
theorem checkF_zero {L : List Nd} (h : checkF L = 0) : ∃ E, Good4 L E := by
  unfold checkF at h
  split at h
  · cases h
  · rename_i hl
    cases hE : extF L with
    | none => rw [hE] at h; cases h
    | some E =>
      rw [hE] at h
      simp only [checkE] at h
      cases he : E[L.length - 1]? with
      | none => rw [he] at h; cases h
      | some e =>
        rw [he] at h
        simp only at h
        split at h
        · cases h
        · rename_i h1
          split at h
          · cases h
          · rename_i h2
            have hlt := (List.getElem?_eq_some_iff.1 he).1
            have hs := extF_sz hE _ _ he
            rw [extF_length hE] at hlt
            exact ⟨E, by intro h0; subst h0; simp at hlt, by omega, hE, e, he, by omega, by omega⟩
theorem checkF_vals (L : List Nd) : checkF L = 0 ∨ checkF L = 4 ∨ checkF L = 8 ∨ checkF L = 34 := by
  unfold checkF
  split
  · exact .inr (.inl rfl)
  · split
    · exact .inr (.inr (.inl rfl))
    · unfold checkE
      split
      · exact .inr (.inr (.inl rfl))
      · split
        · exact .inr (.inr (.inl rfl))
        · split
          · exact .inr (.inr (.inr rfl))
          · exact .inl rfl
theorem checkF_bad {L : List Nd} (h : L.length ≤ 60) (he : extF L = none) : checkF L = 8 := by
  unfold checkF; rw [if_neg (by omega), he]
theorem checkF_nil : checkF [] = 8 := rfl
end Go.Proofs.YtlmamidodahgmaaGreatDoor.N4

/- NMem: Nodes and extents in memory; contracts of Parts, fits, Count and the reference's Parts and Great. -/
namespace Go.Proofs.YtlmamidodahgmaaGreatDoor.N4
open Go.ChangeShapes Go.WideShapes Go.ChangeAt Go.RowKit
set_option linter.unusedVariables false

theorem ret_bool' {a b : Bool} (h : a = b) : Ending.returned (.bool a) = .returned (.bool b) := by rw [h]
theorem ret_int' {k : IntKind} {a b : Int} (h : a = b) : Ending.returned (.int k a) = .returned (.int k b) := by rw [h]
theorem Below.drewN' {B : Nat} {a w : World} (h : Below B a w) (n : Nat) : Below B a (w.drewN n) := ⟨h.os, h.tape, h.output, h.size, h.block⟩
theorem bd_drewN (w : World) (n : Nat) : Below w.heap.size w (w.drewN n) := Below.drewN' (Below.refl _ _) n
theorem bcell {W w1 : World} (hb : Below W.heap.size W w1) : (∀ b o, b < W.heap.size → w1.cell? ⟨b, o, none⟩ = W.cell? ⟨b, o, none⟩) ∧ (∀ b o, b < W.heap.size → w1.frozen? ⟨b, o, none⟩ = W.frozen? ⟨b, o, none⟩) :=
  ⟨fun b o h => hb.cell (p := ⟨b, o, none⟩) h, fun b o h => hb.frozen (p := ⟨b, o, none⟩) h⟩

/-! ### cells -/
theorem add_block (ad : Addr) (j : Nat) : (ad.add j).block = ad.block := by unfold Addr.add; split <;> rfl
theorem add_more (ad : Addr) (n i : Nat) (hi : 0 < i) : ad.add (n + i) = ⟨(ad.add n).block, (ad.add n).off + i, none⟩ := by
  unfold Addr.add
  rw [if_neg (by omega)]
  by_cases hn : n = 0
  · subst hn; simp
  · rw [if_neg hn]; simp; omega
theorem add_add' (a : Addr) (x y : Nat) : (a.add x).add y = a.add (x + y) := by
  unfold Addr.add; by_cases hx : x = 0 <;> by_cases hy : y = 0 <;> simp [hx, hy, Nat.add_assoc]

/-- A slice's cells. -/
def Lies (w : World) (A : Option Addr) (cs : List Value) : Prop :=
  cs = [] ∨ ∃ ad, A = some ad ∧ ad.block < w.heap.size ∧ ∀ j u, cs[j]? = some u → w.cell? (ad.add j) = some u
theorem Lies.below {w w' : World} {A : Option Addr} {cs : List Value} (h : Lies w A cs) (hb : Below w.heap.size w w') : Lies w' A cs := by
  rcases h with h | ⟨ad, h1, h2, h3⟩
  · exact .inl h
  · refine .inr ⟨ad, h1, Nat.lt_of_lt_of_le h2 hb.size, fun j u hu => ?_⟩
    rw [hb.cell (p := ad.add j) (by rw [add_block]; exact h2)]
    exact h3 j u hu
theorem own_below {w w' : World} {base : Nat} {e : TypeId} {size : Nat} {v : Value} {n : Nat} {xs : List Value} (h : w.ownsRow base e size v n xs) (hb : Below w.heap.size w w') : w'.ownsRow base e size v n xs :=
  h.kept (row := none) ⟨hb.os, hb.tape, hb.output, hb.size, fun k hk _ => hb.block k hk⟩ (by cases v.ownBlock <;> simp)
theorem own_form {w : World} {base : Nat} {e : TypeId} {size : Nat} {v : Value} {n : Nat} {xs : List Value} (h : w.ownsRow base e size v n xs) : ∃ A c, v = .slice A n c ∧ n ≤ c ∧ n ≤ maxLen := by
  rcases h.2 with ⟨rfl, rfl⟩ | ⟨g, cap, cur, rfl, _, _, h1, h2, _⟩
  · exact ⟨none, 0, rfl, Nat.le_refl _, Nat.zero_le _⟩
  · exact ⟨_, _, rfl, by omega, by omega⟩
theorem Lies.of_own {w : World} {base : Nat} {e : TypeId} {size n : Nat} {A : Option Addr} {c : Nat} {cs : List Value} (h : w.ownsRow base e size (.slice A n c) n cs) (h0 : n = 0 → cs = []) : Lies w A cs := by
  rcases Nat.eq_zero_or_pos n with hn | hn
  · exact .inl (h0 hn)
  · obtain ⟨g, cap, hv, _, hlt⟩ := h.form hn
    injection hv with hA
    subst hA
    exact .inr ⟨_, rfl, hlt, h.cells (g := g) rfl⟩

def ndC (x : Nd) : List Value := [.int .u8 x.k, .int .i64 x.n, .int .i64 x.a, .int .i64 x.b, .int .i64 x.p]
abbrev ndV (x : Nd) : Value := .agg #[.int .u8 x.k, .int .i64 x.n, .int .i64 x.a, .int .i64 x.b, .int .i64 x.p]
def ndCells (L : List Nd) : List Value := L.flatMap ndC
def exC (y : Ex) : List Value := [.int .i64 (y.s : Int), .int .i64 (y.d : Int)]
def exCells (E : List Ex) : List Value := E.flatMap exC
def sCells (E : List Ex) : List Value := E.map fun y => .int .i64 (y.s : Int)
def dCells (E : List Ex) : List Value := E.map fun y => .int .i64 (y.d : Int)
theorem ndCells_length (L : List Nd) : (ndCells L).length = L.length * 5 := by
  induction L with
  | nil => rfl
  | cons t r ih => rw [ndCells, List.flatMap_cons, List.length_append]; show 5 + (ndCells r).length = _; rw [ih, List.length_cons]; omega
theorem exCells_length (E : List Ex) : (exCells E).length = E.length * 2 := by
  induction E with
  | nil => rfl
  | cons t r ih => rw [exCells, List.flatMap_cons, List.length_append]; show 2 + (exCells r).length = _; rw [ih, List.length_cons]; omega
theorem ndCells_append (L M : List Nd) : ndCells (L ++ M) = ndCells L ++ ndCells M := by simp [ndCells]
theorem ndCells_snoc (L : List Nd) (x : Nd) : ndCells (L ++ [x]) = ndCells L ++ ndC x := by simp [ndCells]
theorem exCells_snoc (E : List Ex) (y : Ex) : exCells (E ++ [y]) = exCells E ++ exC y := by simp [exCells]
theorem sCells_snoc (E : List Ex) (y : Ex) : sCells (E ++ [y]) = sCells E ++ [.int .i64 (y.s : Int)] := by simp [sCells]
theorem dCells_snoc (E : List Ex) (y : Ex) : dCells (E ++ [y]) = dCells E ++ [.int .i64 (y.d : Int)] := by simp [dCells]
theorem sCells_length (E : List Ex) : (sCells E).length = E.length := by simp [sCells]
theorem dCells_length (E : List Ex) : (dCells E).length = E.length := by simp [dCells]
theorem ndCells_at (L : List Nd) : ∀ (i : Nat) (x : Nd), L[i]? = some x → ∀ j, j < 5 → (ndCells L)[i * 5 + j]? = (ndC x)[j]? := by
  induction L with
  | nil => intro i x h; simp at h
  | cons t r ih =>
    intro i x h j hj
    have e : ndCells (t :: r) = ndC t ++ ndCells r := rfl
    have l5 : (ndC t).length = 5 := rfl
    rw [e]
    cases i with
    | zero =>
      rw [List.getElem?_cons_zero] at h
      injection h with h
      subst h
      rw [Nat.zero_mul, Nat.zero_add, List.getElem?_append_left (by omega)]
    | succ i =>
      rw [List.getElem?_cons_succ] at h
      rw [List.getElem?_append_right (by omega), show (i + 1) * 5 + j - (ndC t).length = i * 5 + j by omega]
      exact ih i x h j hj
theorem exCells_at (E : List Ex) : ∀ (i : Nat) (y : Ex), E[i]? = some y → ∀ j, j < 2 → (exCells E)[i * 2 + j]? = (exC y)[j]? := by
  induction E with
  | nil => intro i x h; simp at h
  | cons t r ih =>
    intro i x h j hj
    have e : exCells (t :: r) = exC t ++ exCells r := rfl
    have l5 : (exC t).length = 2 := rfl
    rw [e]
    cases i with
    | zero =>
      rw [List.getElem?_cons_zero] at h
      injection h with h
      subst h
      rw [Nat.zero_mul, Nat.zero_add, List.getElem?_append_left (by omega)]
    | succ i =>
      rw [List.getElem?_cons_succ] at h
      rw [List.getElem?_append_right (by omega), show (i + 1) * 2 + j - (exC t).length = i * 2 + j by omega]
      exact ih i x h j hj

/-- A node at a place of a slice, as the walk spells its cells. -/
def NdAt (w : World) (ad : Addr) (k : Nat) (x : Nd) : Prop :=
  w.cell? (ad.add (k * 5)) = some (.int .u8 x.k) ∧ w.cell? ⟨(ad.add (k * 5)).block, (ad.add (k * 5)).off + 1, none⟩ = some (.int .i64 x.n) ∧ w.cell? ⟨(ad.add (k * 5)).block, (ad.add (k * 5)).off + 2, none⟩ = some (.int .i64 x.a) ∧ w.cell? ⟨(ad.add (k * 5)).block, (ad.add (k * 5)).off + 3, none⟩ = some (.int .i64 x.b) ∧ w.cell? ⟨(ad.add (k * 5)).block, (ad.add (k * 5)).off + 4, none⟩ = some (.int .i64 x.p)
theorem Lies.nd {w : World} {A : Option Addr} {L : List Nd} (h : Lies w A (ndCells L)) {k : Nat} {x : Nd} (hk : L[k]? = some x) : ∃ ad, A = some ad ∧ ad.block < w.heap.size ∧ NdAt w ad k x := by
  rcases h with h0 | ⟨ad, h1, h2, h3⟩
  · have := ndCells_length L
    rw [h0] at this
    have hl := (List.getElem?_eq_some_iff.1 hk).1
    simp at this
    omega
  · have c := ndCells_at L k x hk
    refine ⟨ad, h1, h2, ?_, ?_, ?_, ?_, ?_⟩
    · exact h3 _ _ (c 0 (by decide))
    · rw [← add_more ad (k * 5) 1 (by decide)]; exact h3 _ _ (c 1 (by decide))
    · rw [← add_more ad (k * 5) 2 (by decide)]; exact h3 _ _ (c 2 (by decide))
    · rw [← add_more ad (k * 5) 3 (by decide)]; exact h3 _ _ (c 3 (by decide))
    · rw [← add_more ad (k * 5) 4 (by decide)]; exact h3 _ _ (c 4 (by decide))
def ExAt (w : World) (ad : Addr) (k : Nat) (y : Ex) : Prop :=
  w.cell? (ad.add (k * 2)) = some (.int .i64 (y.s : Int)) ∧ w.cell? ⟨(ad.add (k * 2)).block, (ad.add (k * 2)).off + 1, none⟩ = some (.int .i64 (y.d : Int))
theorem Lies.ex {w : World} {A : Option Addr} {E : List Ex} (h : Lies w A (exCells E)) {k : Nat} {y : Ex} (hk : E[k]? = some y) : ∃ ad, A = some ad ∧ ad.block < w.heap.size ∧ ExAt w ad k y := by
  rcases h with h0 | ⟨ad, h1, h2, h3⟩
  · have := exCells_length E
    rw [h0] at this
    have hl := (List.getElem?_eq_some_iff.1 hk).1
    simp at this
    omega
  · have c := exCells_at E k y hk
    refine ⟨ad, h1, h2, ?_, ?_⟩
    · exact h3 _ _ (c 0 (by decide))
    · rw [← add_more ad (k * 2) 1 (by decide)]; exact h3 _ _ (c 1 (by decide))
theorem Lies.one {w : World} {A : Option Addr} {cs : List Value} (h : Lies w A cs) {k : Nat} {u : Value} (hk : cs[k]? = some u) : ∃ ad, A = some ad ∧ ad.block < w.heap.size ∧ w.cell? (ad.add k) = some u := by
  rcases h with h0 | ⟨ad, h1, h2, h3⟩
  · subst h0; simp at hk
  · exact ⟨ad, h1, h2, h3 k u hk⟩
/-- A part of a slice. -/
theorem Lies.part {w : World} {ad : Addr} {L : List Nd} (h : Lies w (some ad) (ndCells L)) (lo n : Nat) : Lies w (some (ad.add (lo * 5))) (ndCells ((L.drop lo).take n)) := by
  rcases h with h0 | ⟨ad', h1, h2, h3⟩
  · have := ndCells_length L
    rw [h0] at this
    have hL : L = [] := List.eq_nil_of_length_eq_zero (by simp at this; omega)
    subst hL
    exact .inl (by simp [ndCells])
  · injection h1 with h1
    subst h1
    refine .inr ⟨_, rfl, by rw [add_block]; exact h2, fun j u hu => ?_⟩
    rw [add_add']
    apply h3
    have hl : j < (ndCells ((L.drop lo).take n)).length := (List.getElem?_eq_some_iff.1 hu).1
    rw [ndCells_length] at hl
    have hq : j / 5 < ((L.drop lo).take n).length := by omega
    have hx : ((L.drop lo).take n)[j / 5]? = some (((L.drop lo).take n)[j / 5]'hq) := List.getElem?_eq_getElem hq
    have h5 := ndCells_at _ _ _ hx (j % 5) (by omega)
    rw [show j / 5 * 5 + j % 5 = j by omega] at h5
    have hx2 : L[lo + j / 5]? = some (((L.drop lo).take n)[j / 5]'hq) := by
      rw [List.getElem?_take, List.getElem?_drop] at hx
      split at hx
      · exact hx
      · cases hx
    have h6 := ndCells_at L _ _ hx2 (j % 5) (by omega)
    rw [show (lo + j / 5) * 5 + j % 5 = lo * 5 + j by omega] at h6
    rw [h6, ← h5]
    exact hu

/-! ### small functions -/
theorem cnt_vals (k : Int) : (k ≤ 4 ∧ cnt k = 0) ∨ (4 < k ∧ k ≤ 6 ∧ cnt k = 1) ∨ (6 < k ∧ cnt k = 2) := by
  unfold cnt; repeat' split
  all_goals omega
def partsE (k : Int) : Int := if okK k then 0 else 2
def partsN (k : Int) : Int := if okK k then cnt k else 0
theorem ret_pair {a b c d : Int} (h : a = c) (h2 : b = d) : Ending.returned (.tuple #[.int .i64 a, .int .i64 b]) = .returned (.tuple #[.int .i64 c, .int .i64 d]) := by rw [h, h2]
theorem parts_any (k : Int) (w : World) : Calls Tryz.prog 100 #[.int .u8 k] w fun e w' => e = .returned (.tuple #[.int .i64 (partsN k), .int .i64 (partsE k)]) ∧ w = w' := by
  by_cases h1 : k < 1
  · have h : okK k = false := by simp [okK]; omega
    obtain ⟨e1, e2⟩ : partsN k = 0 ∧ partsE k = 2 := by simp [partsN, partsE, h]
    rw [e1, e2]; clear e1 e2 h
    go_enter Tryz.func100, Tryz.ntmps100
    go_wp2
    go_ret2
    exact ⟨rfl, rfl⟩
  by_cases h2 : 19 < k
  · have h : okK k = false := by simp [okK]; omega
    obtain ⟨e1, e2⟩ : partsN k = 0 ∧ partsE k = 2 := by simp [partsN, partsE, h]
    rw [e1, e2]; clear e1 e2 h
    go_enter Tryz.func100, Tryz.ntmps100
    go_wp2
    go_ret2
    exact ⟨rfl, rfl⟩
  have h : okK k = true := by simp [okK]; omega
  obtain ⟨e1, e2⟩ : partsN k = cnt k ∧ partsE k = 0 := by simp [partsN, partsE, h]
  rw [e1, e2]; clear e1 e2 h
  rcases cnt_vals k with ⟨h3, h4⟩ | ⟨h3, h5, h4⟩ | ⟨h3, h4⟩
  all_goals
    rw [h4]; clear h4
    go_enter Tryz.func100, Tryz.ntmps100
    go_wp2
    go_ret2
    exact ⟨rfl, rfl⟩
theorem count_any (k : Int) (w : World) : Calls Tryz.prog 73 #[.int .u8 k] w fun e w' => e = .returned (.int .i64 (cnt k)) ∧ w = w' := by
  rcases cnt_vals k with ⟨h3, h4⟩ | ⟨h3, h5, h4⟩ | ⟨h3, h4⟩
  all_goals
    rw [h4]; clear h4
    go_enter Tryz.func73, Tryz.ntmps73
    go_wp2
    go_ret
    exact ⟨rfl, rfl⟩
theorem fits_any (k n p : Int) (b : Bool) (hb : fitsF k n p = b) (w : World) : Calls Tryz.prog 113 #[.int .u8 k, .int .i64 n, .int .i64 p] w fun e w' => e = .returned (.bool b) ∧ w = w' := by
  have HB := Lib.hid hb
  clear hb
  by_cases h1 : 0 ≤ n <;> by_cases h2 : n = 0 <;> by_cases h3 : k = 1 <;> by_cases h4 : 0 ≤ p <;> by_cases h5 : p ≤ 400
  all_goals try (exfalso; omega)
  all_goals
    have HV := Lib.hid (show b = (decide (0 ≤ n) && (decide (n = 0) || decide (k = 1)) && decide (0 ≤ p) && decide (p ≤ 400)) from HB.out.symm)
    first
      | (have hx : b = true := by rw [HV.out]; simp [*])
      | (have hx : b = false := by rw [HV.out]; simp [*])
    subst hx
    clear HV HB
    try (have g2 : (n == 0) = true := by simpa using h2)
    try (have g2 : (n == 0) = false := by simpa using h2)
    try (have g3 : (k == 1) = true := by simpa using h3)
    try (have g3 : (k == 1) = false := by simpa using h3)
    clear h2 h3
    go_enter Tryz.func113, Tryz.ntmps113
    go_wp2
    go_ret
    exact ⟨rfl, rfl⟩
theorem great_any (A : Option Addr) (n c : Nat) (w : World) (b : Bool) (hb : decide (70 < n) = b) : Calls Tryz.prog 19 #[.slice A n c] w fun e w' => e = .returned (.bool b) ∧ w = w' := by
  have HB := Lib.hid hb
  clear hb
  go_enter Tryz.func19, Tryz.ntmps19
  go_wp2
  go_ret
  exact ⟨ret_bool' (by rw [← HB.out]; rw [decide_eq_decide]; omega), rfl⟩
end Go.Proofs.YtlmamidodahgmaaGreatDoor.N4

/- NNext1: Walks of next, way by way. -/
namespace Go.Proofs.YtlmamidodahgmaaGreatDoor.N4
open Go.ChangeShapes Go.WideShapes Go.ChangeAt Go.RowKit
set_option linter.unusedVariables false
set_option maxRecDepth 100000
set_option linter.unusedSimpArgs false

theorem wp_gen {c : Code} {K : Exit → Act → World → Prop} {a : Act} {W : World} (P : World → Prop) (h : P W) (h2 : ∀ W', P W' → Code.wp Tryz.prog c K a W') : Code.wp Tryz.prog c K a W := h2 W h
def NextNo (w : World) (e : Ending) (w' : World) : Prop := ∃ s d : Int, e = .returned (.tuple #[.agg #[.int .i64 s, .int .i64 d], .bool false]) ∧ Below w.heap.size w w'

theorem next_bad (A : Option Addr) (n c : Nat) (x : Nd) (w : World) (h : (okK x.k && fitsF x.k x.n x.p) = false) :
    Calls Tryz.prog 98 #[.slice A n c, ndV x] w (NextNo w) := by
  have HF := Lib.hid (fun w => fits_any x.k x.n x.p _ rfl w)
  by_cases ho : okK x.k = true
  · have e1 : (partsE x.k != 0) = false := by simp [partsE, ho]
    have hf : fitsF x.k x.n x.p = false := by simpa [ho] using h
    rw [hf] at HF
    clear ho h hf
    go_enter Tryz.func98, Tryz.ntmps98
    go_wp2_with (first
      | (go_at_call 100; refine (parts_any _ _).mono ?_; rintro e w' ⟨rfl, rfl⟩)
      | (go_at_call 113; refine (HF.out _).mono ?_; rintro e w' ⟨rfl, rfl⟩))
    refine bodyPost_ret (v := .tuple #[.agg #[.int .i64 0, .int .i64 0], .bool false]) (by simp [results, Tryz.results98, go_sem]) rfl ⟨0, 0, rfl, ?_⟩
    repeat (first | exact Below.refl _ _ | refine Below.alloc ?_ (by simp; try omega) _ | refine Below.setCell ?_ (by simp; try omega) _)
  · have e1 : (partsE x.k != 0) = true := by simp [partsE, ho]
    clear ho h
    go_enter Tryz.func98, Tryz.ntmps98
    go_wp2_with (first
      | (go_at_call 100; refine (parts_any _ _).mono ?_; rintro e w' ⟨rfl, rfl⟩)
      | (go_at_call 113; refine (HF.out _).mono ?_; rintro e w' ⟨rfl, rfl⟩))
    refine bodyPost_ret (v := .tuple #[.agg #[.int .i64 0, .int .i64 0], .bool false]) (by simp [results, Tryz.results98, go_sem]) rfl ⟨0, 0, rfl, ?_⟩
    repeat (first | exact Below.refl _ _ | refine Below.alloc ?_ (by simp; try omega) _ | refine Below.setCell ?_ (by simp; try omega) _)

set_option maxHeartbeats 2000000 in
theorem next_v0_tt (k nn a b p : Int) (w : World) (A : Option Addr) (n c : Nat) (e2 : partsN k = 0) (h0 : okK k = true) (h1 : fitsF k nn p = true)  :
    Calls Tryz.prog 98 #[.slice A n c, .agg #[.int .u8 k, .int .i64 nn, .int .i64 0, .int .i64 0, .int .i64 p]] w fun e w' => e = .returned (.tuple #[.agg #[.int .i64 (1 : Nat), .int .i64 (1 : Nat)], .bool true]) ∧ Below w.heap.size w w' := by
  have e3 : partsE k = 0 := by simp [partsE, h0]
  have HP := Lib.hid (fun w => show Calls Tryz.prog 100 #[.int .u8 k] w fun e w' => e = .returned (.tuple #[.int .i64 0, .int .i64 0]) ∧ w = w' by have := parts_any k w; rwa [e2, e3] at this)
  have HF := Lib.hid (fun w => fits_any k nn p true h1 w)
  have hgt : Tryz.prog.eqGuardType Tryz.prog.depth 58 = false := by kernel_rfl
  clear e2 e3 h1
  go_enter Tryz.func98, Tryz.ntmps98
  go_wp2_with (first
      | (go_at_call 100; refine (HP.out _).mono ?_; rintro e w' ⟨rfl, rfl⟩)
      | (go_at_call 113; refine (HF.out _).mono ?_; rintro e w' ⟨rfl, rfl⟩))
  refine wp_loop_rounds 1 ?_
  rw [rounds_succ]; go_wp2
  refine wp_gen (fun W => W.cell? ⟨w.heap.size, 0, none⟩ = some (.int .u8 k) ∧ W.cell? ⟨w.heap.size, 1, none⟩ = some (.int .i64 nn) ∧ W.cell? ⟨w.heap.size, 2, none⟩ = some (.int .i64 0) ∧ W.cell? ⟨w.heap.size, 3, none⟩ = some (.int .i64 0) ∧ W.cell? ⟨w.heap.size, 4, none⟩ = some (.int .i64 p) ∧ W.cell? ⟨w.heap.size + 1 + 1, 0, none⟩ = some (.int .i64 1) ∧ W.cell? ⟨w.heap.size + 1 + 1, 1, none⟩ = some (.int .i64 1) ∧ W.cell? ⟨w.heap.size + 1 + 1 + 1, 0, none⟩ = some (.int .i64 0) ∧ W.cell? ⟨w.heap.size + 1 + 1 + 1, 1, none⟩ = some (.int .i64 0) ∧ W.cell? ⟨w.heap.size + 1, 0, none⟩ = some (.int .i64 0) ∧ W.cell? ⟨w.heap.size + 1, 1, none⟩ = some (.int .i64 0) ∧ W.frozen? ⟨w.heap.size + 1, 0, none⟩ = false ∧ W.frozen? ⟨w.heap.size + 1, 1, none⟩ = false ∧ w.heap.size + 1 + 1 + 1 < W.heap.size ∧ Hid (Below w.heap.size w W)) ⟨by go_simp, by go_simp, by go_simp, by go_simp, by go_simp, by go_simp, by go_simp, by go_simp, by go_simp, by go_simp, by go_simp, by go_simp, by go_simp, by simp, Lib.hid (by repeat (first | exact Below.refl _ _ | refine Below.alloc ?_ (by simp; try omega) _ | refine Below.setCell ?_ (by simp; try omega) _ | refine Below.drew ?_))⟩ ?_
  rintro W ⟨c0, c1, c2, c3, c4, w0, w1, e0, e1, r0, r1, f0, f1, hsz, HBW⟩
  clear h0 HP HF
  go_region_held3 (fun w' => w'.cell? ⟨w.heap.size, 0, none⟩ = some (.int .u8 k) ∧ w'.cell? ⟨w.heap.size, 1, none⟩ = some (.int .i64 nn) ∧ w'.cell? ⟨w.heap.size, 2, none⟩ = some (.int .i64 0) ∧ w'.cell? ⟨w.heap.size, 3, none⟩ = some (.int .i64 0) ∧ w'.cell? ⟨w.heap.size, 4, none⟩ = some (.int .i64 p) ∧ w'.cell? ⟨w.heap.size + 1 + 1, 0, none⟩ = some (.int .i64 1) ∧ w'.cell? ⟨w.heap.size + 1 + 1, 1, none⟩ = some (.int .i64 1) ∧ w'.cell? ⟨w.heap.size + 1 + 1 + 1, 0, none⟩ = some (.int .i64 0) ∧ w'.cell? ⟨w.heap.size + 1 + 1 + 1, 1, none⟩ = some (.int .i64 0)) (go_keep) (fail)
  go_wp2
  refine bodyPost_ret (v := .tuple #[.agg #[.int .i64 (1 : Nat), .int .i64 (1 : Nat)], .bool true]) (by simp [results, Tryz.results98, go_sem, r0, r1, f0, f1, hsz]) rfl ⟨rfl, ?_⟩
  exact (HBW.out.drew.setCell (by simp) _).setCell (by simp) _
set_option maxHeartbeats 2000000 in
theorem next_v0_tf (k nn a b p : Int) (w : World) (A : Option Addr) (n c : Nat) (e2 : partsN k = 0) (h0 : okK k = true) (h1 : fitsF k nn p = true) (hb : ¬ b = 0) :
    Calls Tryz.prog 98 #[.slice A n c, .agg #[.int .u8 k, .int .i64 nn, .int .i64 0, .int .i64 b, .int .i64 p]] w fun e w' => e = .returned (.tuple #[.agg #[.int .i64 (1 : Nat), .int .i64 (1 : Nat)], .bool false]) ∧ Below w.heap.size w w' := by
  have e3 : partsE k = 0 := by simp [partsE, h0]
  have HP := Lib.hid (fun w => show Calls Tryz.prog 100 #[.int .u8 k] w fun e w' => e = .returned (.tuple #[.int .i64 0, .int .i64 0]) ∧ w = w' by have := parts_any k w; rwa [e2, e3] at this)
  have HF := Lib.hid (fun w => fits_any k nn p true h1 w)
  have hgt : Tryz.prog.eqGuardType Tryz.prog.depth 58 = false := by kernel_rfl
  clear e2 e3 h1
  go_enter Tryz.func98, Tryz.ntmps98
  go_wp2_with (first
      | (go_at_call 100; refine (HP.out _).mono ?_; rintro e w' ⟨rfl, rfl⟩)
      | (go_at_call 113; refine (HF.out _).mono ?_; rintro e w' ⟨rfl, rfl⟩))
  refine wp_loop_rounds 1 ?_
  rw [rounds_succ]; go_wp2
  refine wp_gen (fun W => W.cell? ⟨w.heap.size, 0, none⟩ = some (.int .u8 k) ∧ W.cell? ⟨w.heap.size, 1, none⟩ = some (.int .i64 nn) ∧ W.cell? ⟨w.heap.size, 2, none⟩ = some (.int .i64 0) ∧ W.cell? ⟨w.heap.size, 3, none⟩ = some (.int .i64 b) ∧ W.cell? ⟨w.heap.size, 4, none⟩ = some (.int .i64 p) ∧ W.cell? ⟨w.heap.size + 1 + 1, 0, none⟩ = some (.int .i64 1) ∧ W.cell? ⟨w.heap.size + 1 + 1, 1, none⟩ = some (.int .i64 1) ∧ W.cell? ⟨w.heap.size + 1 + 1 + 1, 0, none⟩ = some (.int .i64 0) ∧ W.cell? ⟨w.heap.size + 1 + 1 + 1, 1, none⟩ = some (.int .i64 0) ∧ W.cell? ⟨w.heap.size + 1, 0, none⟩ = some (.int .i64 0) ∧ W.cell? ⟨w.heap.size + 1, 1, none⟩ = some (.int .i64 0) ∧ W.frozen? ⟨w.heap.size + 1, 0, none⟩ = false ∧ W.frozen? ⟨w.heap.size + 1, 1, none⟩ = false ∧ w.heap.size + 1 + 1 + 1 < W.heap.size ∧ Hid (Below w.heap.size w W)) ⟨by go_simp, by go_simp, by go_simp, by go_simp, by go_simp, by go_simp, by go_simp, by go_simp, by go_simp, by go_simp, by go_simp, by go_simp, by go_simp, by simp, Lib.hid (by repeat (first | exact Below.refl _ _ | refine Below.alloc ?_ (by simp; try omega) _ | refine Below.setCell ?_ (by simp; try omega) _ | refine Below.drew ?_))⟩ ?_
  rintro W ⟨c0, c1, c2, c3, c4, w0, w1, e0, e1, r0, r1, f0, f1, hsz, HBW⟩
  clear h0 HP HF
  go_region_held3 (fun w' => w'.cell? ⟨w.heap.size, 0, none⟩ = some (.int .u8 k) ∧ w'.cell? ⟨w.heap.size, 1, none⟩ = some (.int .i64 nn) ∧ w'.cell? ⟨w.heap.size, 2, none⟩ = some (.int .i64 0) ∧ w'.cell? ⟨w.heap.size, 3, none⟩ = some (.int .i64 b) ∧ w'.cell? ⟨w.heap.size, 4, none⟩ = some (.int .i64 p) ∧ w'.cell? ⟨w.heap.size + 1 + 1, 0, none⟩ = some (.int .i64 1) ∧ w'.cell? ⟨w.heap.size + 1 + 1, 1, none⟩ = some (.int .i64 1) ∧ w'.cell? ⟨w.heap.size + 1 + 1 + 1, 0, none⟩ = some (.int .i64 0) ∧ w'.cell? ⟨w.heap.size + 1 + 1 + 1, 1, none⟩ = some (.int .i64 0)) (go_keep) (fail)
  go_wp2
  refine bodyPost_ret (v := .tuple #[.agg #[.int .i64 (1 : Nat), .int .i64 (1 : Nat)], .bool false]) (by simp [results, Tryz.results98, go_sem, r0, r1, f0, f1, hsz]) rfl ⟨rfl, ?_⟩
  exact (HBW.out.drew.setCell (by simp) _).setCell (by simp) _
set_option maxHeartbeats 2000000 in
theorem next_v0_f (k nn a b p : Int) (w : World) (A : Option Addr) (n c : Nat) (e2 : partsN k = 0) (h0 : okK k = true) (h1 : fitsF k nn p = true) (ha : ¬ a = 0) :
    Calls Tryz.prog 98 #[.slice A n c, .agg #[.int .u8 k, .int .i64 nn, .int .i64 a, .int .i64 b, .int .i64 p]] w fun e w' => e = .returned (.tuple #[.agg #[.int .i64 (1 : Nat), .int .i64 (1 : Nat)], .bool false]) ∧ Below w.heap.size w w' := by
  have e3 : partsE k = 0 := by simp [partsE, h0]
  have HP := Lib.hid (fun w => show Calls Tryz.prog 100 #[.int .u8 k] w fun e w' => e = .returned (.tuple #[.int .i64 0, .int .i64 0]) ∧ w = w' by have := parts_any k w; rwa [e2, e3] at this)
  have HF := Lib.hid (fun w => fits_any k nn p true h1 w)
  have hgt : Tryz.prog.eqGuardType Tryz.prog.depth 58 = false := by kernel_rfl
  clear e2 e3 h1
  go_enter Tryz.func98, Tryz.ntmps98
  go_wp2_with (first
      | (go_at_call 100; refine (HP.out _).mono ?_; rintro e w' ⟨rfl, rfl⟩)
      | (go_at_call 113; refine (HF.out _).mono ?_; rintro e w' ⟨rfl, rfl⟩))
  refine wp_loop_rounds 1 ?_
  rw [rounds_succ]; go_wp2
  refine wp_gen (fun W => W.cell? ⟨w.heap.size, 0, none⟩ = some (.int .u8 k) ∧ W.cell? ⟨w.heap.size, 1, none⟩ = some (.int .i64 nn) ∧ W.cell? ⟨w.heap.size, 2, none⟩ = some (.int .i64 a) ∧ W.cell? ⟨w.heap.size, 3, none⟩ = some (.int .i64 b) ∧ W.cell? ⟨w.heap.size, 4, none⟩ = some (.int .i64 p) ∧ W.cell? ⟨w.heap.size + 1 + 1, 0, none⟩ = some (.int .i64 1) ∧ W.cell? ⟨w.heap.size + 1 + 1, 1, none⟩ = some (.int .i64 1) ∧ W.cell? ⟨w.heap.size + 1 + 1 + 1, 0, none⟩ = some (.int .i64 0) ∧ W.cell? ⟨w.heap.size + 1 + 1 + 1, 1, none⟩ = some (.int .i64 0) ∧ W.cell? ⟨w.heap.size + 1, 0, none⟩ = some (.int .i64 0) ∧ W.cell? ⟨w.heap.size + 1, 1, none⟩ = some (.int .i64 0) ∧ W.frozen? ⟨w.heap.size + 1, 0, none⟩ = false ∧ W.frozen? ⟨w.heap.size + 1, 1, none⟩ = false ∧ w.heap.size + 1 + 1 + 1 < W.heap.size ∧ Hid (Below w.heap.size w W)) ⟨by go_simp, by go_simp, by go_simp, by go_simp, by go_simp, by go_simp, by go_simp, by go_simp, by go_simp, by go_simp, by go_simp, by go_simp, by go_simp, by simp, Lib.hid (by repeat (first | exact Below.refl _ _ | refine Below.alloc ?_ (by simp; try omega) _ | refine Below.setCell ?_ (by simp; try omega) _ | refine Below.drew ?_))⟩ ?_
  rintro W ⟨c0, c1, c2, c3, c4, w0, w1, e0, e1, r0, r1, f0, f1, hsz, HBW⟩
  clear h0 HP HF
  go_region_held3 (fun w' => w'.cell? ⟨w.heap.size, 0, none⟩ = some (.int .u8 k) ∧ w'.cell? ⟨w.heap.size, 1, none⟩ = some (.int .i64 nn) ∧ w'.cell? ⟨w.heap.size, 2, none⟩ = some (.int .i64 a) ∧ w'.cell? ⟨w.heap.size, 3, none⟩ = some (.int .i64 b) ∧ w'.cell? ⟨w.heap.size, 4, none⟩ = some (.int .i64 p) ∧ w'.cell? ⟨w.heap.size + 1 + 1, 0, none⟩ = some (.int .i64 1) ∧ w'.cell? ⟨w.heap.size + 1 + 1, 1, none⟩ = some (.int .i64 1) ∧ w'.cell? ⟨w.heap.size + 1 + 1 + 1, 0, none⟩ = some (.int .i64 0) ∧ w'.cell? ⟨w.heap.size + 1 + 1 + 1, 1, none⟩ = some (.int .i64 0)) (go_keep) (fail)
  go_wp2
  refine bodyPost_ret (v := .tuple #[.agg #[.int .i64 (1 : Nat), .int .i64 (1 : Nat)], .bool false]) (by simp [results, Tryz.results98, go_sem, r0, r1, f0, f1, hsz]) rfl ⟨rfl, ?_⟩
  exact (HBW.out.drew.setCell (by simp) _).setCell (by simp) _

theorem next_n1_1 (k nn a b p : Int) (w : World) (A : Option Addr) (c : Nat) (h0 : okK k = true) (h1 : fitsF k nn p = true) (e2 : partsN k = 1) :
    Calls Tryz.prog 98 #[.slice A 0 c, .agg #[.int .u8 k, .int .i64 nn, .int .i64 a, .int .i64 b, .int .i64 p]] w (NextNo w) := by
  have e3 : partsE k = 0 := by simp [partsE, h0]
  have HP := Lib.hid (fun w => show Calls Tryz.prog 100 #[.int .u8 k] w fun e w' => e = .returned (.tuple #[.int .i64 1, .int .i64 0]) ∧ w = w' by have := parts_any k w; rwa [e2, e3] at this)
  have HF := Lib.hid (fun w => fits_any k nn p true h1 w)
  clear e2 e3 h1
  go_enter Tryz.func98, Tryz.ntmps98
  go_wp2_with (first
      | (go_at_call 100; refine (HP.out _).mono ?_; rintro e w' ⟨rfl, rfl⟩)
      | (go_at_call 113; refine (HF.out _).mono ?_; rintro e w' ⟨rfl, rfl⟩))
  refine wp_loop_rounds 1 ?_
  rw [rounds_succ]; go_wp2
  refine bodyPost_ret (v := .tuple #[.agg #[.int .i64 0, .int .i64 0], .bool false]) (by simp [results, Tryz.results98, go_sem]) rfl ⟨0, 0, rfl, ?_⟩
  repeat (first | exact Below.refl _ _ | refine Below.alloc ?_ (by simp; try omega) _ | refine Below.setCell ?_ (by simp; try omega) _ | refine Below.drew ?_)
theorem next_n1_2 (k nn a b p : Int) (w : World) (A : Option Addr) (c : Nat) (h0 : okK k = true) (h1 : fitsF k nn p = true) (e2 : partsN k = 2) :
    Calls Tryz.prog 98 #[.slice A 0 c, .agg #[.int .u8 k, .int .i64 nn, .int .i64 a, .int .i64 b, .int .i64 p]] w (NextNo w) := by
  have e3 : partsE k = 0 := by simp [partsE, h0]
  have HP := Lib.hid (fun w => show Calls Tryz.prog 100 #[.int .u8 k] w fun e w' => e = .returned (.tuple #[.int .i64 2, .int .i64 0]) ∧ w = w' by have := parts_any k w; rwa [e2, e3] at this)
  have HF := Lib.hid (fun w => fits_any k nn p true h1 w)
  clear e2 e3 h1
  go_enter Tryz.func98, Tryz.ntmps98
  go_wp2_with (first
      | (go_at_call 100; refine (HP.out _).mono ?_; rintro e w' ⟨rfl, rfl⟩)
      | (go_at_call 113; refine (HF.out _).mono ?_; rintro e w' ⟨rfl, rfl⟩))
  refine wp_loop_rounds 1 ?_
  rw [rounds_succ]; go_wp2
  refine bodyPost_ret (v := .tuple #[.agg #[.int .i64 0, .int .i64 0], .bool false]) (by simp [results, Tryz.results98, go_sem]) rfl ⟨0, 0, rfl, ?_⟩
  repeat (first | exact Below.refl _ _ | refine Below.alloc ?_ (by simp; try omega) _ | refine Below.setCell ?_ (by simp; try omega) _ | refine Below.drew ?_)

set_option maxHeartbeats 2000000 in
theorem next_v1_tt (k nn a b p : Int) (w : World) (ad : Addr) (m c es ed : Nat) (d0 : w.cell? (ad.add (m * 2)) = some (.int .i64 es)) (d1 : w.cell? ⟨(ad.add (m * 2)).block, (ad.add (m * 2)).off + 1, none⟩ = some (.int .i64 ed)) (hab : (ad.add (m * 2)).block < w.heap.size) (hn : m ≤ 60) (q4 : es ≤ 60) (q5 : ed ≤ 60) (q6 : 1 ≤ ed) (e2 : partsN k = 1) (h0 : okK k = true) (h1 : fitsF k nn p = true)  :
    Calls Tryz.prog 98 #[.slice (some ad) (m + 1) c, .agg #[.int .u8 k, .int .i64 nn, .int .i64 (m : Int), .int .i64 0, .int .i64 p]] w fun e w' => e = .returned (.tuple #[.agg #[.int .i64 (1 + es : Nat), .int .i64 (ed + 1 : Nat)], .bool true]) ∧ Below w.heap.size w w' := by
  have e3 : partsE k = 0 := by simp [partsE, h0]
  have HP := Lib.hid (fun w => show Calls Tryz.prog 100 #[.int .u8 k] w fun e w' => e = .returned (.tuple #[.int .i64 1, .int .i64 0]) ∧ w = w' by have := parts_any k w; rwa [e2, e3] at this)
  have HF := Lib.hid (fun w => fits_any k nn p true h1 w)
  have hgt : Tryz.prog.eqGuardType Tryz.prog.depth 58 = false := by kernel_rfl
  clear e2 e3 h1
  have q1 : (ad.add (m * 2)).block < w.heap.size + 1 := by omega
  have q2 : (ad.add (m * 2)).block < w.heap.size + 1 + 1 := by omega
  have q3 : (ad.add (m * 2)).block < w.heap.size + 1 + 1 + 1 := by omega
  have q7 : ¬ ((ed : Int) + 1 ≤ 1) := by omega
  go_enter Tryz.func98, Tryz.ntmps98
  go_wp2_with (first
      | (go_at_call 100; refine (HP.out _).mono ?_; rintro e w' ⟨rfl, rfl⟩)
      | (go_at_call 113; refine (HF.out _).mono ?_; rintro e w' ⟨rfl, rfl⟩))
  refine wp_loop_rounds 2 ?_
  rw [rounds_succ]; go_wp2
  go_region
  go_wp2
  go_region
  go_wp2
  rw [rounds_succ]; go_wp2
  refine wp_gen (fun W => W.cell? ⟨w.heap.size, 0, none⟩ = some (.int .u8 k) ∧ W.cell? ⟨w.heap.size, 1, none⟩ = some (.int .i64 nn) ∧ W.cell? ⟨w.heap.size, 2, none⟩ = some (.int .i64 (m : Int)) ∧ W.cell? ⟨w.heap.size, 3, none⟩ = some (.int .i64 0) ∧ W.cell? ⟨w.heap.size, 4, none⟩ = some (.int .i64 p) ∧ W.cell? ⟨w.heap.size + 1 + 1, 0, none⟩ = some (.int .i64 (1 + es)) ∧ W.cell? ⟨w.heap.size + 1 + 1, 1, none⟩ = some (.int .i64 (ed + 1)) ∧ W.cell? ⟨w.heap.size + 1 + 1 + 1, 0, none⟩ = some (.int .i64 m) ∧ W.cell? ⟨w.heap.size + 1 + 1 + 1, 1, none⟩ = some (.int .i64 0) ∧ W.cell? ⟨w.heap.size + 1, 0, none⟩ = some (.int .i64 0) ∧ W.cell? ⟨w.heap.size + 1, 1, none⟩ = some (.int .i64 0) ∧ W.frozen? ⟨w.heap.size + 1, 0, none⟩ = false ∧ W.frozen? ⟨w.heap.size + 1, 1, none⟩ = false ∧ w.heap.size + 1 + 1 + 1 < W.heap.size ∧ Hid (Below w.heap.size w W)) ⟨by go_simp, by go_simp, by go_simp, by go_simp, by go_simp, by go_simp, by go_simp, by go_simp, by go_simp, by go_simp, by go_simp, by go_simp, by go_simp, by simp, Lib.hid (by repeat (first | exact Below.refl _ _ | refine Below.alloc ?_ (by simp; try omega) _ | refine Below.setCell ?_ (by simp; try omega) _ | refine Below.drew ?_))⟩ ?_
  rintro W ⟨c0, c1, c2, c3, c4, w0, w1, e0, e1, r0, r1, f0, f1, hsz, HBW⟩
  clear hab q1 q2 q3 q7 d0 d1 q4 q5 q6 hn h0 HP HF
  go_region_held3 (fun w' => w'.cell? ⟨w.heap.size, 0, none⟩ = some (.int .u8 k) ∧ w'.cell? ⟨w.heap.size, 1, none⟩ = some (.int .i64 nn) ∧ w'.cell? ⟨w.heap.size, 2, none⟩ = some (.int .i64 (m : Int)) ∧ w'.cell? ⟨w.heap.size, 3, none⟩ = some (.int .i64 0) ∧ w'.cell? ⟨w.heap.size, 4, none⟩ = some (.int .i64 p) ∧ w'.cell? ⟨w.heap.size + 1 + 1, 0, none⟩ = some (.int .i64 (1 + es)) ∧ w'.cell? ⟨w.heap.size + 1 + 1, 1, none⟩ = some (.int .i64 (ed + 1)) ∧ w'.cell? ⟨w.heap.size + 1 + 1 + 1, 0, none⟩ = some (.int .i64 m) ∧ w'.cell? ⟨w.heap.size + 1 + 1 + 1, 1, none⟩ = some (.int .i64 0)) (go_keep) (fail)
  go_wp2
  refine bodyPost_ret (v := .tuple #[.agg #[.int .i64 (1 + es : Nat), .int .i64 (ed + 1 : Nat)], .bool true]) (by simp [results, Tryz.results98, go_sem, r0, r1, f0, f1, hsz]) rfl ⟨rfl, ?_⟩
  exact (HBW.out.drew.setCell (by simp) _).setCell (by simp) _
set_option maxHeartbeats 2000000 in
theorem next_v1_tf (k nn a b p : Int) (w : World) (ad : Addr) (m c es ed : Nat) (d0 : w.cell? (ad.add (m * 2)) = some (.int .i64 es)) (d1 : w.cell? ⟨(ad.add (m * 2)).block, (ad.add (m * 2)).off + 1, none⟩ = some (.int .i64 ed)) (hab : (ad.add (m * 2)).block < w.heap.size) (hn : m ≤ 60) (q4 : es ≤ 60) (q5 : ed ≤ 60) (q6 : 1 ≤ ed) (e2 : partsN k = 1) (h0 : okK k = true) (h1 : fitsF k nn p = true) (hb : ¬ b = 0) :
    Calls Tryz.prog 98 #[.slice (some ad) (m + 1) c, .agg #[.int .u8 k, .int .i64 nn, .int .i64 (m : Int), .int .i64 b, .int .i64 p]] w fun e w' => e = .returned (.tuple #[.agg #[.int .i64 (1 + es : Nat), .int .i64 (ed + 1 : Nat)], .bool false]) ∧ Below w.heap.size w w' := by
  have e3 : partsE k = 0 := by simp [partsE, h0]
  have HP := Lib.hid (fun w => show Calls Tryz.prog 100 #[.int .u8 k] w fun e w' => e = .returned (.tuple #[.int .i64 1, .int .i64 0]) ∧ w = w' by have := parts_any k w; rwa [e2, e3] at this)
  have HF := Lib.hid (fun w => fits_any k nn p true h1 w)
  have hgt : Tryz.prog.eqGuardType Tryz.prog.depth 58 = false := by kernel_rfl
  clear e2 e3 h1
  have q1 : (ad.add (m * 2)).block < w.heap.size + 1 := by omega
  have q2 : (ad.add (m * 2)).block < w.heap.size + 1 + 1 := by omega
  have q3 : (ad.add (m * 2)).block < w.heap.size + 1 + 1 + 1 := by omega
  have q7 : ¬ ((ed : Int) + 1 ≤ 1) := by omega
  go_enter Tryz.func98, Tryz.ntmps98
  go_wp2_with (first
      | (go_at_call 100; refine (HP.out _).mono ?_; rintro e w' ⟨rfl, rfl⟩)
      | (go_at_call 113; refine (HF.out _).mono ?_; rintro e w' ⟨rfl, rfl⟩))
  refine wp_loop_rounds 2 ?_
  rw [rounds_succ]; go_wp2
  go_region
  go_wp2
  go_region
  go_wp2
  rw [rounds_succ]; go_wp2
  refine wp_gen (fun W => W.cell? ⟨w.heap.size, 0, none⟩ = some (.int .u8 k) ∧ W.cell? ⟨w.heap.size, 1, none⟩ = some (.int .i64 nn) ∧ W.cell? ⟨w.heap.size, 2, none⟩ = some (.int .i64 (m : Int)) ∧ W.cell? ⟨w.heap.size, 3, none⟩ = some (.int .i64 b) ∧ W.cell? ⟨w.heap.size, 4, none⟩ = some (.int .i64 p) ∧ W.cell? ⟨w.heap.size + 1 + 1, 0, none⟩ = some (.int .i64 (1 + es)) ∧ W.cell? ⟨w.heap.size + 1 + 1, 1, none⟩ = some (.int .i64 (ed + 1)) ∧ W.cell? ⟨w.heap.size + 1 + 1 + 1, 0, none⟩ = some (.int .i64 m) ∧ W.cell? ⟨w.heap.size + 1 + 1 + 1, 1, none⟩ = some (.int .i64 0) ∧ W.cell? ⟨w.heap.size + 1, 0, none⟩ = some (.int .i64 0) ∧ W.cell? ⟨w.heap.size + 1, 1, none⟩ = some (.int .i64 0) ∧ W.frozen? ⟨w.heap.size + 1, 0, none⟩ = false ∧ W.frozen? ⟨w.heap.size + 1, 1, none⟩ = false ∧ w.heap.size + 1 + 1 + 1 < W.heap.size ∧ Hid (Below w.heap.size w W)) ⟨by go_simp, by go_simp, by go_simp, by go_simp, by go_simp, by go_simp, by go_simp, by go_simp, by go_simp, by go_simp, by go_simp, by go_simp, by go_simp, by simp, Lib.hid (by repeat (first | exact Below.refl _ _ | refine Below.alloc ?_ (by simp; try omega) _ | refine Below.setCell ?_ (by simp; try omega) _ | refine Below.drew ?_))⟩ ?_
  rintro W ⟨c0, c1, c2, c3, c4, w0, w1, e0, e1, r0, r1, f0, f1, hsz, HBW⟩
  clear hab q1 q2 q3 q7 d0 d1 q4 q5 q6 hn h0 HP HF
  go_region_held3 (fun w' => w'.cell? ⟨w.heap.size, 0, none⟩ = some (.int .u8 k) ∧ w'.cell? ⟨w.heap.size, 1, none⟩ = some (.int .i64 nn) ∧ w'.cell? ⟨w.heap.size, 2, none⟩ = some (.int .i64 (m : Int)) ∧ w'.cell? ⟨w.heap.size, 3, none⟩ = some (.int .i64 b) ∧ w'.cell? ⟨w.heap.size, 4, none⟩ = some (.int .i64 p) ∧ w'.cell? ⟨w.heap.size + 1 + 1, 0, none⟩ = some (.int .i64 (1 + es)) ∧ w'.cell? ⟨w.heap.size + 1 + 1, 1, none⟩ = some (.int .i64 (ed + 1)) ∧ w'.cell? ⟨w.heap.size + 1 + 1 + 1, 0, none⟩ = some (.int .i64 m) ∧ w'.cell? ⟨w.heap.size + 1 + 1 + 1, 1, none⟩ = some (.int .i64 0)) (go_keep) (fail)
  go_wp2
  refine bodyPost_ret (v := .tuple #[.agg #[.int .i64 (1 + es : Nat), .int .i64 (ed + 1 : Nat)], .bool false]) (by simp [results, Tryz.results98, go_sem, r0, r1, f0, f1, hsz]) rfl ⟨rfl, ?_⟩
  exact (HBW.out.drew.setCell (by simp) _).setCell (by simp) _
set_option maxHeartbeats 2000000 in
theorem next_v1_f (k nn a b p : Int) (w : World) (ad : Addr) (m c es ed : Nat) (d0 : w.cell? (ad.add (m * 2)) = some (.int .i64 es)) (d1 : w.cell? ⟨(ad.add (m * 2)).block, (ad.add (m * 2)).off + 1, none⟩ = some (.int .i64 ed)) (hab : (ad.add (m * 2)).block < w.heap.size) (hn : m ≤ 60) (q4 : es ≤ 60) (q5 : ed ≤ 60) (q6 : 1 ≤ ed) (e2 : partsN k = 1) (h0 : okK k = true) (h1 : fitsF k nn p = true) (ha : ¬ a = (m : Int)) :
    Calls Tryz.prog 98 #[.slice (some ad) (m + 1) c, .agg #[.int .u8 k, .int .i64 nn, .int .i64 a, .int .i64 b, .int .i64 p]] w fun e w' => e = .returned (.tuple #[.agg #[.int .i64 (1 + es : Nat), .int .i64 (ed + 1 : Nat)], .bool false]) ∧ Below w.heap.size w w' := by
  have e3 : partsE k = 0 := by simp [partsE, h0]
  have HP := Lib.hid (fun w => show Calls Tryz.prog 100 #[.int .u8 k] w fun e w' => e = .returned (.tuple #[.int .i64 1, .int .i64 0]) ∧ w = w' by have := parts_any k w; rwa [e2, e3] at this)
  have HF := Lib.hid (fun w => fits_any k nn p true h1 w)
  have hgt : Tryz.prog.eqGuardType Tryz.prog.depth 58 = false := by kernel_rfl
  clear e2 e3 h1
  have q1 : (ad.add (m * 2)).block < w.heap.size + 1 := by omega
  have q2 : (ad.add (m * 2)).block < w.heap.size + 1 + 1 := by omega
  have q3 : (ad.add (m * 2)).block < w.heap.size + 1 + 1 + 1 := by omega
  have q7 : ¬ ((ed : Int) + 1 ≤ 1) := by omega
  go_enter Tryz.func98, Tryz.ntmps98
  go_wp2_with (first
      | (go_at_call 100; refine (HP.out _).mono ?_; rintro e w' ⟨rfl, rfl⟩)
      | (go_at_call 113; refine (HF.out _).mono ?_; rintro e w' ⟨rfl, rfl⟩))
  refine wp_loop_rounds 2 ?_
  rw [rounds_succ]; go_wp2
  go_region
  go_wp2
  go_region
  go_wp2
  rw [rounds_succ]; go_wp2
  refine wp_gen (fun W => W.cell? ⟨w.heap.size, 0, none⟩ = some (.int .u8 k) ∧ W.cell? ⟨w.heap.size, 1, none⟩ = some (.int .i64 nn) ∧ W.cell? ⟨w.heap.size, 2, none⟩ = some (.int .i64 a) ∧ W.cell? ⟨w.heap.size, 3, none⟩ = some (.int .i64 b) ∧ W.cell? ⟨w.heap.size, 4, none⟩ = some (.int .i64 p) ∧ W.cell? ⟨w.heap.size + 1 + 1, 0, none⟩ = some (.int .i64 (1 + es)) ∧ W.cell? ⟨w.heap.size + 1 + 1, 1, none⟩ = some (.int .i64 (ed + 1)) ∧ W.cell? ⟨w.heap.size + 1 + 1 + 1, 0, none⟩ = some (.int .i64 m) ∧ W.cell? ⟨w.heap.size + 1 + 1 + 1, 1, none⟩ = some (.int .i64 0) ∧ W.cell? ⟨w.heap.size + 1, 0, none⟩ = some (.int .i64 0) ∧ W.cell? ⟨w.heap.size + 1, 1, none⟩ = some (.int .i64 0) ∧ W.frozen? ⟨w.heap.size + 1, 0, none⟩ = false ∧ W.frozen? ⟨w.heap.size + 1, 1, none⟩ = false ∧ w.heap.size + 1 + 1 + 1 < W.heap.size ∧ Hid (Below w.heap.size w W)) ⟨by go_simp, by go_simp, by go_simp, by go_simp, by go_simp, by go_simp, by go_simp, by go_simp, by go_simp, by go_simp, by go_simp, by go_simp, by go_simp, by simp, Lib.hid (by repeat (first | exact Below.refl _ _ | refine Below.alloc ?_ (by simp; try omega) _ | refine Below.setCell ?_ (by simp; try omega) _ | refine Below.drew ?_))⟩ ?_
  rintro W ⟨c0, c1, c2, c3, c4, w0, w1, e0, e1, r0, r1, f0, f1, hsz, HBW⟩
  clear hab q1 q2 q3 q7 d0 d1 q4 q5 q6 hn h0 HP HF
  go_region_held3 (fun w' => w'.cell? ⟨w.heap.size, 0, none⟩ = some (.int .u8 k) ∧ w'.cell? ⟨w.heap.size, 1, none⟩ = some (.int .i64 nn) ∧ w'.cell? ⟨w.heap.size, 2, none⟩ = some (.int .i64 a) ∧ w'.cell? ⟨w.heap.size, 3, none⟩ = some (.int .i64 b) ∧ w'.cell? ⟨w.heap.size, 4, none⟩ = some (.int .i64 p) ∧ w'.cell? ⟨w.heap.size + 1 + 1, 0, none⟩ = some (.int .i64 (1 + es)) ∧ w'.cell? ⟨w.heap.size + 1 + 1, 1, none⟩ = some (.int .i64 (ed + 1)) ∧ w'.cell? ⟨w.heap.size + 1 + 1 + 1, 0, none⟩ = some (.int .i64 m) ∧ w'.cell? ⟨w.heap.size + 1 + 1 + 1, 1, none⟩ = some (.int .i64 0)) (go_keep) (fail)
  go_wp2
  refine bodyPost_ret (v := .tuple #[.agg #[.int .i64 (1 + es : Nat), .int .i64 (ed + 1 : Nat)], .bool false]) (by simp [results, Tryz.results98, go_sem, r0, r1, f0, f1, hsz]) rfl ⟨rfl, ?_⟩
  exact (HBW.out.drew.setCell (by simp) _).setCell (by simp) _

set_option maxHeartbeats 2000000 in
theorem next_n2 (k nn a b p : Int) (w : World) (ad : Addr) (m c es ed : Nat) (d0 : w.cell? (ad.add (m * 2)) = some (.int .i64 es)) (d1 : w.cell? ⟨(ad.add (m * 2)).block, (ad.add (m * 2)).off + 1, none⟩ = some (.int .i64 ed)) (hab : (ad.add (m * 2)).block < w.heap.size) (hn : m ≤ 60) (q4 : es ≤ 60) (q5 : ed ≤ 60) (q6 : 1 ≤ ed) (e2 : partsN k = 2) (h0 : okK k = true) (h1 : fitsF k nn p = true) (hx : m < es) :
    Calls Tryz.prog 98 #[.slice (some ad) (m + 1) c, .agg #[.int .u8 k, .int .i64 nn, .int .i64 a, .int .i64 b, .int .i64 p]] w (NextNo w) := by
  have e3 : partsE k = 0 := by simp [partsE, h0]
  have HP := Lib.hid (fun w => show Calls Tryz.prog 100 #[.int .u8 k] w fun e w' => e = .returned (.tuple #[.int .i64 2, .int .i64 0]) ∧ w = w' by have := parts_any k w; rwa [e2, e3] at this)
  have HF := Lib.hid (fun w => fits_any k nn p true h1 w)
  have hgt : Tryz.prog.eqGuardType Tryz.prog.depth 58 = false := by kernel_rfl
  clear e2 e3 h1
  have q1 : (ad.add (m * 2)).block < w.heap.size + 1 := by omega
  have q2 : (ad.add (m * 2)).block < w.heap.size + 1 + 1 := by omega
  have q3 : (ad.add (m * 2)).block < w.heap.size + 1 + 1 + 1 := by omega
  have q8 : (m : Int) + 1 - (1 + es) < 0 := by omega
  have q7 : ¬ ((ed : Int) + 1 ≤ 1) := by omega
  go_enter Tryz.func98, Tryz.ntmps98
  go_wp2_with (first
      | (go_at_call 100; refine (HP.out _).mono ?_; rintro e w' ⟨rfl, rfl⟩)
      | (go_at_call 113; refine (HF.out _).mono ?_; rintro e w' ⟨rfl, rfl⟩))
  refine wp_loop_rounds 2 ?_
  rw [rounds_succ]; go_wp2
  go_region
  go_wp2
  go_region
  go_wp2
  rw [rounds_succ]; go_wp2
  refine bodyPost_ret (v := .tuple #[.agg #[.int .i64 0, .int .i64 0], .bool false]) (by simp [results, Tryz.results98, go_sem]) rfl ⟨0, 0, rfl, ?_⟩
  repeat (first | exact Below.refl _ _ | refine Below.alloc ?_ (by simp; try omega) _ | refine Below.setCell ?_ (by simp; try omega) _ | refine Below.drew ?_)
end Go.Proofs.YtlmamidodahgmaaGreatDoor.N4

/- NNext2: Walks of next where a node has two parts. -/
namespace Go.Proofs.YtlmamidodahgmaaGreatDoor.N4
open Go.ChangeShapes Go.WideShapes Go.ChangeAt Go.RowKit
set_option linter.unusedVariables false
set_option maxRecDepth 100000
set_option linter.unusedSimpArgs false

set_option maxHeartbeats 2000000 in
theorem next_v2_tta (k nn a b p : Int) (w : World) (ad : Addr) (m c es ed fs fd g : Nat) (d0 : w.cell? (ad.add ((m + es) * 2)) = some (.int .i64 es)) (d1 : w.cell? ⟨(ad.add ((m + es) * 2)).block, (ad.add ((m + es) * 2)).off + 1, none⟩ = some (.int .i64 ed)) (hab : (ad.add ((m + es) * 2)).block < w.heap.size) (g0 : w.cell? (ad.add (m * 2)) = some (.int .i64 fs)) (g1 : w.cell? ⟨(ad.add (m * 2)).block, (ad.add (m * 2)).off + 1, none⟩ = some (.int .i64 fd)) (hab' : (ad.add (m * 2)).block < w.heap.size) (hn : m ≤ 60) (q4 : es ≤ 60) (q5 : ed ≤ 60) (q6 : 1 ≤ ed) (q4' : fs ≤ 60) (q5' : fd ≤ 60) (e2 : partsN k = 2) (h0 : okK k = true) (h1 : fitsF k nn p = true)  (hx : ed < fd) :
    Calls Tryz.prog 98 #[.slice (some ad) (m + es + 1) c, .agg #[.int .u8 k, .int .i64 nn, .int .i64 (m : Int), .int .i64 ((m : Int) + es), .int .i64 p]] w fun e w' => e = .returned (.tuple #[.agg #[.int .i64 (1 + es + fs : Nat), .int .i64 (fd + 1 : Nat)], .bool true]) ∧ Below w.heap.size w w' := by
  have e3 : partsE k = 0 := by simp [partsE, h0]
  have HP := Lib.hid (fun w => show Calls Tryz.prog 100 #[.int .u8 k] w fun e w' => e = .returned (.tuple #[.int .i64 2, .int .i64 0]) ∧ w = w' by have := parts_any k w; rwa [e2, e3] at this)
  have HF := Lib.hid (fun w => fits_any k nn p true h1 w)
  have hgt : Tryz.prog.eqGuardType Tryz.prog.depth 58 = false := by kernel_rfl
  clear e2 e3 h1
  have q1 : (ad.add ((m + es) * 2)).block < w.heap.size + 1 := by omega
  have q2 : (ad.add ((m + es) * 2)).block < w.heap.size + 1 + 1 := by omega
  have q3 : (ad.add ((m + es) * 2)).block < w.heap.size + 1 + 1 + 1 := by omega
  have q1' : (ad.add (m * 2)).block < w.heap.size + 1 := by omega
  have q2' : (ad.add (m * 2)).block < w.heap.size + 1 + 1 := by omega
  have q3' : (ad.add (m * 2)).block < w.heap.size + 1 + 1 + 1 := by omega
  have q8 : (m : Int) + es + 1 - (1 + es) = m := by omega
  have q7 : ¬ ((ed : Int) + 1 ≤ 1) := by omega
  go_enter Tryz.func98, Tryz.ntmps98
  go_wp2_with (first
      | (go_at_call 100; refine (HP.out _).mono ?_; rintro e w' ⟨rfl, rfl⟩)
      | (go_at_call 113; refine (HF.out _).mono ?_; rintro e w' ⟨rfl, rfl⟩))
  refine wp_loop_rounds 3 ?_
  rw [rounds_succ]; go_wp2
  go_region
  go_wp2
  go_region
  go_wp2
  rw [rounds_succ]; go_wp2
  go_region
  go_wp2
  go_region
  go_wp2
  rw [rounds_succ]; go_wp2
  refine wp_gen (fun W => W.cell? ⟨w.heap.size, 0, none⟩ = some (.int .u8 k) ∧ W.cell? ⟨w.heap.size, 1, none⟩ = some (.int .i64 nn) ∧ W.cell? ⟨w.heap.size, 2, none⟩ = some (.int .i64 (m : Int)) ∧ W.cell? ⟨w.heap.size, 3, none⟩ = some (.int .i64 ((m : Int) + es)) ∧ W.cell? ⟨w.heap.size, 4, none⟩ = some (.int .i64 p) ∧ W.cell? ⟨w.heap.size + 1 + 1, 0, none⟩ = some (.int .i64 (1 + es + fs)) ∧ W.cell? ⟨w.heap.size + 1 + 1, 1, none⟩ = some (.int .i64 (fd + 1)) ∧ W.cell? ⟨w.heap.size + 1 + 1 + 1, 0, none⟩ = some (.int .i64 m) ∧ W.cell? ⟨w.heap.size + 1 + 1 + 1, 1, none⟩ = some (.int .i64 ((m : Int) + es)) ∧ W.cell? ⟨w.heap.size + 1, 0, none⟩ = some (.int .i64 0) ∧ W.cell? ⟨w.heap.size + 1, 1, none⟩ = some (.int .i64 0) ∧ W.frozen? ⟨w.heap.size + 1, 0, none⟩ = false ∧ W.frozen? ⟨w.heap.size + 1, 1, none⟩ = false ∧ w.heap.size + 1 + 1 + 1 < W.heap.size ∧ Hid (Below w.heap.size w W)) ⟨by go_simp, by go_simp, by go_simp, by go_simp, by go_simp, by go_simp, by go_simp, by go_simp, by go_simp, by go_simp, by go_simp, by go_simp, by go_simp, by simp, Lib.hid (by repeat (first | exact Below.refl _ _ | refine Below.alloc ?_ (by simp; try omega) _ | refine Below.setCell ?_ (by simp; try omega) _ | refine Below.drew ?_))⟩ ?_
  rintro W ⟨c0, c1, c2, c3, c4, w0, w1, e0, e1, r0, r1, f0, f1, hsz, HBW⟩
  clear hab q1 q2 q3 q7 d0 d1 q4 q5 q6 hn h0 HP HF hab' q1' q2' q3' g0 g1 q4' q5' q8 hx
  go_region_held3 (fun w' => w'.cell? ⟨w.heap.size, 0, none⟩ = some (.int .u8 k) ∧ w'.cell? ⟨w.heap.size, 1, none⟩ = some (.int .i64 nn) ∧ w'.cell? ⟨w.heap.size, 2, none⟩ = some (.int .i64 (m : Int)) ∧ w'.cell? ⟨w.heap.size, 3, none⟩ = some (.int .i64 ((m : Int) + es)) ∧ w'.cell? ⟨w.heap.size, 4, none⟩ = some (.int .i64 p) ∧ w'.cell? ⟨w.heap.size + 1 + 1, 0, none⟩ = some (.int .i64 (1 + es + fs)) ∧ w'.cell? ⟨w.heap.size + 1 + 1, 1, none⟩ = some (.int .i64 (fd + 1)) ∧ w'.cell? ⟨w.heap.size + 1 + 1 + 1, 0, none⟩ = some (.int .i64 m) ∧ w'.cell? ⟨w.heap.size + 1 + 1 + 1, 1, none⟩ = some (.int .i64 ((m : Int) + es))) (go_keep) (fail)
  go_wp2
  refine bodyPost_ret (v := .tuple #[.agg #[.int .i64 (1 + es + fs : Nat), .int .i64 (fd + 1 : Nat)], .bool true]) (by simp [results, Tryz.results98, go_sem, r0, r1, f0, f1, hsz]) rfl ⟨rfl, ?_⟩
  exact (HBW.out.drew.setCell (by simp) _).setCell (by simp) _
set_option maxHeartbeats 2000000 in
theorem next_v2_ttb (k nn a b p : Int) (w : World) (ad : Addr) (m c es ed fs fd g : Nat) (d0 : w.cell? (ad.add ((m + es) * 2)) = some (.int .i64 es)) (d1 : w.cell? ⟨(ad.add ((m + es) * 2)).block, (ad.add ((m + es) * 2)).off + 1, none⟩ = some (.int .i64 ed)) (hab : (ad.add ((m + es) * 2)).block < w.heap.size) (g0 : w.cell? (ad.add (m * 2)) = some (.int .i64 fs)) (g1 : w.cell? ⟨(ad.add (m * 2)).block, (ad.add (m * 2)).off + 1, none⟩ = some (.int .i64 fd)) (hab' : (ad.add (m * 2)).block < w.heap.size) (hn : m ≤ 60) (q4 : es ≤ 60) (q5 : ed ≤ 60) (q6 : 1 ≤ ed) (q4' : fs ≤ 60) (q5' : fd ≤ 60) (e2 : partsN k = 2) (h0 : okK k = true) (h1 : fitsF k nn p = true)  (hx : ¬ ed < fd) :
    Calls Tryz.prog 98 #[.slice (some ad) (m + es + 1) c, .agg #[.int .u8 k, .int .i64 nn, .int .i64 (m : Int), .int .i64 ((m : Int) + es), .int .i64 p]] w fun e w' => e = .returned (.tuple #[.agg #[.int .i64 (1 + es + fs : Nat), .int .i64 (ed + 1 : Nat)], .bool true]) ∧ Below w.heap.size w w' := by
  have e3 : partsE k = 0 := by simp [partsE, h0]
  have HP := Lib.hid (fun w => show Calls Tryz.prog 100 #[.int .u8 k] w fun e w' => e = .returned (.tuple #[.int .i64 2, .int .i64 0]) ∧ w = w' by have := parts_any k w; rwa [e2, e3] at this)
  have HF := Lib.hid (fun w => fits_any k nn p true h1 w)
  have hgt : Tryz.prog.eqGuardType Tryz.prog.depth 58 = false := by kernel_rfl
  clear e2 e3 h1
  have q1 : (ad.add ((m + es) * 2)).block < w.heap.size + 1 := by omega
  have q2 : (ad.add ((m + es) * 2)).block < w.heap.size + 1 + 1 := by omega
  have q3 : (ad.add ((m + es) * 2)).block < w.heap.size + 1 + 1 + 1 := by omega
  have q1' : (ad.add (m * 2)).block < w.heap.size + 1 := by omega
  have q2' : (ad.add (m * 2)).block < w.heap.size + 1 + 1 := by omega
  have q3' : (ad.add (m * 2)).block < w.heap.size + 1 + 1 + 1 := by omega
  have q8 : (m : Int) + es + 1 - (1 + es) = m := by omega
  have q7 : ¬ ((ed : Int) + 1 ≤ 1) := by omega
  go_enter Tryz.func98, Tryz.ntmps98
  go_wp2_with (first
      | (go_at_call 100; refine (HP.out _).mono ?_; rintro e w' ⟨rfl, rfl⟩)
      | (go_at_call 113; refine (HF.out _).mono ?_; rintro e w' ⟨rfl, rfl⟩))
  refine wp_loop_rounds 3 ?_
  rw [rounds_succ]; go_wp2
  go_region
  go_wp2
  go_region
  go_wp2
  rw [rounds_succ]; go_wp2
  go_region
  go_wp2
  go_region
  go_wp2
  rw [rounds_succ]; go_wp2
  refine wp_gen (fun W => W.cell? ⟨w.heap.size, 0, none⟩ = some (.int .u8 k) ∧ W.cell? ⟨w.heap.size, 1, none⟩ = some (.int .i64 nn) ∧ W.cell? ⟨w.heap.size, 2, none⟩ = some (.int .i64 (m : Int)) ∧ W.cell? ⟨w.heap.size, 3, none⟩ = some (.int .i64 ((m : Int) + es)) ∧ W.cell? ⟨w.heap.size, 4, none⟩ = some (.int .i64 p) ∧ W.cell? ⟨w.heap.size + 1 + 1, 0, none⟩ = some (.int .i64 (1 + es + fs)) ∧ W.cell? ⟨w.heap.size + 1 + 1, 1, none⟩ = some (.int .i64 (ed + 1)) ∧ W.cell? ⟨w.heap.size + 1 + 1 + 1, 0, none⟩ = some (.int .i64 m) ∧ W.cell? ⟨w.heap.size + 1 + 1 + 1, 1, none⟩ = some (.int .i64 ((m : Int) + es)) ∧ W.cell? ⟨w.heap.size + 1, 0, none⟩ = some (.int .i64 0) ∧ W.cell? ⟨w.heap.size + 1, 1, none⟩ = some (.int .i64 0) ∧ W.frozen? ⟨w.heap.size + 1, 0, none⟩ = false ∧ W.frozen? ⟨w.heap.size + 1, 1, none⟩ = false ∧ w.heap.size + 1 + 1 + 1 < W.heap.size ∧ Hid (Below w.heap.size w W)) ⟨by go_simp, by go_simp, by go_simp, by go_simp, by go_simp, by go_simp, by go_simp, by go_simp, by go_simp, by go_simp, by go_simp, by go_simp, by go_simp, by simp, Lib.hid (by repeat (first | exact Below.refl _ _ | refine Below.alloc ?_ (by simp; try omega) _ | refine Below.setCell ?_ (by simp; try omega) _ | refine Below.drew ?_))⟩ ?_
  rintro W ⟨c0, c1, c2, c3, c4, w0, w1, e0, e1, r0, r1, f0, f1, hsz, HBW⟩
  clear hab q1 q2 q3 q7 d0 d1 q4 q5 q6 hn h0 HP HF hab' q1' q2' q3' g0 g1 q4' q5' q8 hx
  go_region_held3 (fun w' => w'.cell? ⟨w.heap.size, 0, none⟩ = some (.int .u8 k) ∧ w'.cell? ⟨w.heap.size, 1, none⟩ = some (.int .i64 nn) ∧ w'.cell? ⟨w.heap.size, 2, none⟩ = some (.int .i64 (m : Int)) ∧ w'.cell? ⟨w.heap.size, 3, none⟩ = some (.int .i64 ((m : Int) + es)) ∧ w'.cell? ⟨w.heap.size, 4, none⟩ = some (.int .i64 p) ∧ w'.cell? ⟨w.heap.size + 1 + 1, 0, none⟩ = some (.int .i64 (1 + es + fs)) ∧ w'.cell? ⟨w.heap.size + 1 + 1, 1, none⟩ = some (.int .i64 (ed + 1)) ∧ w'.cell? ⟨w.heap.size + 1 + 1 + 1, 0, none⟩ = some (.int .i64 m) ∧ w'.cell? ⟨w.heap.size + 1 + 1 + 1, 1, none⟩ = some (.int .i64 ((m : Int) + es))) (go_keep) (fail)
  go_wp2
  refine bodyPost_ret (v := .tuple #[.agg #[.int .i64 (1 + es + fs : Nat), .int .i64 (ed + 1 : Nat)], .bool true]) (by simp [results, Tryz.results98, go_sem, r0, r1, f0, f1, hsz]) rfl ⟨rfl, ?_⟩
  exact (HBW.out.drew.setCell (by simp) _).setCell (by simp) _
set_option maxHeartbeats 2000000 in
theorem next_v2_tfa (k nn a b p : Int) (w : World) (ad : Addr) (m c es ed fs fd g : Nat) (d0 : w.cell? (ad.add ((m + es) * 2)) = some (.int .i64 es)) (d1 : w.cell? ⟨(ad.add ((m + es) * 2)).block, (ad.add ((m + es) * 2)).off + 1, none⟩ = some (.int .i64 ed)) (hab : (ad.add ((m + es) * 2)).block < w.heap.size) (g0 : w.cell? (ad.add (m * 2)) = some (.int .i64 fs)) (g1 : w.cell? ⟨(ad.add (m * 2)).block, (ad.add (m * 2)).off + 1, none⟩ = some (.int .i64 fd)) (hab' : (ad.add (m * 2)).block < w.heap.size) (hn : m ≤ 60) (q4 : es ≤ 60) (q5 : ed ≤ 60) (q6 : 1 ≤ ed) (q4' : fs ≤ 60) (q5' : fd ≤ 60) (e2 : partsN k = 2) (h0 : okK k = true) (h1 : fitsF k nn p = true) (hb : ¬ b = (m : Int) + es) (hx : ed < fd) :
    Calls Tryz.prog 98 #[.slice (some ad) (m + es + 1) c, .agg #[.int .u8 k, .int .i64 nn, .int .i64 (m : Int), .int .i64 b, .int .i64 p]] w fun e w' => e = .returned (.tuple #[.agg #[.int .i64 (1 + es + fs : Nat), .int .i64 (fd + 1 : Nat)], .bool false]) ∧ Below w.heap.size w w' := by
  have e3 : partsE k = 0 := by simp [partsE, h0]
  have HP := Lib.hid (fun w => show Calls Tryz.prog 100 #[.int .u8 k] w fun e w' => e = .returned (.tuple #[.int .i64 2, .int .i64 0]) ∧ w = w' by have := parts_any k w; rwa [e2, e3] at this)
  have HF := Lib.hid (fun w => fits_any k nn p true h1 w)
  have hgt : Tryz.prog.eqGuardType Tryz.prog.depth 58 = false := by kernel_rfl
  clear e2 e3 h1
  have q1 : (ad.add ((m + es) * 2)).block < w.heap.size + 1 := by omega
  have q2 : (ad.add ((m + es) * 2)).block < w.heap.size + 1 + 1 := by omega
  have q3 : (ad.add ((m + es) * 2)).block < w.heap.size + 1 + 1 + 1 := by omega
  have q1' : (ad.add (m * 2)).block < w.heap.size + 1 := by omega
  have q2' : (ad.add (m * 2)).block < w.heap.size + 1 + 1 := by omega
  have q3' : (ad.add (m * 2)).block < w.heap.size + 1 + 1 + 1 := by omega
  have q8 : (m : Int) + es + 1 - (1 + es) = m := by omega
  have q7 : ¬ ((ed : Int) + 1 ≤ 1) := by omega
  go_enter Tryz.func98, Tryz.ntmps98
  go_wp2_with (first
      | (go_at_call 100; refine (HP.out _).mono ?_; rintro e w' ⟨rfl, rfl⟩)
      | (go_at_call 113; refine (HF.out _).mono ?_; rintro e w' ⟨rfl, rfl⟩))
  refine wp_loop_rounds 3 ?_
  rw [rounds_succ]; go_wp2
  go_region
  go_wp2
  go_region
  go_wp2
  rw [rounds_succ]; go_wp2
  go_region
  go_wp2
  go_region
  go_wp2
  rw [rounds_succ]; go_wp2
  refine wp_gen (fun W => W.cell? ⟨w.heap.size, 0, none⟩ = some (.int .u8 k) ∧ W.cell? ⟨w.heap.size, 1, none⟩ = some (.int .i64 nn) ∧ W.cell? ⟨w.heap.size, 2, none⟩ = some (.int .i64 (m : Int)) ∧ W.cell? ⟨w.heap.size, 3, none⟩ = some (.int .i64 b) ∧ W.cell? ⟨w.heap.size, 4, none⟩ = some (.int .i64 p) ∧ W.cell? ⟨w.heap.size + 1 + 1, 0, none⟩ = some (.int .i64 (1 + es + fs)) ∧ W.cell? ⟨w.heap.size + 1 + 1, 1, none⟩ = some (.int .i64 (fd + 1)) ∧ W.cell? ⟨w.heap.size + 1 + 1 + 1, 0, none⟩ = some (.int .i64 m) ∧ W.cell? ⟨w.heap.size + 1 + 1 + 1, 1, none⟩ = some (.int .i64 ((m : Int) + es)) ∧ W.cell? ⟨w.heap.size + 1, 0, none⟩ = some (.int .i64 0) ∧ W.cell? ⟨w.heap.size + 1, 1, none⟩ = some (.int .i64 0) ∧ W.frozen? ⟨w.heap.size + 1, 0, none⟩ = false ∧ W.frozen? ⟨w.heap.size + 1, 1, none⟩ = false ∧ w.heap.size + 1 + 1 + 1 < W.heap.size ∧ Hid (Below w.heap.size w W)) ⟨by go_simp, by go_simp, by go_simp, by go_simp, by go_simp, by go_simp, by go_simp, by go_simp, by go_simp, by go_simp, by go_simp, by go_simp, by go_simp, by simp, Lib.hid (by repeat (first | exact Below.refl _ _ | refine Below.alloc ?_ (by simp; try omega) _ | refine Below.setCell ?_ (by simp; try omega) _ | refine Below.drew ?_))⟩ ?_
  rintro W ⟨c0, c1, c2, c3, c4, w0, w1, e0, e1, r0, r1, f0, f1, hsz, HBW⟩
  clear hab q1 q2 q3 q7 d0 d1 q4 q5 q6 hn h0 HP HF hab' q1' q2' q3' g0 g1 q4' q5' q8 hx
  go_region_held3 (fun w' => w'.cell? ⟨w.heap.size, 0, none⟩ = some (.int .u8 k) ∧ w'.cell? ⟨w.heap.size, 1, none⟩ = some (.int .i64 nn) ∧ w'.cell? ⟨w.heap.size, 2, none⟩ = some (.int .i64 (m : Int)) ∧ w'.cell? ⟨w.heap.size, 3, none⟩ = some (.int .i64 b) ∧ w'.cell? ⟨w.heap.size, 4, none⟩ = some (.int .i64 p) ∧ w'.cell? ⟨w.heap.size + 1 + 1, 0, none⟩ = some (.int .i64 (1 + es + fs)) ∧ w'.cell? ⟨w.heap.size + 1 + 1, 1, none⟩ = some (.int .i64 (fd + 1)) ∧ w'.cell? ⟨w.heap.size + 1 + 1 + 1, 0, none⟩ = some (.int .i64 m) ∧ w'.cell? ⟨w.heap.size + 1 + 1 + 1, 1, none⟩ = some (.int .i64 ((m : Int) + es))) (go_keep) (fail)
  go_wp2
  refine bodyPost_ret (v := .tuple #[.agg #[.int .i64 (1 + es + fs : Nat), .int .i64 (fd + 1 : Nat)], .bool false]) (by simp [results, Tryz.results98, go_sem, r0, r1, f0, f1, hsz]) rfl ⟨rfl, ?_⟩
  exact (HBW.out.drew.setCell (by simp) _).setCell (by simp) _
set_option maxHeartbeats 2000000 in
theorem next_v2_tfb (k nn a b p : Int) (w : World) (ad : Addr) (m c es ed fs fd g : Nat) (d0 : w.cell? (ad.add ((m + es) * 2)) = some (.int .i64 es)) (d1 : w.cell? ⟨(ad.add ((m + es) * 2)).block, (ad.add ((m + es) * 2)).off + 1, none⟩ = some (.int .i64 ed)) (hab : (ad.add ((m + es) * 2)).block < w.heap.size) (g0 : w.cell? (ad.add (m * 2)) = some (.int .i64 fs)) (g1 : w.cell? ⟨(ad.add (m * 2)).block, (ad.add (m * 2)).off + 1, none⟩ = some (.int .i64 fd)) (hab' : (ad.add (m * 2)).block < w.heap.size) (hn : m ≤ 60) (q4 : es ≤ 60) (q5 : ed ≤ 60) (q6 : 1 ≤ ed) (q4' : fs ≤ 60) (q5' : fd ≤ 60) (e2 : partsN k = 2) (h0 : okK k = true) (h1 : fitsF k nn p = true) (hb : ¬ b = (m : Int) + es) (hx : ¬ ed < fd) :
    Calls Tryz.prog 98 #[.slice (some ad) (m + es + 1) c, .agg #[.int .u8 k, .int .i64 nn, .int .i64 (m : Int), .int .i64 b, .int .i64 p]] w fun e w' => e = .returned (.tuple #[.agg #[.int .i64 (1 + es + fs : Nat), .int .i64 (ed + 1 : Nat)], .bool false]) ∧ Below w.heap.size w w' := by
  have e3 : partsE k = 0 := by simp [partsE, h0]
  have HP := Lib.hid (fun w => show Calls Tryz.prog 100 #[.int .u8 k] w fun e w' => e = .returned (.tuple #[.int .i64 2, .int .i64 0]) ∧ w = w' by have := parts_any k w; rwa [e2, e3] at this)
  have HF := Lib.hid (fun w => fits_any k nn p true h1 w)
  have hgt : Tryz.prog.eqGuardType Tryz.prog.depth 58 = false := by kernel_rfl
  clear e2 e3 h1
  have q1 : (ad.add ((m + es) * 2)).block < w.heap.size + 1 := by omega
  have q2 : (ad.add ((m + es) * 2)).block < w.heap.size + 1 + 1 := by omega
  have q3 : (ad.add ((m + es) * 2)).block < w.heap.size + 1 + 1 + 1 := by omega
  have q1' : (ad.add (m * 2)).block < w.heap.size + 1 := by omega
  have q2' : (ad.add (m * 2)).block < w.heap.size + 1 + 1 := by omega
  have q3' : (ad.add (m * 2)).block < w.heap.size + 1 + 1 + 1 := by omega
  have q8 : (m : Int) + es + 1 - (1 + es) = m := by omega
  have q7 : ¬ ((ed : Int) + 1 ≤ 1) := by omega
  go_enter Tryz.func98, Tryz.ntmps98
  go_wp2_with (first
      | (go_at_call 100; refine (HP.out _).mono ?_; rintro e w' ⟨rfl, rfl⟩)
      | (go_at_call 113; refine (HF.out _).mono ?_; rintro e w' ⟨rfl, rfl⟩))
  refine wp_loop_rounds 3 ?_
  rw [rounds_succ]; go_wp2
  go_region
  go_wp2
  go_region
  go_wp2
  rw [rounds_succ]; go_wp2
  go_region
  go_wp2
  go_region
  go_wp2
  rw [rounds_succ]; go_wp2
  refine wp_gen (fun W => W.cell? ⟨w.heap.size, 0, none⟩ = some (.int .u8 k) ∧ W.cell? ⟨w.heap.size, 1, none⟩ = some (.int .i64 nn) ∧ W.cell? ⟨w.heap.size, 2, none⟩ = some (.int .i64 (m : Int)) ∧ W.cell? ⟨w.heap.size, 3, none⟩ = some (.int .i64 b) ∧ W.cell? ⟨w.heap.size, 4, none⟩ = some (.int .i64 p) ∧ W.cell? ⟨w.heap.size + 1 + 1, 0, none⟩ = some (.int .i64 (1 + es + fs)) ∧ W.cell? ⟨w.heap.size + 1 + 1, 1, none⟩ = some (.int .i64 (ed + 1)) ∧ W.cell? ⟨w.heap.size + 1 + 1 + 1, 0, none⟩ = some (.int .i64 m) ∧ W.cell? ⟨w.heap.size + 1 + 1 + 1, 1, none⟩ = some (.int .i64 ((m : Int) + es)) ∧ W.cell? ⟨w.heap.size + 1, 0, none⟩ = some (.int .i64 0) ∧ W.cell? ⟨w.heap.size + 1, 1, none⟩ = some (.int .i64 0) ∧ W.frozen? ⟨w.heap.size + 1, 0, none⟩ = false ∧ W.frozen? ⟨w.heap.size + 1, 1, none⟩ = false ∧ w.heap.size + 1 + 1 + 1 < W.heap.size ∧ Hid (Below w.heap.size w W)) ⟨by go_simp, by go_simp, by go_simp, by go_simp, by go_simp, by go_simp, by go_simp, by go_simp, by go_simp, by go_simp, by go_simp, by go_simp, by go_simp, by simp, Lib.hid (by repeat (first | exact Below.refl _ _ | refine Below.alloc ?_ (by simp; try omega) _ | refine Below.setCell ?_ (by simp; try omega) _ | refine Below.drew ?_))⟩ ?_
  rintro W ⟨c0, c1, c2, c3, c4, w0, w1, e0, e1, r0, r1, f0, f1, hsz, HBW⟩
  clear hab q1 q2 q3 q7 d0 d1 q4 q5 q6 hn h0 HP HF hab' q1' q2' q3' g0 g1 q4' q5' q8 hx
  go_region_held3 (fun w' => w'.cell? ⟨w.heap.size, 0, none⟩ = some (.int .u8 k) ∧ w'.cell? ⟨w.heap.size, 1, none⟩ = some (.int .i64 nn) ∧ w'.cell? ⟨w.heap.size, 2, none⟩ = some (.int .i64 (m : Int)) ∧ w'.cell? ⟨w.heap.size, 3, none⟩ = some (.int .i64 b) ∧ w'.cell? ⟨w.heap.size, 4, none⟩ = some (.int .i64 p) ∧ w'.cell? ⟨w.heap.size + 1 + 1, 0, none⟩ = some (.int .i64 (1 + es + fs)) ∧ w'.cell? ⟨w.heap.size + 1 + 1, 1, none⟩ = some (.int .i64 (ed + 1)) ∧ w'.cell? ⟨w.heap.size + 1 + 1 + 1, 0, none⟩ = some (.int .i64 m) ∧ w'.cell? ⟨w.heap.size + 1 + 1 + 1, 1, none⟩ = some (.int .i64 ((m : Int) + es))) (go_keep) (fail)
  go_wp2
  refine bodyPost_ret (v := .tuple #[.agg #[.int .i64 (1 + es + fs : Nat), .int .i64 (ed + 1 : Nat)], .bool false]) (by simp [results, Tryz.results98, go_sem, r0, r1, f0, f1, hsz]) rfl ⟨rfl, ?_⟩
  exact (HBW.out.drew.setCell (by simp) _).setCell (by simp) _
set_option maxHeartbeats 2000000 in
theorem next_v2_fa (k nn a b p : Int) (w : World) (ad : Addr) (m c es ed fs fd g : Nat) (d0 : w.cell? (ad.add ((m + es) * 2)) = some (.int .i64 es)) (d1 : w.cell? ⟨(ad.add ((m + es) * 2)).block, (ad.add ((m + es) * 2)).off + 1, none⟩ = some (.int .i64 ed)) (hab : (ad.add ((m + es) * 2)).block < w.heap.size) (g0 : w.cell? (ad.add (m * 2)) = some (.int .i64 fs)) (g1 : w.cell? ⟨(ad.add (m * 2)).block, (ad.add (m * 2)).off + 1, none⟩ = some (.int .i64 fd)) (hab' : (ad.add (m * 2)).block < w.heap.size) (hn : m ≤ 60) (q4 : es ≤ 60) (q5 : ed ≤ 60) (q6 : 1 ≤ ed) (q4' : fs ≤ 60) (q5' : fd ≤ 60) (e2 : partsN k = 2) (h0 : okK k = true) (h1 : fitsF k nn p = true) (ha : ¬ a = (m : Int)) (hx : ed < fd) :
    Calls Tryz.prog 98 #[.slice (some ad) (m + es + 1) c, .agg #[.int .u8 k, .int .i64 nn, .int .i64 a, .int .i64 b, .int .i64 p]] w fun e w' => e = .returned (.tuple #[.agg #[.int .i64 (1 + es + fs : Nat), .int .i64 (fd + 1 : Nat)], .bool false]) ∧ Below w.heap.size w w' := by
  have e3 : partsE k = 0 := by simp [partsE, h0]
  have HP := Lib.hid (fun w => show Calls Tryz.prog 100 #[.int .u8 k] w fun e w' => e = .returned (.tuple #[.int .i64 2, .int .i64 0]) ∧ w = w' by have := parts_any k w; rwa [e2, e3] at this)
  have HF := Lib.hid (fun w => fits_any k nn p true h1 w)
  have hgt : Tryz.prog.eqGuardType Tryz.prog.depth 58 = false := by kernel_rfl
  clear e2 e3 h1
  have q1 : (ad.add ((m + es) * 2)).block < w.heap.size + 1 := by omega
  have q2 : (ad.add ((m + es) * 2)).block < w.heap.size + 1 + 1 := by omega
  have q3 : (ad.add ((m + es) * 2)).block < w.heap.size + 1 + 1 + 1 := by omega
  have q1' : (ad.add (m * 2)).block < w.heap.size + 1 := by omega
  have q2' : (ad.add (m * 2)).block < w.heap.size + 1 + 1 := by omega
  have q3' : (ad.add (m * 2)).block < w.heap.size + 1 + 1 + 1 := by omega
  have q8 : (m : Int) + es + 1 - (1 + es) = m := by omega
  have q7 : ¬ ((ed : Int) + 1 ≤ 1) := by omega
  go_enter Tryz.func98, Tryz.ntmps98
  go_wp2_with (first
      | (go_at_call 100; refine (HP.out _).mono ?_; rintro e w' ⟨rfl, rfl⟩)
      | (go_at_call 113; refine (HF.out _).mono ?_; rintro e w' ⟨rfl, rfl⟩))
  refine wp_loop_rounds 3 ?_
  rw [rounds_succ]; go_wp2
  go_region
  go_wp2
  go_region
  go_wp2
  rw [rounds_succ]; go_wp2
  go_region
  go_wp2
  go_region
  go_wp2
  rw [rounds_succ]; go_wp2
  refine wp_gen (fun W => W.cell? ⟨w.heap.size, 0, none⟩ = some (.int .u8 k) ∧ W.cell? ⟨w.heap.size, 1, none⟩ = some (.int .i64 nn) ∧ W.cell? ⟨w.heap.size, 2, none⟩ = some (.int .i64 a) ∧ W.cell? ⟨w.heap.size, 3, none⟩ = some (.int .i64 b) ∧ W.cell? ⟨w.heap.size, 4, none⟩ = some (.int .i64 p) ∧ W.cell? ⟨w.heap.size + 1 + 1, 0, none⟩ = some (.int .i64 (1 + es + fs)) ∧ W.cell? ⟨w.heap.size + 1 + 1, 1, none⟩ = some (.int .i64 (fd + 1)) ∧ W.cell? ⟨w.heap.size + 1 + 1 + 1, 0, none⟩ = some (.int .i64 m) ∧ W.cell? ⟨w.heap.size + 1 + 1 + 1, 1, none⟩ = some (.int .i64 ((m : Int) + es)) ∧ W.cell? ⟨w.heap.size + 1, 0, none⟩ = some (.int .i64 0) ∧ W.cell? ⟨w.heap.size + 1, 1, none⟩ = some (.int .i64 0) ∧ W.frozen? ⟨w.heap.size + 1, 0, none⟩ = false ∧ W.frozen? ⟨w.heap.size + 1, 1, none⟩ = false ∧ w.heap.size + 1 + 1 + 1 < W.heap.size ∧ Hid (Below w.heap.size w W)) ⟨by go_simp, by go_simp, by go_simp, by go_simp, by go_simp, by go_simp, by go_simp, by go_simp, by go_simp, by go_simp, by go_simp, by go_simp, by go_simp, by simp, Lib.hid (by repeat (first | exact Below.refl _ _ | refine Below.alloc ?_ (by simp; try omega) _ | refine Below.setCell ?_ (by simp; try omega) _ | refine Below.drew ?_))⟩ ?_
  rintro W ⟨c0, c1, c2, c3, c4, w0, w1, e0, e1, r0, r1, f0, f1, hsz, HBW⟩
  clear hab q1 q2 q3 q7 d0 d1 q4 q5 q6 hn h0 HP HF hab' q1' q2' q3' g0 g1 q4' q5' q8 hx
  go_region_held3 (fun w' => w'.cell? ⟨w.heap.size, 0, none⟩ = some (.int .u8 k) ∧ w'.cell? ⟨w.heap.size, 1, none⟩ = some (.int .i64 nn) ∧ w'.cell? ⟨w.heap.size, 2, none⟩ = some (.int .i64 a) ∧ w'.cell? ⟨w.heap.size, 3, none⟩ = some (.int .i64 b) ∧ w'.cell? ⟨w.heap.size, 4, none⟩ = some (.int .i64 p) ∧ w'.cell? ⟨w.heap.size + 1 + 1, 0, none⟩ = some (.int .i64 (1 + es + fs)) ∧ w'.cell? ⟨w.heap.size + 1 + 1, 1, none⟩ = some (.int .i64 (fd + 1)) ∧ w'.cell? ⟨w.heap.size + 1 + 1 + 1, 0, none⟩ = some (.int .i64 m) ∧ w'.cell? ⟨w.heap.size + 1 + 1 + 1, 1, none⟩ = some (.int .i64 ((m : Int) + es))) (go_keep) (fail)
  go_wp2
  refine bodyPost_ret (v := .tuple #[.agg #[.int .i64 (1 + es + fs : Nat), .int .i64 (fd + 1 : Nat)], .bool false]) (by simp [results, Tryz.results98, go_sem, r0, r1, f0, f1, hsz]) rfl ⟨rfl, ?_⟩
  exact (HBW.out.drew.setCell (by simp) _).setCell (by simp) _
set_option maxHeartbeats 2000000 in
theorem next_v2_fb (k nn a b p : Int) (w : World) (ad : Addr) (m c es ed fs fd g : Nat) (d0 : w.cell? (ad.add ((m + es) * 2)) = some (.int .i64 es)) (d1 : w.cell? ⟨(ad.add ((m + es) * 2)).block, (ad.add ((m + es) * 2)).off + 1, none⟩ = some (.int .i64 ed)) (hab : (ad.add ((m + es) * 2)).block < w.heap.size) (g0 : w.cell? (ad.add (m * 2)) = some (.int .i64 fs)) (g1 : w.cell? ⟨(ad.add (m * 2)).block, (ad.add (m * 2)).off + 1, none⟩ = some (.int .i64 fd)) (hab' : (ad.add (m * 2)).block < w.heap.size) (hn : m ≤ 60) (q4 : es ≤ 60) (q5 : ed ≤ 60) (q6 : 1 ≤ ed) (q4' : fs ≤ 60) (q5' : fd ≤ 60) (e2 : partsN k = 2) (h0 : okK k = true) (h1 : fitsF k nn p = true) (ha : ¬ a = (m : Int)) (hx : ¬ ed < fd) :
    Calls Tryz.prog 98 #[.slice (some ad) (m + es + 1) c, .agg #[.int .u8 k, .int .i64 nn, .int .i64 a, .int .i64 b, .int .i64 p]] w fun e w' => e = .returned (.tuple #[.agg #[.int .i64 (1 + es + fs : Nat), .int .i64 (ed + 1 : Nat)], .bool false]) ∧ Below w.heap.size w w' := by
  have e3 : partsE k = 0 := by simp [partsE, h0]
  have HP := Lib.hid (fun w => show Calls Tryz.prog 100 #[.int .u8 k] w fun e w' => e = .returned (.tuple #[.int .i64 2, .int .i64 0]) ∧ w = w' by have := parts_any k w; rwa [e2, e3] at this)
  have HF := Lib.hid (fun w => fits_any k nn p true h1 w)
  have hgt : Tryz.prog.eqGuardType Tryz.prog.depth 58 = false := by kernel_rfl
  clear e2 e3 h1
  have q1 : (ad.add ((m + es) * 2)).block < w.heap.size + 1 := by omega
  have q2 : (ad.add ((m + es) * 2)).block < w.heap.size + 1 + 1 := by omega
  have q3 : (ad.add ((m + es) * 2)).block < w.heap.size + 1 + 1 + 1 := by omega
  have q1' : (ad.add (m * 2)).block < w.heap.size + 1 := by omega
  have q2' : (ad.add (m * 2)).block < w.heap.size + 1 + 1 := by omega
  have q3' : (ad.add (m * 2)).block < w.heap.size + 1 + 1 + 1 := by omega
  have q8 : (m : Int) + es + 1 - (1 + es) = m := by omega
  have q7 : ¬ ((ed : Int) + 1 ≤ 1) := by omega
  go_enter Tryz.func98, Tryz.ntmps98
  go_wp2_with (first
      | (go_at_call 100; refine (HP.out _).mono ?_; rintro e w' ⟨rfl, rfl⟩)
      | (go_at_call 113; refine (HF.out _).mono ?_; rintro e w' ⟨rfl, rfl⟩))
  refine wp_loop_rounds 3 ?_
  rw [rounds_succ]; go_wp2
  go_region
  go_wp2
  go_region
  go_wp2
  rw [rounds_succ]; go_wp2
  go_region
  go_wp2
  go_region
  go_wp2
  rw [rounds_succ]; go_wp2
  refine wp_gen (fun W => W.cell? ⟨w.heap.size, 0, none⟩ = some (.int .u8 k) ∧ W.cell? ⟨w.heap.size, 1, none⟩ = some (.int .i64 nn) ∧ W.cell? ⟨w.heap.size, 2, none⟩ = some (.int .i64 a) ∧ W.cell? ⟨w.heap.size, 3, none⟩ = some (.int .i64 b) ∧ W.cell? ⟨w.heap.size, 4, none⟩ = some (.int .i64 p) ∧ W.cell? ⟨w.heap.size + 1 + 1, 0, none⟩ = some (.int .i64 (1 + es + fs)) ∧ W.cell? ⟨w.heap.size + 1 + 1, 1, none⟩ = some (.int .i64 (ed + 1)) ∧ W.cell? ⟨w.heap.size + 1 + 1 + 1, 0, none⟩ = some (.int .i64 m) ∧ W.cell? ⟨w.heap.size + 1 + 1 + 1, 1, none⟩ = some (.int .i64 ((m : Int) + es)) ∧ W.cell? ⟨w.heap.size + 1, 0, none⟩ = some (.int .i64 0) ∧ W.cell? ⟨w.heap.size + 1, 1, none⟩ = some (.int .i64 0) ∧ W.frozen? ⟨w.heap.size + 1, 0, none⟩ = false ∧ W.frozen? ⟨w.heap.size + 1, 1, none⟩ = false ∧ w.heap.size + 1 + 1 + 1 < W.heap.size ∧ Hid (Below w.heap.size w W)) ⟨by go_simp, by go_simp, by go_simp, by go_simp, by go_simp, by go_simp, by go_simp, by go_simp, by go_simp, by go_simp, by go_simp, by go_simp, by go_simp, by simp, Lib.hid (by repeat (first | exact Below.refl _ _ | refine Below.alloc ?_ (by simp; try omega) _ | refine Below.setCell ?_ (by simp; try omega) _ | refine Below.drew ?_))⟩ ?_
  rintro W ⟨c0, c1, c2, c3, c4, w0, w1, e0, e1, r0, r1, f0, f1, hsz, HBW⟩
  clear hab q1 q2 q3 q7 d0 d1 q4 q5 q6 hn h0 HP HF hab' q1' q2' q3' g0 g1 q4' q5' q8 hx
  go_region_held3 (fun w' => w'.cell? ⟨w.heap.size, 0, none⟩ = some (.int .u8 k) ∧ w'.cell? ⟨w.heap.size, 1, none⟩ = some (.int .i64 nn) ∧ w'.cell? ⟨w.heap.size, 2, none⟩ = some (.int .i64 a) ∧ w'.cell? ⟨w.heap.size, 3, none⟩ = some (.int .i64 b) ∧ w'.cell? ⟨w.heap.size, 4, none⟩ = some (.int .i64 p) ∧ w'.cell? ⟨w.heap.size + 1 + 1, 0, none⟩ = some (.int .i64 (1 + es + fs)) ∧ w'.cell? ⟨w.heap.size + 1 + 1, 1, none⟩ = some (.int .i64 (ed + 1)) ∧ w'.cell? ⟨w.heap.size + 1 + 1 + 1, 0, none⟩ = some (.int .i64 m) ∧ w'.cell? ⟨w.heap.size + 1 + 1 + 1, 1, none⟩ = some (.int .i64 ((m : Int) + es))) (go_keep) (fail)
  go_wp2
  refine bodyPost_ret (v := .tuple #[.agg #[.int .i64 (1 + es + fs : Nat), .int .i64 (ed + 1 : Nat)], .bool false]) (by simp [results, Tryz.results98, go_sem, r0, r1, f0, f1, hsz]) rfl ⟨rfl, ?_⟩
  exact (HBW.out.drew.setCell (by simp) _).setCell (by simp) _
end Go.Proofs.YtlmamidodahgmaaGreatDoor.N4

/- NNext: The contract of next: the extent of a node behind others. -/
namespace Go.Proofs.YtlmamidodahgmaaGreatDoor.N4
open Go.ChangeShapes Go.WideShapes Go.ChangeAt Go.RowKit
set_option linter.unusedVariables false
set_option maxRecDepth 100000
set_option linter.unusedSimpArgs false

theorem partsN_of {k v : Int} (h0 : okK k = true) (h : cnt k = v) : partsN k = v := by unfold partsN; rw [if_pos h0]; exact h
/-- What next answers where a node is needed that there is. -/
theorem next_val (A : Option Addr) (E : List Ex) (c : Nat) (x : Nd) (w : World) (hE : Lies w A (exCells E)) (hz : SzOk E) (hn : E.length ≤ 60) (h0 : okK x.k = true) (h1 : fitsF x.k x.n x.p = true) (y : Ex) (a' b' : Int) (hy : need E x.k = some (y, a', b')) (r : Bool) (hr : decide (x.a = a' ∧ x.b = b') = r) :
    Calls Tryz.prog 98 #[.slice A E.length c, ndV x] w fun e w' => e = .returned (.tuple #[.agg #[.int .i64 (y.s : Nat), .int .i64 (y.d : Nat)], .bool r]) ∧ Below w.heap.size w w' := by
  obtain ⟨k, nn, a, b, p⟩ := x
  dsimp only [ndV] at h0 h1 hy hr ⊢
  rcases need_some hy with ⟨hk, rfl, rfl, rfl⟩ | ⟨hk, hk2, e, he, hl, rfl, rfl, rfl⟩ | ⟨hk, e, f, he, hl, hs, hf, rfl, rfl, rfl⟩
  · have e2 : partsN k = 0 := partsN_of h0 (by rcases cnt_vals k with h2 | h2 | h2 <;> omega)
    by_cases ha : a = 0
    · by_cases hb : b = 0
      · subst ha hb
        obtain rfl : true = r := by rw [← hr]; simp
        exact next_v0_tt k nn 0 0 p w A _ c e2 h0 h1
      · subst ha
        obtain rfl : false = r := by rw [← hr]; simp [hb]
        exact next_v0_tf k nn 0 b p w A _ c e2 h0 h1 hb
    · obtain rfl : false = r := by rw [← hr]; simp [ha]
      exact next_v0_f k nn a b p w A _ c e2 h0 h1 ha
  · have e2 : partsN k = 1 := partsN_of h0 (by rcases cnt_vals k with h2 | h2 | h2 <;> omega)
    obtain ⟨ad, rfl, hadl, d0, d1⟩ := hE.ex he
    obtain ⟨z1, z2, z3, z4⟩ := hz _ _ he
    obtain ⟨m, hm⟩ : ∃ m, E.length = m + 1 := ⟨E.length - 1, by omega⟩
    rw [hm] at d0 d1 z2 hr ⊢
    rw [Nat.add_sub_cancel] at d0 d1 z2
    have hr' : decide (a = (m : Int) ∧ b = 0) = r := by rw [← hr]; congr 2; rw [show ((m + 1 : Nat) : Int) - 1 = m by omega]
    have hab : (ad.add (m * 2)).block < w.heap.size := by rw [add_block]; exact hadl
    by_cases ha : a = (m : Int)
    · by_cases hb : b = 0
      · subst ha hb
        obtain rfl : true = r := by rw [← hr']; simp
        exact next_v1_tt k nn 0 0 p w ad m c e.s e.d d0 d1 hab (by omega) (by omega) (by omega) z3 e2 h0 h1
      · subst ha
        obtain rfl : false = r := by rw [← hr']; simp [hb]
        exact next_v1_tf k nn 0 b p w ad m c e.s e.d d0 d1 hab (by omega) (by omega) (by omega) z3 e2 h0 h1 hb
    · obtain rfl : false = r := by rw [← hr']; simp [ha]
      exact next_v1_f k nn a b p w ad m c e.s e.d d0 d1 hab (by omega) (by omega) (by omega) z3 e2 h0 h1 ha
  · have e2 : partsN k = 2 := partsN_of h0 (by rcases cnt_vals k with h2 | h2 | h2 <;> omega)
    obtain ⟨ad, rfl, hadl, d0, d1⟩ := hE.ex he
    obtain ⟨ad', had', _, g0, g1⟩ := hE.ex hf
    injection had' with had'
    subst had'
    obtain ⟨z1, z2, z3, z4⟩ := hz _ _ he
    obtain ⟨y1, y2, y3, y4⟩ := hz _ _ hf
    obtain ⟨m, hm⟩ : ∃ m, E.length = m + e.s + 1 := ⟨E.length - 1 - e.s, by omega⟩
    rw [hm] at d0 d1 g0 g1 z2 y2 hr ⊢
    rw [Nat.add_sub_cancel] at d0 d1 z2 g0 g1 y2
    rw [Nat.add_sub_cancel] at g0 g1 y2
    have hr' : decide (a = (m : Int) ∧ b = (m : Int) + e.s) = r := by rw [← hr, show ((m + e.s + 1 : Nat) : Int) - 1 - e.s = m by omega, show ((m + e.s + 1 : Nat) : Int) - 1 = (m : Int) + e.s by omega]
    have hab : (ad.add ((m + e.s) * 2)).block < w.heap.size := by rw [add_block]; exact hadl
    have hab' : (ad.add (m * 2)).block < w.heap.size := by rw [add_block]; exact hadl
    by_cases hx : e.d < f.d
    · rw [show max (e.d + 1) (f.d + 1) = f.d + 1 by omega]
      by_cases ha : a = (m : Int)
      · by_cases hb : b = (m : Int) + e.s
        · subst ha hb
          obtain rfl : true = r := by rw [← hr']; simp
          exact next_v2_tta k nn 0 0 p w ad m c e.s e.d f.s f.d 0 d0 d1 hab g0 g1 hab' (by omega) (by omega) (by omega) z3 (by omega) (by omega) e2 h0 h1 hx
        · subst ha
          obtain rfl : false = r := by rw [← hr']; simp [hb]
          exact next_v2_tfa k nn 0 b p w ad m c e.s e.d f.s f.d 0 d0 d1 hab g0 g1 hab' (by omega) (by omega) (by omega) z3 (by omega) (by omega) e2 h0 h1 hb hx
      · obtain rfl : false = r := by rw [← hr']; simp [ha]
        exact next_v2_fa k nn a b p w ad m c e.s e.d f.s f.d 0 d0 d1 hab g0 g1 hab' (by omega) (by omega) (by omega) z3 (by omega) (by omega) e2 h0 h1 ha hx
    · rw [show max (e.d + 1) (f.d + 1) = e.d + 1 by omega]
      by_cases ha : a = (m : Int)
      · by_cases hb : b = (m : Int) + e.s
        · subst ha hb
          obtain rfl : true = r := by rw [← hr']; simp
          exact next_v2_ttb k nn 0 0 p w ad m c e.s e.d f.s f.d 0 d0 d1 hab g0 g1 hab' (by omega) (by omega) (by omega) z3 (by omega) (by omega) e2 h0 h1 hx
        · subst ha
          obtain rfl : false = r := by rw [← hr']; simp [hb]
          exact next_v2_tfb k nn 0 b p w ad m c e.s e.d f.s f.d 0 d0 d1 hab g0 g1 hab' (by omega) (by omega) (by omega) z3 (by omega) (by omega) e2 h0 h1 hb hx
      · obtain rfl : false = r := by rw [← hr']; simp [ha]
        exact next_v2_fb k nn a b p w ad m c e.s e.d f.s f.d 0 d0 d1 hab g0 g1 hab' (by omega) (by omega) (by omega) z3 (by omega) (by omega) e2 h0 h1 ha hx

theorem next_yes (A : Option Addr) (E : List Ex) (c : Nat) (x : Nd) (y : Ex) (w : World) (hE : Lies w A (exCells E)) (hz : SzOk E) (hn : E.length ≤ 60) (h : nextF E x = some y) :
    Calls Tryz.prog 98 #[.slice A E.length c, ndV x] w fun e w' => e = .returned (.tuple #[.agg #[.int .i64 (y.s : Nat), .int .i64 (y.d : Nat)], .bool true]) ∧ Below w.heap.size w w' := by
  obtain ⟨h0, h1, h2⟩ := nextF_some h
  exact next_val A E c x w hE hz hn h0 h1 y x.a x.b h2 true (by simp)
theorem next_no (A : Option Addr) (E : List Ex) (c : Nat) (x : Nd) (w : World) (hE : Lies w A (exCells E)) (hz : SzOk E) (hn : E.length ≤ 60) (h : nextF E x = none) :
    Calls Tryz.prog 98 #[.slice A E.length c, ndV x] w (NextNo w) := by
  cases hb : (okK x.k && fitsF x.k x.n x.p) with
  | false => exact next_bad A _ c x w hb
  | true =>
    rw [Bool.and_eq_true] at hb
    obtain ⟨h0, h1⟩ := hb
    cases hy : need E x.k with
    | some v =>
      obtain ⟨y, a', b'⟩ := v
      refine (next_val A E c x w hE hz hn h0 h1 y a' b' hy false ?_).mono (fun e w' ⟨he, hb⟩ => ⟨_, _, he, hb⟩)
      rw [decide_eq_false_iff_not]
      rintro ⟨h3, h4⟩
      subst h3 h4
      rw [nextF_mk h0 h1 hy] at h
      cases h
    | none =>
      obtain ⟨k, nn, a, b, p⟩ := x
      dsimp only [ndV] at h0 h1 hy ⊢
      have h4 : 4 < k := by
        rcases Int.lt_or_le 4 k with h | h
        · exact h
        · rw [need_leaf h] at hy; cases hy
      rcases Nat.eq_zero_or_pos E.length with hl | hl
      · rw [hl]
        rcases cnt_vals k with h2 | h2 | h2
        · omega
        · exact next_n1_1 k nn a b p w A c h0 h1 (partsN_of h0 h2.2.2)
        · exact next_n1_2 k nn a b p w A c h0 h1 (partsN_of h0 h2.2)
      · obtain ⟨e, he⟩ : ∃ e, E[E.length - 1]? = some e := ⟨_, List.getElem?_eq_getElem (by omega)⟩
        have h6 : 6 < k := by
          rcases Int.lt_or_le 6 k with h | h
          · exact h
          · rw [need_one h4 h he] at hy; cases hy
        have hs : E.length - 1 < e.s := by
          rcases Nat.lt_or_ge (E.length - 1) e.s with h | h
          · exact h
          · have hf : E[E.length - 1 - e.s]? = some (E[E.length - 1 - e.s]'(by omega)) := List.getElem?_eq_getElem _
            rw [need_two h6 he h hf] at hy; cases hy
        obtain ⟨ad, rfl, hadl, d0, d1⟩ := hE.ex he
        obtain ⟨z1, z2, z3, z4⟩ := hz _ _ he
        obtain ⟨m, hm⟩ : ∃ m, E.length = m + 1 := ⟨E.length - 1, by omega⟩
        rw [hm] at d0 d1 z2 hs ⊢
        rw [Nat.add_sub_cancel] at d0 d1 z2 hs
        exact next_n2 k nn a b p w ad m c e.s e.d d0 d1 (by rw [add_block]; exact hadl) (by omega) (by omega) (by omega) z3 (partsN_of h0 (by rcases cnt_vals k with h2 | h2 | h2 <;> omega)) h0 h1 hs
end Go.Proofs.YtlmamidodahgmaaGreatDoor.N4

/- NMeas: The contract of measure: the extents of an expression, or Check's error. -/
namespace Go.Proofs.YtlmamidodahgmaaGreatDoor.N4
open Go.ChangeShapes Go.WideShapes Go.ChangeAt Go.RowKit
set_option linter.unusedVariables false
set_option maxRecDepth 100000

theorem ex_info : (Tryz.prog.info? 144).map (fun i => (i.zero, i.size, i.bytes)) = some (some (.agg #[.int .i64 0, .int .i64 0]), 2, 16) := by kernel_rfl
theorem Lies.alloc {w : World} {A : Option Addr} {cs : List Value} (h : Lies w A cs) (o : Obj) : Lies (w.alloc o) A cs := h.below ((Below.refl _ _).alloc (Nat.le_refl _) _)
theorem cells_new2 (w : World) (B : Nat) (hB : w.heap.size = B) (x y : Value) (t : TypeId) : ∀ j u, [x, y][j]? = some u → (w.alloc (.cells #[x, y] t)).cell? ((⟨B, 0, none⟩ : Addr).add j) = some u := by
  subst hB
  intro j u hj
  have h := World.news_of_block (w := w.alloc (.cells #[x, y] t)) (B := w.heap.size) (cs := #[x, y]) (t := t) (fr := (0, 0)) (heap_alloc_new w _) j u
  exact h hj

def MPost (L : List Nd) (w : World) (e : Ending) (w' : World) : Prop :=
  Below w.heap.size w w' ∧ ((checkF L ≠ 0 ∧ e = .returned (.tuple #[.slice none 0 0, .int .i64 (checkF L)])) ∨ ∃ E A' c', Good4 L E ∧ e = .returned (.tuple #[.slice A' E.length c', .int .i64 0]) ∧ Lies w' A' (exCells E))

theorem checkF_many {L : List Nd} (h : 60 < L.length) : checkF L = 4 := by unfold checkF; rw [if_pos h]
theorem meas_many (A : Option Addr) (c : Nat) (L : List Nd) (w : World) (hL : L.length ≤ maxLen) (h : 60 < L.length) :
    Calls Tryz.prog 75 #[.slice A L.length c] w (MPost L w) := by
  have HV := Lib.hid (checkF_many h)
  obtain ⟨n, hn⟩ : ∃ n, L.length = n := ⟨_, rfl⟩
  rw [hn] at hL h ⊢
  unfold maxLen at hL
  clear hn
  go_enter Tryz.func75, Tryz.ntmps75
  go_wp2
  go_ret2
  exact ⟨Below.refl _ _, .inl ⟨by rw [HV.out]; decide, by rw [HV.out]; rfl⟩⟩

def MRel (L : List Nd) (w : World) (l : Value) (k : Nat) (wr : World) : Prop :=
  ∃ E, extF (L.take k) = some E ∧ wr.ownsRow w.heap.size 144 2 l k (exCells E) ∧ Below w.heap.size w wr

set_option maxHeartbeats 4000000 in
theorem meas_go (A : Option Addr) (c : Nat) (L : List Nd) (w : World) (hL : L.length ≤ 60) (ht : Lies w A (ndCells L)) :
    Calls Tryz.prog 75 #[.slice A L.length c] w (MPost L w) := by
  have HT := Lib.hid ht
  obtain ⟨n, hn⟩ : ∃ n, L.length = n := ⟨_, rfl⟩
  rw [hn] at hL ⊢
  have HN := Lib.hid hn
  obtain ⟨i0, hi, hz0, hz1, hz2⟩ := info_parts ex_info
  clear ht hn
  go_enter Tryz.func75, Tryz.ntmps75
  go_wp2
  go_loopw [4, 15] (fun l i wr => ∃ k : Nat, i = .int .i64 k ∧ k ≤ n ∧ MRel L w l k wr) (fun _ i _ => n - (intOf i).toNat)
  case atStart =>
    refine ⟨0, rfl, Nat.zero_le _, [], rfl, ?_, (Below.refl _ _).alloc (Nat.le_refl _) _⟩
    exact World.ownsRow_lit (base := w.heap.size) (e := 144) (size := 2) w #[] 0 (Nat.le_refl _) (Nat.zero_le _) rfl
  case round =>
    obtain ⟨k, rfl, hk, E, hE, hown, hb⟩ := hrel
    obtain ⟨A', c', rfl, hkc, hkm⟩ := own_form hown
    have hEl := extF_length hE
    rw [List.length_take, HN.out, Nat.min_eq_left hk] at hEl
    have HEL := Lib.hid hEl
    have HO := Lib.hid hown
    have HB := Lib.hid hb
    have HE := Lib.hid hE
    clear hown hb hE hEl
    by_cases hlt : k < n
    · obtain ⟨x, hx⟩ : ∃ x, L[k]? = some x := ⟨_, List.getElem?_eq_getElem (by rw [HN.out]; exact hlt)⟩
      have HX := Lib.hid hx
      obtain ⟨ad, rfl, hadl, c0, c1, c2, c3, c4⟩ := (HT.out.below HB.out).nd hx
      have HLE := Lib.hid (show Lies wr A' (exCells E) from Lies.of_own HO.out (by intro h0; rw [List.eq_nil_of_length_eq_zero (HEL.out.trans h0)]; rfl))
      have hab : (ad.add (k * 5)).block < wr.heap.size := by rw [add_block]; exact hadl
      clear hx hadl
      cases hy : nextF E x with
      | none =>
        have HC := Lib.hid (fun w' (hl' : Lies w' A' (exCells E)) => show Calls Tryz.prog 98 #[.slice A' k c', ndV x] w' (NextNo w') by rw [← HEL.out]; exact next_no A' E c' x w' hl' (extF_sz HE.out) (by rw [HEL.out]; omega) hy)
        have HV := Lib.hid (checkF_bad (L := L) (by rw [HN.out]; exact hL) (extF_none HX.out HE.out hy))
        clear hy
        go_wp2_with (go_at_call 98; refine (HC.out _ (HLE.out.alloc _)).mono ?_; rintro e w2 ⟨s, d, rfl, hb2⟩)
        go_ret2
        refine ⟨?_, .inl ⟨by rw [HV.out]; decide, by rw [HV.out]; rfl⟩⟩
        exact (HB.out.alloc HB.out.size _).trans (hb2.mono (by have := HB.out.size; simp; omega)) |>.alloc (by have := HB.out.size; have := hb2.size; simp at this; omega) _
      | some y =>
        have HC := Lib.hid (fun w' (hl' : Lies w' A' (exCells E)) => by have := next_yes A' E c' x y w' hl' (extF_sz HE.out) (by rw [HEL.out]; omega) hy; rw [HEL.out] at this; exact this)
        have HS := Lib.hid (extF_step HX.out HE.out hy)
        clear hy
        go_wp2_with (first
          | (go_at_call 98; refine (HC.out _ (HLE.out.alloc _)).mono ?_; rintro e w2 ⟨rfl, hb2⟩; have HO2 := Lib.hid (own_below (HO.out.alloc _) hb2); have HB2 := Lib.hid ((HB.out.alloc HB.out.size _).trans (hb2.mono (by have := HB.out.size; simp; omega))); clear hb2)
          | (at_builtin; refine wpList_append_lies _ rfl (.tmp 27) (.tmp 29) 118 rfl w.heap.size 144 i0 _ 2 16 Tryz.underlying118 hi hz0 hz1 hz2 rfl (by decide) (.slice A' k c') k (exCells E) rfl ((HO2.out.alloc _).alloc _) ⟨w2.heap.size + 1, 0, none⟩ 1 1 [.int .i64 y.s, .int .i64 y.d] rfl rfl ?c1 ?c2 (by decide) ?c3 ?c4 ?c5 (w2.heap.size + 2) ?c6 ?_))
        case c1 => exact cells_new2 (w2.alloc _) _ (by simp) _ _ _
        case c2 => intro u hu; simp only [List.mem_cons, List.not_mem_nil, or_false] at hu; rcases hu with rfl | rfl <;> rfl
        case c3 => unfold maxLen; omega
        case c4 => omega
        case c5 => have := HB2.out.size; simp; omega
        case c6 => simp
        intro g cap w5 hown5 hgrow5 hat5 hlt5
        have HB5 := Lib.hid (((HB2.out.alloc HB2.out.size _).alloc (by have := HB2.out.size; simp; omega) _).grown hgrow5 (by have := HB2.out.size; simp; omega) (fun j hj => (HO2.out.lt j hj).1))
        have HO5 := Lib.hid hown5
        clear hown5 hgrow5 hat5 hlt5
        go_wp2
        go_roundw
        case rel =>
          refine ⟨k + 1, rfl, by omega, E ++ [y], HS.out, ?_, HB5.out⟩
          rw [exCells_snoc]; exact HO5.out
        case measure => simp [intOf]; omega
    · obtain rfl : k = n := by omega
      have HE2 := Lib.hid (show extF L = some E by have := HE.out; rwa [List.take_of_length_le (by rw [HN.out]; exact Nat.le_refl _)] at this)
      by_cases h0 : k = 0
      · have HV := Lib.hid (show checkF L = 8 by rw [List.eq_nil_of_length_eq_zero (HN.out.trans h0)]; rfl)
        have e0 : ((k : Int) == 0) = true := by simp; omega
        clear h0
        go_wp2
        go_ret2
        exact ⟨HB.out, .inl ⟨by rw [HV.out]; decide, by rw [HV.out]; rfl⟩⟩
      · obtain ⟨m, rfl⟩ : ∃ m, k = m + 1 := ⟨k - 1, by omega⟩
        obtain ⟨y, hy⟩ : ∃ y, E[m]? = some y := ⟨_, List.getElem?_eq_getElem (by rw [HEL.out]; omega)⟩
        have HLE := Lib.hid (show Lies wr A' (exCells E) from Lies.of_own HO.out (by intro h; omega))
        obtain ⟨ad, rfl, hadl, d0, d1⟩ := HLE.out.ex hy
        have HV := Lib.hid (show checkF L = if y.s < m + 1 then 8 else if 20 < y.d then 34 else 0 by
          unfold checkF; rw [HN.out, if_neg (by omega), HE2.out]; simp only [checkE]; rw [Nat.add_sub_cancel, hy])
        have HS := Lib.hid (extF_sz HE2.out _ _ hy)
        have HY := Lib.hid hy
        have e0 : (((m + 1 : Nat) : Int) == 0) = false := by simp; omega
        have e0' : ((m : Int) + 1 == 0) = false := by simp; omega
        obtain ⟨s, hs⟩ : ∃ s, y.s = s := ⟨_, rfl⟩
        obtain ⟨d, hd⟩ : ∃ d, y.d = d := ⟨_, rfl⟩
        rw [hs] at HV d0 HS
        rw [hd] at HV d1 HS
        have HS1 := Lib.hid hs
        have HD1 := Lib.hid hd
        clear hy hadl hs hd h0
        by_cases h1 : s < m + 1
        · have HV2 := Lib.hid (HV.out.trans (if_pos h1))
          go_wp2
          go_ret2
          exact ⟨HB.out, .inl ⟨by rw [HV2.out]; decide, by rw [HV2.out]; rfl⟩⟩
        · by_cases h2 : 20 < d
          · have HV2 := Lib.hid (HV.out.trans ((if_neg h1).trans (if_pos h2)))
            go_wp2
            go_ret2
            exact ⟨HB.out, .inl ⟨by rw [HV2.out]; decide, by rw [HV2.out]; rfl⟩⟩
          · go_wp2
            go_ret2
            refine ⟨HB.out, .inr ⟨E, some ad, c', ⟨by intro h; have := HN.out; rw [h] at this; simp at this, by rw [HN.out]; exact hL, HE2.out, y, by rw [HN.out]; exact HY.out, by rw [HS1.out, HN.out]; have := HS.out; omega, by rw [HD1.out]; omega⟩, by rw [HEL.out]; rfl, HLE.out⟩⟩

theorem meas_any (A : Option Addr) (c : Nat) (L : List Nd) (w : World) (hL : L.length ≤ maxLen) (ht : Lies w A (ndCells L)) :
    Calls Tryz.prog 75 #[.slice A L.length c] w (MPost L w) := by
  rcases Nat.lt_or_ge 60 L.length with h | h
  · exact meas_many A c L w hL h
  · exact meas_go A c L w h ht
end Go.Proofs.YtlmamidodahgmaaGreatDoor.N4

/- NMath2: Parts of an expression, and expressions made of parts, in plain mathematics. -/
namespace Go.Proofs.YtlmamidodahgmaaGreatDoor.N4
set_option linter.unusedVariables false

/-- What is needed behind more extents in front. -/
theorem need_app {E1 E2 : List Ex} {k : Int} {y : Ex} {a b : Int} (h : need E2 k = some (y, a, b)) :
    need (E1 ++ E2) k = some (y, if 4 < k then a + E1.length else a, if 6 < k then b + E1.length else b) := by
  rcases need_some h with ⟨hk, rfl, rfl, rfl⟩ | ⟨hk, hk2, e, he, hl, rfl, rfl, rfl⟩ | ⟨hk, e, f, he, hl, hs, hf, rfl, rfl, rfl⟩
  · rw [need_leaf hk, if_neg (by omega), if_neg (by omega)]
  · have h1 : (E1 ++ E2)[(E1 ++ E2).length - 1]? = some e := by
      rw [List.length_append, List.getElem?_append_right (by omega), show E1.length + E2.length - 1 - E1.length = E2.length - 1 by omega]; exact he
    rw [need_one hk hk2 h1, if_pos hk, if_neg (by omega), List.length_append]
    congr 3
    omega
  · have h1 : (E1 ++ E2)[(E1 ++ E2).length - 1]? = some e := by
      rw [List.length_append, List.getElem?_append_right (by omega), show E1.length + E2.length - 1 - E1.length = E2.length - 1 by omega]; exact he
    have h2 : (E1 ++ E2)[(E1 ++ E2).length - 1 - e.s]? = some f := by
      rw [List.length_append, List.getElem?_append_right (by omega), show E1.length + E2.length - 1 - e.s - E1.length = E2.length - 1 - e.s by omega]; exact hf
    rw [need_two hk h1 (by rw [List.length_append]; omega) h2, if_pos (by omega), if_pos hk, List.length_append]
    congr 3
    · omega
    · omega
theorem cnt_pos {k : Int} : 0 < cnt k ↔ 4 < k := by unfold cnt; repeat' split
                                                    all_goals omega
theorem cnt_two {k : Int} : 1 < cnt k ↔ 6 < k := by unfold cnt; repeat' split
                                                    all_goals omega
theorem shift_k (d : Int) (x : Nd) : (shift d x).k = x.k ∧ (shift d x).n = x.n ∧ (shift d x).p = x.p := ⟨rfl, rfl, rfl⟩
theorem shift_a (d : Int) (x : Nd) : (shift d x).a = if 4 < x.k then x.a + d else x.a := by
  show (if 0 < cnt x.k then x.a + d else x.a) = _
  by_cases h : 4 < x.k
  · rw [if_pos (cnt_pos.2 h), if_pos h]
  · rw [if_neg (fun h2 => h (cnt_pos.1 h2)), if_neg h]
theorem shift_b (d : Int) (x : Nd) : (shift d x).b = if 6 < x.k then x.b + d else x.b := by
  show (if 1 < cnt x.k then x.b + d else x.b) = _
  by_cases h : 6 < x.k
  · rw [if_pos (cnt_two.2 h), if_pos h]
  · rw [if_neg (fun h2 => h (cnt_two.1 h2)), if_neg h]
theorem shift_zero (x : Nd) : shift 0 x = x := by
  obtain ⟨k, n, a, b, p⟩ := x; simp [shift]
theorem shift_shift (d e : Int) (x : Nd) : shift d (shift e x) = shift (e + d) x := by
  obtain ⟨k, n, a, b, p⟩ := x
  simp only [shift, Nd.mk.injEq, true_and, and_true]
  constructor <;> split <;> omega
theorem shift_inj (d : Int) (x y : Nd) (h : shift d x = shift d y) : x = y := by
  have := congrArg (shift (-d)) h
  rw [shift_shift, shift_shift, show d + -d = 0 by omega, shift_zero, shift_zero] at this
  exact this
theorem map_shift_zero (L : List Nd) : L.map (shift 0) = L := by
  induction L with
  | nil => rfl
  | cons x r ih => rw [List.map_cons, shift_zero, ih]

/-- Nodes moved behind others. -/
theorem nextF_app {E1 E2 : List Ex} {x : Nd} {y : Ex} (h : nextF E2 x = some y) : nextF (E1 ++ E2) (shift E1.length x) = some y := by
  obtain ⟨h1, h2, h3⟩ := nextF_some h
  refine nextF_mk h1 h2 ?_
  rw [show (shift E1.length x).k = x.k from rfl, need_app h3, shift_a, shift_b]
theorem extG_shift (E1 : List Ex) : ∀ (L : List Nd) (E2 F : List Ex), extG E2 L = some F → extG (E1 ++ E2) (L.map (shift E1.length)) = some (E1 ++ F) := by
  intro L
  induction L with
  | nil => intro E2 F h; injection h with h; subst h; rfl
  | cons x r ih =>
    intro E2 F h
    rw [extG] at h
    cases hn : nextF E2 x with
    | none => rw [hn] at h; cases h
    | some y =>
      rw [hn] at h
      rw [List.map_cons, extG, nextF_app hn]
      simp only
      rw [List.append_assoc]
      exact ih _ _ h
theorem extF_join {L1 L2 : List Nd} {E1 E2 : List Ex} (h1 : extF L1 = some E1) (h2 : extF L2 = some E2) : extF (L1 ++ L2.map (shift L1.length)) = some (E1 ++ E2) := by
  unfold extF at *
  rw [extG_append, h1, Option.bind_some]
  have := extG_shift E1 L2 [] E2 h2
  rw [List.append_nil, show E1.length = L1.length from extF_length h1] at this
  exact this

/-! ### what lies within an expression -/
/-- The expressions of the nodes of an expression lie within it. -/
theorem within {L : List Nd} {E : List Ex} (h : Ext L E) (hz : SzOk E) : ∀ (i : Nat) (y : Ex), E[i]? = some y → ∀ (j : Nat) (z : Ex), j ≤ i → i + 1 ≤ j + y.s → E[j]? = some z → i + 1 + z.s ≤ j + 1 + y.s ∧ z.d ≤ y.d := by
  intro i
  induction i using Nat.strongRecOn with
  | ind i ih =>
    intro y hy j z hj hj2 hzj
    have hi : i < E.length := (List.getElem?_eq_some_iff.1 hy).1
    obtain ⟨x, hx⟩ : ∃ x, L[i]? = some x := ⟨_, List.getElem?_eq_getElem (by rw [← h.1]; exact hi)⟩
    rcases Nat.lt_or_ge j i with hji | hji
    · have hlen : (E.take i).length = i := by rw [List.length_take]; omega
      rcases need_some (nextF_some (h.2 i x y hx hy)).2.2 with ⟨_, rfl, _, _⟩ | ⟨_, _, e, he, hl, rfl, _, _⟩ | ⟨_, e, f, he, hl, hs, hf, rfl, _, _⟩
      · simp only at hj2; omega
      · rw [hlen] at he hl
        rw [List.getElem?_take, if_pos (by omega)] at he
        simp only at hj2 ⊢
        obtain ⟨h1, h2⟩ := ih (i - 1) (by omega) e he j z (by omega) (by omega) hzj
        omega
      · rw [hlen] at he hl hs hf
        rw [List.getElem?_take, if_pos (by omega)] at he
        rw [List.getElem?_take, if_pos (by omega)] at hf
        simp only at hj2 ⊢
        rcases Nat.lt_or_ge j (i - e.s) with hje | hje
        · obtain ⟨h1, h2⟩ := ih (i - 1 - e.s) (by omega) f hf j z (by omega) (by omega) hzj
          omega
        · obtain ⟨h1, h2⟩ := ih (i - 1) (by omega) e he j z (by omega) (by omega) hzj
          omega
    · obtain rfl : j = i := by omega
      rw [hy] at hzj
      injection hzj with hzj
      subst hzj
      omega


def depF (L : List Nd) : Int := match extF L with | none => 0 | some E => match E[L.length - 1]? with | none => 0 | some e => e.d
theorem depF_of {L : List Nd} {E : List Ex} {e : Ex} (h : extF L = some E) (he : E[L.length - 1]? = some e) : depF L = e.d := by
  unfold depF; rw [h]; simp only; rw [he]
def sizF (L : List Nd) (at_ : Nat) : Nat := match extF L with | none => 0 | some E => match E[at_]? with | none => 0 | some e => e.s
theorem sizF_of {L : List Nd} {E : List Ex} {e : Ex} {i : Nat} (h : extF L = some E) (he : E[i]? = some e) : sizF L i = e.s := by
  unfold sizF; rw [h]; simp only; rw [he]

/-- The expression of a node. -/
def cutF (L : List Nd) (i : Nat) : List Nd := ((L.drop (i + 1 - sizF L i)).take (sizF L i)).map (shift (-((i + 1 - sizF L i : Nat) : Int)))
theorem cutF_length {L : List Nd} {E : List Ex} {i : Nat} {y : Ex} (h : extF L = some E) (hy : E[i]? = some y) : (cutF L i).length = y.s := by
  have hz := extF_sz h _ _ hy
  have hi : i < L.length := by rw [← extF_length h]; exact (List.getElem?_eq_some_iff.1 hy).1
  unfold cutF
  rw [sizF_of h hy, List.length_map, List.length_take, List.length_drop]
  omega
theorem cutF_at {L : List Nd} {E : List Ex} {i : Nat} {y : Ex} (h : extF L = some E) (hy : E[i]? = some y) {j : Nat} {x' : Nd} (hx : (cutF L i)[j]? = some x') :
    ∃ x, L[i + 1 - y.s + j]? = some x ∧ x' = shift (-((i + 1 - y.s : Nat) : Int)) x ∧ j < y.s := by
  have hl := (List.getElem?_eq_some_iff.1 hx).1
  rw [cutF_length h hy] at hl
  unfold cutF at hx
  rw [sizF_of h hy, List.getElem?_map, List.getElem?_take, if_pos hl, List.getElem?_drop] at hx
  cases hv : L[i + 1 - y.s + j]? with
  | none => rw [hv] at hx; cases hx
  | some x =>
    rw [hv, Option.map_some] at hx
    injection hx with hx
    exact ⟨x, rfl, hx.symm, hl⟩
theorem cut_ext {L : List Nd} {E : List Ex} {i : Nat} {y : Ex} (h : extF L = some E) (hy : E[i]? = some y) : extF (cutF L i) = some ((E.drop (i + 1 - y.s)).take y.s) := by
  have hz := extF_sz h
  have hX := Ext.of h
  obtain ⟨z1, z2, z3, z4⟩ := hz _ _ hy
  have hi : i < E.length := (List.getElem?_eq_some_iff.1 hy).1
  obtain ⟨f, hf⟩ : ∃ f, i + 1 - y.s = f := ⟨_, rfl⟩
  have hEx : Ext (cutF L i) ((E.drop f).take y.s) := by
    refine ⟨by rw [cutF_length h hy, List.length_take, List.length_drop]; omega, fun j x' z hx hzz => ?_⟩
    obtain ⟨x, hxL, rfl, hjs⟩ := cutF_at h hy hx
    clear hx
    rw [hf] at hxL ⊢
    rw [List.getElem?_take, if_pos hjs, List.getElem?_drop] at hzz
    have hn := nextF_some (hX.2 _ _ _ hxL hzz)
    obtain ⟨w1, w2⟩ := within hX hz i y hy (f + j) z (by omega) (by omega) hzz
    have hsp : E.take (f + j) = E.take f ++ ((E.drop f).take y.s).take j := by
      rw [List.take_add, List.take_take, Nat.min_eq_left (by omega)]
    have hfl : (E.take f).length = f := by rw [List.length_take]; omega
    have hjl : (((E.drop f).take y.s).take j).length = j := by rw [List.length_take, List.length_take, List.length_drop]; omega
    have get : ∀ q, q < j → (((E.drop f).take y.s).take j)[q]? = E[f + q]? := by
      intro q hq
      rw [List.getElem?_take, if_pos hq, List.getElem?_take, if_pos (by omega), List.getElem?_drop]
    have hlen : (E.take (f + j)).length = f + j := by rw [List.length_take]; omega
    obtain ⟨a2, b2, hneed⟩ : ∃ a2 b2, need (((E.drop f).take y.s).take j) x.k = some (z, a2, b2) := by
      rcases need_some hn.2.2 with ⟨hk, rfl, _, _⟩ | ⟨hk, hk2, e, he, hl, rfl, _, _⟩ | ⟨hk, e, g, he, hl, hs, hg, rfl, _, _⟩
      · exact ⟨_, _, need_leaf hk⟩
      · rw [hlen] at he hl
        rw [List.getElem?_take, if_pos (by omega)] at he
        have := hz _ _ he
        simp only at w1
        exact ⟨_, _, need_one hk hk2 (by rw [hjl, get _ (by omega), show f + (j - 1) = f + j - 1 by omega]; exact he)⟩
      · rw [hlen] at he hl hs hg
        rw [List.getElem?_take, if_pos (by omega)] at he hg
        have h5 := hz _ _ he
        have h6 := hz _ _ hg
        simp only at w1
        exact ⟨_, _, need_two hk (by rw [hjl, get _ (by omega), show f + (j - 1) = f + j - 1 by omega]; exact he) (by rw [hjl]; omega) (by rw [hjl, get _ (by omega), show f + (j - 1 - e.s) = f + j - 1 - e.s by omega]; exact hg)⟩
    have h7 := need_app (E1 := E.take f) hneed
    rw [← hsp, hfl, hn.2.2] at h7
    injection h7 with h7
    injection h7 with _ h7
    injection h7 with h8 h9
    refine nextF_mk hn.1 hn.2.1 ?_
    rw [show (shift (-(f : Int)) x).k = x.k from rfl, hneed, shift_a, shift_b]
    congr 3
    · split <;> rename_i h4
      · rw [if_pos h4] at h8; omega
      · rw [if_neg h4] at h8; exact h8.symm
    · split <;> rename_i h4
      · rw [if_pos h4] at h9; omega
      · rw [if_neg h4] at h9; exact h9.symm
  rw [hf]
  exact hEx.ext
theorem Good4.ext {L : List Nd} {E : List Ex} (h : Good4 L E) : extF L = some E := h.2.2.1
theorem Good4.at_ {L : List Nd} {E : List Ex} (h : Good4 L E) {i : Nat} (hi : i < L.length) : ∃ y, E[i]? = some y ∧ 1 ≤ y.s ∧ y.s ≤ i + 1 ∧ 1 ≤ y.d ∧ y.d ≤ y.s ∧ y.d ≤ depF L ∧ y.d ≤ 20 := by
  have hE := h.ext
  have hl := extF_length hE
  obtain ⟨y, hy⟩ : ∃ y, E[i]? = some y := ⟨_, List.getElem?_eq_getElem (by omega)⟩
  obtain ⟨z1, z2, z3, z4⟩ := extF_sz hE _ _ hy
  obtain ⟨_, _, _, e, he, hs, hd⟩ := h
  have := within (Ext.of hE) (extF_sz hE) _ e he i y (by omega) (by omega) hy
  rw [depF_of hE he]
  exact ⟨y, hy, z1, z2, z3, z4, by omega, by omega⟩
theorem cut_good {L : List Nd} {E : List Ex} (h : Good4 L E) {i : Nat} {y : Ex} (hy : E[i]? = some y) : Good4 (cutF L i) ((E.drop (i + 1 - y.s)).take y.s) ∧ depF (cutF L i) = y.d := by
  have hE := h.ext
  have hi : i < L.length := by rw [← extF_length hE]; exact (List.getElem?_eq_some_iff.1 hy).1
  obtain ⟨y', hy', z1, z2, z3, z4, z5, z6⟩ := h.at_ hi
  obtain rfl : y' = y := Option.some.inj (hy'.symm.trans hy)
  have hl := cutF_length hE hy
  have hc := cut_ext hE hy
  have hlast : ((E.drop (i + 1 - y'.s)).take y'.s)[(cutF L i).length - 1]? = some y' := by
    rw [hl, List.getElem?_take, if_pos (by omega), List.getElem?_drop, show i + 1 - y'.s + (y'.s - 1) = i by omega]; exact hy
  exact ⟨⟨by intro h0; rw [h0] at hl; simp at hl; omega, by have := h.2.1; omega, hc, y', hlast, hl.symm, z6⟩, depF_of hc hlast⟩
theorem cut_whole {L : List Nd} {E : List Ex} (h : Good4 L E) : cutF L (L.length - 1) = L ∧ sizF L (L.length - 1) = L.length := by
  obtain ⟨h0, _, hE, e, he, hs, hd⟩ := h
  have hp := List.length_pos_iff.2 h0
  have hz := sizF_of hE he
  rw [hs] at hz
  refine ⟨?_, hz⟩
  unfold cutF
  rw [hz, show L.length - 1 + 1 - L.length = 0 by omega, List.drop_zero, List.take_length]
  exact map_shift_zero L

/-- A node, and the nodes of its parts. -/
theorem node_facts {L : List Nd} {E : List Ex} (h : extF L = some E) {i : Nat} {x : Nd} (hx : L[i]? = some x) :
    okK x.k = true ∧ fitsF x.k x.n x.p = true ∧
    ((x.k ≤ 4 ∧ sizF L i = 1 ∧ x.a = 0 ∧ x.b = 0) ∨
     (4 < x.k ∧ x.k ≤ 6 ∧ ∃ i1 s1, i = i1 + 1 ∧ x.a = (i1 : Nat) ∧ x.b = 0 ∧ sizF L i1 = s1 ∧ 1 ≤ s1 ∧ s1 ≤ i1 + 1 ∧ sizF L i = 1 + s1) ∨
     (6 < x.k ∧ ∃ i1 s1 s2, i = i1 + s2 + 1 ∧ x.a = (i1 : Nat) ∧ x.b = (i1 : Nat) + (s2 : Nat) ∧ sizF L i1 = s1 ∧ sizF L (i1 + s2) = s2 ∧ 1 ≤ s1 ∧ s1 ≤ i1 + 1 ∧ 1 ≤ s2 ∧ sizF L i = 1 + s2 + s1)) := by
  have hz := extF_sz h
  have hX := Ext.of h
  have hi : i < E.length := by rw [hX.1]; exact (List.getElem?_eq_some_iff.1 hx).1
  obtain ⟨y, hy⟩ : ∃ y, E[i]? = some y := ⟨_, List.getElem?_eq_getElem hi⟩
  have hn := nextF_some (hX.2 _ _ _ hx hy)
  have hlen : (E.take i).length = i := by rw [List.length_take]; omega
  refine ⟨hn.1, hn.2.1, ?_⟩
  rcases need_some hn.2.2 with ⟨hk, rfl, h1, h2⟩ | ⟨hk, hk2, e, he, hl, rfl, h1, h2⟩ | ⟨hk, e, f, he, hl, hs, hf, rfl, h1, h2⟩
  · exact .inl ⟨hk, sizF_of h hy, h1, h2⟩
  · rw [hlen] at he hl h1
    rw [List.getElem?_take, if_pos (by omega)] at he
    have := hz _ _ he
    exact .inr (.inl ⟨hk, hk2, i - 1, e.s, by omega, by omega, h2, sizF_of h he, by omega, by omega, sizF_of h hy⟩)
  · rw [hlen] at he hl hs hf h1 h2
    rw [List.getElem?_take, if_pos (by omega)] at he hf
    have h3 := hz _ _ he
    have h4 := hz _ _ hf
    exact .inr (.inr ⟨hk, i - 1 - e.s, f.s, e.s, by omega, by omega, by omega, sizF_of h hf, by rw [show i - 1 - e.s + e.s = i - 1 by omega]; exact sizF_of h he, by omega, by omega, by omega, sizF_of h hy⟩)

/-! ### made of parts -/
def made0 (k n p : Int) : List Nd := [⟨k, n, 0, 0, p⟩]
def made1 (k n p : Int) (P : List Nd) : List Nd := P.map (shift 0) ++ [⟨k, n, (P.length : Int) - 1, 0, p⟩]
def made2 (k n p : Int) (P Q : List Nd) : List Nd := P.map (shift 0) ++ Q.map (shift P.length) ++ [⟨k, n, (P.length : Int) - 1, (P.length : Int) + Q.length - 1, p⟩]
theorem drop_take_at (L : List Nd) (f : Nat) (x : Nd) (h : L[f]? = some x) : (L.drop f).take 1 = [x] := by
  obtain ⟨h1, h2⟩ := List.getElem?_eq_some_iff.1 h
  rw [List.drop_eq_getElem_cons h1, h2]
  rfl
theorem cut_made {L : List Nd} {E : List Ex} (h : extF L = some E) {i : Nat} {x : Nd} (hx : L[i]? = some x) :
    (x.k ≤ 4 → cutF L i = made0 x.k x.n x.p) ∧ (∀ i1 : Nat, 4 < x.k → x.k ≤ 6 → x.a = i1 → cutF L i = made1 x.k x.n x.p (cutF L i1)) ∧
    (∀ i1 i2 : Nat, 6 < x.k → x.a = i1 → x.b = i2 → cutF L i = made2 x.k x.n x.p (cutF L i1) (cutF L i2)) := by
  have hl := (List.getElem?_eq_some_iff.1 hx).1
  rcases (node_facts h hx).2.2 with ⟨hk, hs, h1, h2⟩ | ⟨hk, hk2, i1, s1, hi, h1, h2, hs1, hp, hle, hs⟩ | ⟨hk, i1, s1, s2, hi, h1, h2, hs1, hs2, hp, hle, hp2, hs⟩
  · refine ⟨fun _ => ?_, fun _ h => by omega, fun _ _ h => by omega⟩
    unfold cutF
    rw [hs, show i + 1 - 1 = i by omega, drop_take_at L i x hx]
    obtain ⟨k, n, a, b, p⟩ := x
    simp only at hk h1 h2
    subst h1 h2
    simp [made0, shift, cnt, hk]
  · refine ⟨fun h => by omega, fun j1 _ _ hj => ?_, fun _ _ h => by omega⟩
    obtain rfl : j1 = i1 := by omega
    unfold cutF
    rw [hs, hs1, show i + 1 - (1 + s1) = j1 + 1 - s1 by omega, Nat.add_comm 1 s1, List.take_add, List.drop_drop, show j1 + 1 - s1 + s1 = i by omega, drop_take_at L i x hx, List.map_append]
    unfold made1
    rw [List.map_map]
    have hlen : (((L.drop (j1 + 1 - s1)).take s1).map (shift (-((j1 + 1 - s1 : Nat) : Int)))).length = s1 := by rw [List.length_map, List.length_take, List.length_drop]; omega
    rw [hlen]
    congr 1
    · apply List.map_congr_left
      intro z _
      rw [Function.comp, shift_zero]
    · rw [List.map_singleton]
      congr 1
      obtain ⟨k, n, a, b, p⟩ := x
      simp only at hk hk2 h1 h2
      have e1 := shift_a (-((j1 + 1 - s1 : Nat) : Int)) ⟨k, n, a, b, p⟩
      have e2 := shift_b (-((j1 + 1 - s1 : Nat) : Int)) ⟨k, n, a, b, p⟩
      simp only at e1 e2
      rw [if_pos hk] at e1
      rw [if_neg (by omega)] at e2
      have : shift (-((j1 + 1 - s1 : Nat) : Int)) ⟨k, n, a, b, p⟩ = ⟨k, n, (shift (-((j1 + 1 - s1 : Nat) : Int)) ⟨k, n, a, b, p⟩).a, (shift (-((j1 + 1 - s1 : Nat) : Int)) ⟨k, n, a, b, p⟩).b, p⟩ := rfl
      rw [this, e1, e2]
      congr 1
      omega
  · refine ⟨fun h => by omega, fun _ h => by omega, fun j1 j2 _ hj hj2 => ?_⟩
    obtain rfl : j1 = i1 := by omega
    obtain rfl : j2 = j1 + s2 := by omega
    unfold cutF
    rw [hs, hs1, hs2, show i + 1 - (1 + s2 + s1) = j1 + 1 - s1 by omega, show 1 + s2 + s1 = s1 + (s2 + 1) by omega, List.take_add, List.drop_drop, show j1 + 1 - s1 + s1 = j1 + 1 by omega, List.take_add, List.drop_drop, show j1 + 1 + s2 = i by omega, drop_take_at L i x hx, List.map_append, List.map_append]
    unfold made2
    rw [List.map_map, List.map_map]
    have hlen : (((L.drop (j1 + 1 - s1)).take s1).map (shift (-((j1 + 1 - s1 : Nat) : Int)))).length = s1 := by rw [List.length_map, List.length_take, List.length_drop]; omega
    have hlen2 : (((L.drop (j1 + s2 + 1 - s2)).take s2).map (shift (-((j1 + s2 + 1 - s2 : Nat) : Int)))).length = s2 := by rw [List.length_map, List.length_take, List.length_drop]; omega
    rw [hlen, hlen2, ← List.append_assoc]
    congr 1
    · congr 1
      · apply List.map_congr_left
        intro z _
        rw [Function.comp, shift_zero]
      · rw [show j1 + s2 + 1 - s2 = j1 + 1 by omega]
        apply List.map_congr_left
        intro z _
        rw [Function.comp, shift_shift]
        congr 1
        omega
    · rw [List.map_singleton]
      congr 1
      obtain ⟨k, n, a, b, p⟩ := x
      simp only at hk h1 h2
      have e1 := shift_a (-((j1 + 1 - s1 : Nat) : Int)) ⟨k, n, a, b, p⟩
      have e2 := shift_b (-((j1 + 1 - s1 : Nat) : Int)) ⟨k, n, a, b, p⟩
      simp only at e1 e2
      rw [if_pos (by omega)] at e1
      rw [if_pos hk] at e2
      have : shift (-((j1 + 1 - s1 : Nat) : Int)) ⟨k, n, a, b, p⟩ = ⟨k, n, (shift (-((j1 + 1 - s1 : Nat) : Int)) ⟨k, n, a, b, p⟩).a, (shift (-((j1 + 1 - s1 : Nat) : Int)) ⟨k, n, a, b, p⟩).b, p⟩ := rfl
      rw [this, e1, e2]
      congr 1 <;> omega
end Go.Proofs.YtlmamidodahgmaaGreatDoor.N4

/- NProg: Contracts of Check, Depth, Size, firstError. -/
namespace Go.Proofs.YtlmamidodahgmaaGreatDoor.N4
open Go.ChangeShapes Go.WideShapes Go.ChangeAt Go.RowKit
set_option linter.unusedVariables false
set_option maxRecDepth 100000

theorem meas_bad (A : Option Addr) (c : Nat) (L : List Nd) (w : World) (hL : L.length ≤ maxLen) (ht : Lies w A (ndCells L)) (v : Int) (hv : checkF L = v) (h0 : v ≠ 0) :
    Calls Tryz.prog 75 #[.slice A L.length c] w fun e w' => e = .returned (.tuple #[.slice none 0 0, .int .i64 v]) ∧ Below w.heap.size w w' := by
  subst hv
  refine (meas_any A c L w hL ht).mono ?_
  rintro e w' ⟨hb, ⟨_, rfl⟩ | ⟨E, A', c', hg, rfl, hl⟩⟩
  · exact ⟨rfl, hb⟩
  · exact absurd (checkF_ok hg) h0
def MOk (E : List Ex) (n : Nat) (w : World) (e : Ending) (w' : World) : Prop := ∃ ad c', e = .returned (.tuple #[.slice (some ad) n c', .int .i64 0]) ∧ Lies w' (some ad) (exCells E) ∧ Below w.heap.size w w'
theorem meas_ok (A : Option Addr) (c n : Nat) (L : List Nd) (E : List Ex) (w : World) (ht : Lies w A (ndCells L)) (hg : Good4 L E) (hn : L.length = n) :
    Calls Tryz.prog 75 #[.slice A n c] w (MOk E n w) := by
  subst hn
  refine (meas_any A c L w (by have := hg.2.1; unfold maxLen; omega) ht).mono ?_
  rintro e w' ⟨hb, ⟨h0, rfl⟩ | ⟨E', A', c', hg', rfl, hl⟩⟩
  · exact absurd (checkF_ok hg) h0
  · obtain rfl : E = E' := Option.some.inj (hg.2.2.1.symm.trans hg'.2.2.1)
    obtain ⟨ee, hee, _⟩ := hg.2.2.2
    obtain ⟨ad, rfl, _⟩ := hl.ex hee
    rw [extF_length hg.2.2.1]
    exact ⟨ad, c', rfl, hl, hb⟩
theorem errno_ne {v : Int} (h : v ≠ 0) : (v != 0) = true := by rw [bne_iff_ne]; exact h
theorem check_any (A : Option Addr) (c : Nat) (L : List Nd) (w : World) (hL : L.length ≤ maxLen) (ht : Lies w A (ndCells L)) (v : Int) (hv : checkF L = v) :
    Calls Tryz.prog 49 #[.slice A L.length c] w fun e w' => e = .returned (.int .i64 v) ∧ Below w.heap.size w w' := by
  by_cases h0 : v = 0
  · subst h0
    obtain ⟨E, hg⟩ := checkF_zero hv
    have HM := Lib.hid (meas_ok A c _ L E w ht hg rfl)
    clear ht hv hg
    go_enter Tryz.func49, Tryz.ntmps49
    go_wp2_with (go_at_call 75; refine HM.out.mono ?_; rintro e w1 ⟨ad, c', rfl, _, hb⟩)
    go_ret
    exact ⟨rfl, hb⟩
  · have HM := Lib.hid (meas_bad A c L w hL ht v hv h0)
    clear ht hv h0
    go_enter Tryz.func49, Tryz.ntmps49
    go_wp2_with (go_at_call 75; refine HM.out.mono ?_; rintro e w1 ⟨rfl, hb⟩)
    go_ret
    exact ⟨rfl, hb⟩
end Go.Proofs.YtlmamidodahgmaaGreatDoor.N4
