/- Merged: EMath, ERd, EMem, EOp, ELeaf. -/
import Derived.Test.YtlmamidodahgmaaGreatDoorNA
import Derived.Test.YtlmamidodahgmaaGreatDoorLA
import Derived.Test.YtlmamidodahgmaaGreatDoorNC
import Derived.Test.YtlmamidodahgmaaGreatDoorNB
import Derived.Test.YtlmamidodahgmaaGreatDoorLB
import Derived.Test.YtlmamidodahgmaaGreatDoorCA
import Derived.Deep.LoopGhost
/- EMath: Expressions as trees, and how tokens are parsed, in plain mathematics. -/
namespace Go.Proofs.YtlmamidodahgmaaGreatDoor
open Go.RowKit N4
set_option linter.unusedVariables false
set_option maxRecDepth 100000

inductive Tr where
  | leaf (k n p : Int) : Tr
  | un (k p : Int) (a : Tr) : Tr
  | bin (k p : Int) (a b : Tr) : Tr
deriving DecidableEq

namespace Tr
def flat : Tr → List Nd
  | leaf k n p => made0 k n p
  | un k p a => made1 k 0 p a.flat
  | bin k p a b => made2 k 0 p a.flat b.flat
def sz : Tr → Nat
  | leaf _ _ _ => 1
  | un _ _ a => a.sz + 1
  | bin _ _ a b => a.sz + b.sz + 1
def dp : Tr → Nat
  | leaf _ _ _ => 1
  | un _ _ a => a.dp + 1
  | bin _ _ a b => max a.dp b.dp + 1
def ok : Tr → Bool
  | leaf k n p => decide (1 ≤ k) && decide (k ≤ 4) && fitsF k n p
  | un k p a => decide (5 ≤ k) && decide (k ≤ 6) && fitsF k 0 p && a.ok
  | bin k p a b => decide (7 ≤ k) && decide (k ≤ 19) && fitsF k 0 p && a.ok && b.ok
def er (t : Tr) : Int := if 60 < t.sz then 4 else if 20 < t.dp then 34 else 0
theorem sz_pos (t : Tr) : 1 ≤ t.sz := by cases t <;> simp [sz]
theorem dp_pos (t : Tr) : 1 ≤ t.dp := by cases t <;> simp [dp]
theorem dp_le (t : Tr) : t.dp ≤ t.sz := by
  induction t with
  | leaf => simp [dp, sz]
  | un k p a ih => simp only [dp, sz]; omega
  | bin k p a b iha ihb => simp only [dp, sz]; have := a.sz_pos; have := b.sz_pos; omega
theorem flat_length (t : Tr) : t.flat.length = t.sz := by
  induction t with
  | leaf => simp [flat, made0, sz]
  | un k p a ih => simp [flat, made1, sz, ih]
  | bin k p a b iha ihb => simp [flat, made2, sz, iha, ihb]; omega
theorem flat_ne (t : Tr) : t.flat ≠ [] := by
  intro h
  have := t.flat_length
  rw [h] at this
  have := t.sz_pos
  simp at *
  omega
theorem fits_okK {k : Int} (h1 : 1 ≤ k) (h2 : k ≤ 19) : okK k = true := by simp [okK, h1, h2]

theorem flat_ext (t : Tr) (h : t.ok = true) : ∃ E, extF t.flat = some E ∧ E.length = t.sz ∧ E[t.sz - 1]? = some ⟨t.sz, t.dp⟩ := by
  induction t with
  | leaf k n p =>
    simp only [ok, Bool.and_eq_true, decide_eq_true_eq] at h
    have hn : nextF [] ⟨k, n, 0, 0, p⟩ = some ⟨1, 1⟩ := nextF_mk (fits_okK (k := k) h.1.1 (by omega)) h.2 (need_leaf h.1.2)
    exact ⟨[⟨1, 1⟩], by simp [flat, made0, extF, extG, hn], rfl, rfl⟩
  | un k p a ih =>
    simp only [ok, Bool.and_eq_true, decide_eq_true_eq] at h
    obtain ⟨E, h1, h2, h3⟩ := ih h.2
    have hne : need E k = some (⟨1 + a.sz, a.dp + 1⟩, (E.length : Int) - 1, 0) := need_one (e := ⟨a.sz, a.dp⟩) (by omega) (by omega) (by rw [h2]; exact h3)
    have hn : nextF E ⟨k, 0, (a.flat.length : Int) - 1, 0, p⟩ = some ⟨1 + a.sz, a.dp + 1⟩ := by
      refine nextF_mk (fits_okK (k := k) (by omega) (by omega)) h.1.2 ?_
      rw [hne, h2, a.flat_length]
    refine ⟨E ++ [⟨1 + a.sz, a.dp + 1⟩], ?_, by simp [sz, h2], ?_⟩
    · show extF (made1 k 0 p a.flat) = _
      unfold made1
      rw [map_shift_zero, extF_snoc h1, hn]
      rfl
    · simp only [sz, dp]
      rw [List.getElem?_append_right (by omega), h2]
      simp [Nat.add_comm]
  | bin k p a b iha ihb =>
    simp only [ok, Bool.and_eq_true, decide_eq_true_eq] at h
    obtain ⟨E, h1, h2, h3⟩ := iha h.1.2
    obtain ⟨F, g1, g2, g3⟩ := ihb h.2
    have pa := a.sz_pos
    have pb := b.sz_pos
    have hj := extF_join h1 g1
    have hne : need (E ++ F) k = some (⟨1 + b.sz + a.sz, max (b.dp + 1) (a.dp + 1)⟩, ((E ++ F).length : Int) - 1 - b.sz, ((E ++ F).length : Int) - 1) := by
      refine need_two (e := ⟨b.sz, b.dp⟩) (f := ⟨a.sz, a.dp⟩) (by omega) ?_ ?_ ?_
      · rw [List.length_append, List.getElem?_append_right (by omega), show E.length + F.length - 1 - E.length = b.sz - 1 by omega]; exact g3
      · rw [List.length_append]; show b.sz ≤ _; omega
      · rw [List.length_append, List.getElem?_append_left (by show E.length + F.length - 1 - b.sz < _; omega)]
        show E[E.length + F.length - 1 - b.sz]? = _
        rw [show E.length + F.length - 1 - b.sz = a.sz - 1 by omega]; exact h3
    have hn : nextF (E ++ F) ⟨k, 0, (a.flat.length : Int) - 1, (a.flat.length : Int) + b.flat.length - 1, p⟩ = some ⟨1 + b.sz + a.sz, max (b.dp + 1) (a.dp + 1)⟩ := by
      refine nextF_mk (fits_okK (k := k) (by omega) (by omega)) h.1.1.2 ?_
      rw [hne]
      simp only [List.length_append, a.flat_length, b.flat_length, h2, g2]
      congr 3 <;> omega
    refine ⟨(E ++ F) ++ [⟨1 + b.sz + a.sz, max (b.dp + 1) (a.dp + 1)⟩], ?_, by simp [sz, h2, g2]; omega, ?_⟩
    · show extF (made2 k 0 p a.flat b.flat) = _
      unfold made2
      rw [map_shift_zero, extF_snoc hj, hn]
      rfl
    · simp only [sz, dp]
      rw [List.getElem?_append_right (by simp; omega)]
      simp only [List.length_append, h2, g2]
      rw [show a.sz + b.sz + 1 - 1 - (a.sz + b.sz) = 0 by omega]
      show some _ = some _
      congr 2 <;> omega
theorem check_flat (t : Tr) (h : t.ok = true) : checkF t.flat = t.er := by
  obtain ⟨E, h1, h2, h3⟩ := t.flat_ext h
  unfold checkF er
  rw [h1, t.flat_length]
  split
  · rfl
  · show N4.checkE t.sz E = _
    unfold N4.checkE
    rw [h3]
    show (if t.sz < t.sz then (8 : Int) else _) = _
    rw [if_neg (by omega)]
theorem er_zero {t : Tr} : t.er = 0 ↔ t.sz ≤ 60 ∧ t.dp ≤ 20 := by
  unfold er
  by_cases h1 : 60 < t.sz
  · rw [if_pos h1]; exact ⟨fun h => by omega, fun h => by omega⟩
  · rw [if_neg h1]
    by_cases h2 : 20 < t.dp
    · rw [if_pos h2]; exact ⟨fun h => by omega, fun h => by omega⟩
    · rw [if_neg h2]; exact ⟨fun _ => by omega, fun _ => rfl⟩
theorem er_un {k p : Int} {a : Tr} (h : (un k p a).er = 0) : a.er = 0 := by
  rw [er_zero] at *
  simp only [sz, dp] at h
  omega
theorem er_bin {k p : Int} {a b : Tr} (h : (bin k p a b).er = 0) : a.er = 0 ∧ b.er = 0 := by
  rw [er_zero] at *
  rw [er_zero]
  simp only [sz, dp] at h
  omega

theorem of_cut (m : Nat) : ∀ {L : List Nd} {E : List Ex}, Good4 L E → L.length ≤ m → ∃ t : Tr, t.ok = true ∧ t.flat = L := by
  induction m with
  | zero => intro L E h hl; exact absurd (List.length_eq_zero_iff.1 (by omega)) h.1
  | succ m ih =>
    intro L E h hl
    have hE := h.ext
    have hp := List.length_pos_iff.2 h.1
    obtain ⟨x, hx⟩ : ∃ x, L[L.length - 1]? = some x := ⟨_, List.getElem?_eq_getElem (by omega)⟩
    have hw := cut_whole h
    have hc := cut_made hE hx
    have hf := node_facts hE hx
    have hk : 1 ≤ x.k ∧ x.k ≤ 19 := by simpa [okK] using hf.1
    have part : ∀ i, i < L.length - 1 → sizF L i ≤ m → ∃ t : Tr, t.ok = true ∧ t.flat = cutF L i := by
      intro i hi hs
      obtain ⟨y, hy⟩ : ∃ y, E[i]? = some y := ⟨_, List.getElem?_eq_getElem (by rw [extF_length hE]; omega)⟩
      have hg := (cut_good h hy).1
      refine ih hg ?_
      rw [cutF_length hE hy, ← sizF_of hE hy]; exact hs
    rcases hf.2.2 with ⟨h4, _, _, _⟩ | ⟨h4, h6, i1, s1, hi, ha, hb, hs, _, hle, hz⟩ | ⟨h6, i1, s1, s2, hi, ha, hb, hs1, hs2, _, _, _, hz⟩
    · refine ⟨.leaf x.k x.n x.p, ?_, ?_⟩
      · simp [ok, hk.1, h4, hf.2.1]
      · rw [← hw.1]; exact (hc.1 h4).symm
    · have hn0 : x.n = 0 := by
        have := hf.2.1
        simp only [fitsF, Bool.and_eq_true, Bool.or_eq_true, decide_eq_true_eq] at this
        omega
      obtain ⟨t, t1, t2⟩ := part i1 (by omega) (by omega)
      refine ⟨.un x.k x.p t, ?_, ?_⟩
      · have := hf.2.1
        rw [hn0] at this
        simp [ok, this, t1]; omega
      · show made1 x.k 0 x.p t.flat = L
        rw [t2, ← hn0, ← hc.2.1 i1 h4 h6 ha, hw.1]
    · have hn0 : x.n = 0 := by
        have := hf.2.1
        simp only [fitsF, Bool.and_eq_true, Bool.or_eq_true, decide_eq_true_eq] at this
        omega
      obtain ⟨t, t1, t2⟩ := part i1 (by omega) (by omega)
      obtain ⟨u, u1, u2⟩ := part (i1 + s2) (by omega) (by omega)
      refine ⟨.bin x.k x.p t u, ?_, ?_⟩
      · have := hf.2.1
        rw [hn0] at this
        simp [ok, this, t1, u1]; omega
      · show made2 x.k 0 x.p t.flat u.flat = L
        rw [t2, u2, ← hn0, ← hc.2.2 i1 (i1 + s2) h6 ha (by omega), hw.1]
theorem of_check {L : List Nd} (h : checkF L = 0) : ∃ t : Tr, t.ok = true ∧ t.er = 0 ∧ t.flat = L := by
  obtain ⟨E, hE⟩ := checkF_zero h
  obtain ⟨t, t1, t2⟩ := of_cut _ hE (Nat.le_refl _)
  exact ⟨t, t1, by rw [← check_flat t t1, t2]; exact h, t2⟩
end Tr
end Go.Proofs.YtlmamidodahgmaaGreatDoor

/- ERd: How tokens are parsed: the grammar as a relation, and a function beside it. -/
namespace Go.Proofs.YtlmamidodahgmaaGreatDoor
open Go.RowKit N4
set_option linter.unusedVariables false
set_option maxRecDepth 100000

def opT : List (List UInt8) := [[42], [43], [45], [60, 60], [62, 62], [60], [60, 61], [62], [62, 61], [61], [33, 61], [97, 110, 100], [111, 114]]
def opB (k : Int) : List UInt8 := (opT[(k - 7).toNat]?).getD []
def opFrom : Nat → Int → List UInt8 → Option Int
  | 0, _, _ => none
  | f + 1, k, s => if s = opB k then some k else opFrom f (k + 1) s
def opOf (lo hi : Int) (s : List UInt8) : Option Int := opFrom (hi + 1 - lo).toNat lo s
def loK (n : Nat) : Int := if n = 0 then 19 else if n = 1 then 18 else if n = 3 then 12 else if n = 4 then 10 else if n = 5 then 8 else 7
def hiK (n : Nat) : Int := if n = 0 then 19 else if n = 1 then 18 else if n = 3 then 17 else if n = 4 then 11 else if n = 5 then 9 else 7
def sgnB (n : Nat) : List UInt8 := if n = 2 then [110, 111, 116] else [45]
def sgnK (n : Nat) : Int := if n = 2 then 6 else 5
def isCh (n : Nat) : Prop := n = 0 ∨ n = 1 ∨ n = 3 ∨ n = 4 ∨ n = 5 ∨ n = 6
instance (n : Nat) : Decidable (isCh n) := by unfold isCh; infer_instance
def isPr (n : Nat) : Prop := n = 2 ∨ n = 7
instance (n : Nat) : Decidable (isPr n) := by unfold isPr; infer_instance
def leafOf (s : List UInt8) : Option (Int × Int) :=
  if rdErr s = 0 then some (1, (val s : Nat)) else if s = [107] then some (2, 0) else if s = [116] then some (3, 0) else if s = [118] then some (4, 0) else none
def txt : List Tok → List UInt8
  | [] => []
  | x :: _ => x.s

inductive R where
  | ok (t : Tr) (s : List Tok) : R
  | er (e : Int) (s : List Tok) : R
deriving DecidableEq
def R.rest : R → List Tok
  | .ok _ s => s
  | .er _ s => s
inductive Md where
  | line (n : Nat) : Md
  | chain (n : Nat) (t : Tr) : Md

/-- Signs in front of a part: the innermost node first. -/
def wrapR (k : Int) (s : List Tok) : List Tok → R → R
  | [], r => r
  | x :: c, r => match wrapR k s c r with
    | .ok t q => if (Tr.un k x.a t).er = 0 then .ok (.un k x.a t) q else .er (Tr.un k x.a t).er (x :: c ++ s)
    | .er e q => .er e q

inductive Rd : Md → List Tok → R → Prop
  | first_er {n s e q} : isCh n → Rd (.line (n + 1)) s (.er e q) → Rd (.line n) s (.er e q)
  | first_ok {n s t q r} : isCh n → Rd (.line (n + 1)) s (.ok t q) → Rd (.chain n t) q r → Rd (.line n) s r
  | stop {n t s} : isCh n → opOf (loK n) (hiK n) (txt s) = none → Rd (.chain n t) s (.ok t s)
  | next_er {n t k x s e q} : isCh n → opOf (loK n) (hiK n) x.s = some k → Rd (.line (n + 1)) s (.er e q) → Rd (.chain n t) (x :: s) (.er e q)
  | next_node {n t k x s u q} : isCh n → opOf (loK n) (hiK n) x.s = some k → Rd (.line (n + 1)) s (.ok u q) → (Tr.bin k x.a t u).er ≠ 0 → Rd (.chain n t) (x :: s) (.er (Tr.bin k x.a t u).er (x :: s))
  | next_ok {n t k x s u q r} : isCh n → n ≠ 3 → opOf (loK n) (hiK n) x.s = some k → Rd (.line (n + 1)) s (.ok u q) → (Tr.bin k x.a t u).er = 0 → Rd (.chain n (.bin k x.a t u)) q r → Rd (.chain n t) (x :: s) r
  | next_one {t k x s u q} : opOf (loK 3) (hiK 3) x.s = some k → Rd (.line 4) s (.ok u q) → (Tr.bin k x.a t u).er = 0 → Rd (.chain 3 t) (x :: s) (.ok (.bin k x.a t u) q)
  | pre {n c s r0} : isPr n → (∀ x ∈ c, x.s = sgnB n) → txt s ≠ sgnB n → Rd (.line (n + 1)) s r0 → Rd (.line n) (c ++ s) (wrapR (sgnK n) s c r0)
  | leaf {x s k m} : leafOf x.s = some (k, m) → Rd (.line 8) (x :: s) (.ok (.leaf k m x.a) s)
  | bad {s} : txt s ≠ [40] → leafOf (txt s) = none → Rd (.line 8) s (.er 12 s)
  | br_er {x s e q} : x.s = [40] → Rd (.line 0) s (.er e q) → Rd (.line 8) (x :: s) (.er e q)
  | br_no {x s t q} : x.s = [40] → Rd (.line 0) s (.ok t q) → txt q ≠ [41] → Rd (.line 8) (x :: s) (.er 12 q)
  | br_ok {x s t y q} : x.s = [40] → Rd (.line 0) s (.ok t (y :: q)) → y.s = [41] → Rd (.line 8) (x :: s) (.ok t q)

/-! ### the function -/
def rdF : Nat → Md → List Tok → Option R
  | 0, _, _ => none
  | f + 1, .line n, s =>
    if n = 8 then
      match s with
      | [] => some (.er 12 [])
      | x :: q => match leafOf x.s with
        | some (k, m) => some (.ok (.leaf k m x.a) q)
        | none => if x.s = [40] then
            match rdF f (.line 0) q with
            | some (.ok t []) => some (.er 12 [])
            | some (.ok t (y :: q')) => if y.s = [41] then some (.ok t q') else some (.er 12 (y :: q'))
            | some (.er e q') => some (.er e q')
            | none => none
          else some (.er 12 (x :: q))
    else if isPr n then
      match rdF f (.line (n + 1)) (s.dropWhile (fun x => x.s == sgnB n)) with
      | some r => some (wrapR (sgnK n) (s.dropWhile (fun x => x.s == sgnB n)) (s.takeWhile (fun x => x.s == sgnB n)) r)
      | none => none
    else if isCh n then
      match rdF f (.line (n + 1)) s with
      | some (.ok t q) => rdF f (.chain n t) q
      | some (.er e q) => some (.er e q)
      | none => none
    else none
  | f + 1, .chain n t, s =>
    match s with
    | [] => some (.ok t [])
    | x :: q => match opOf (loK n) (hiK n) x.s with
      | none => some (.ok t (x :: q))
      | some k => match rdF f (.line (n + 1)) q with
        | none => none
        | some (.er e q') => some (.er e q')
        | some (.ok u q') => if (Tr.bin k x.a t u).er = 0 then (if n = 3 then some (.ok (.bin k x.a t u) q') else rdF f (.chain n (.bin k x.a t u)) q') else some (.er (Tr.bin k x.a t u).er (x :: q))

theorem op_nil (n : Nat) : opOf (loK n) (hiK n) [] = none := by
  unfold loK hiK
  repeat' split
  all_goals decide
theorem tw_mem {α : Type} (p : α → Bool) (s : List α) : ∀ x ∈ s.takeWhile p, p x = true := by
  induction s with
  | nil => intro x hx; simp at hx
  | cons y s ih =>
    intro x hx
    rw [List.takeWhile_cons] at hx
    split at hx
    · rcases List.mem_cons.1 hx with rfl | hx
      · assumption
      · exact ih x hx
    · simp at hx
theorem dw_txt (b : List UInt8) (hb : b ≠ []) (s : List Tok) : txt (s.dropWhile (fun x => x.s == b)) ≠ b := by
  induction s with
  | nil => exact fun h => hb h.symm
  | cons y s ih =>
    rw [List.dropWhile_cons]
    split
    · exact ih
    · rename_i h
      intro h2
      exact h (by simpa [txt] using h2)
theorem sgn_ne (n : Nat) : sgnB n ≠ [] := by unfold sgnB; split <;> simp
theorem leaf_nil : leafOf [] = none := by decide
theorem leaf_br {s : List UInt8} (h : s = [40]) : leafOf s = none := by subst h; decide

def Md.ch : Md → Prop
  | .line _ => True
  | .chain n _ => isCh n
theorem rdF_Rd (f : Nat) : ∀ (m : Md) (s : List Tok) (r : R), m.ch → rdF f m s = some r → Rd m s r := by
  induction f with
  | zero => intro m s r _ h; simp [rdF] at h
  | succ f ih =>
    intro m s r hm h
    cases m with
    | line n =>
      rw [rdF.eq_def] at h
      simp only at h
      by_cases h8 : n = 8
      · subst h8
        rw [if_pos rfl] at h
        cases s with
        | nil => simp only [Option.some.injEq] at h; subst h; exact .bad (by simp [txt]) leaf_nil
        | cons x q =>
          cases hl : leafOf x.s with
          | some km =>
            obtain ⟨k, mm⟩ := km
            simp only [hl, Option.some.injEq] at h; subst h
            exact .leaf hl
          | none =>
            simp only [hl] at h
            by_cases h4 : x.s = [40]
            · rw [if_pos h4] at h
              cases hr : rdF f (.line 0) q with
              | none => rw [hr] at h; simp at h
              | some r0 =>
                have hR := ih _ _ _ (by exact trivial) hr
                rw [hr] at h
                cases r0 with
                | er e q' => simp only [Option.some.injEq] at h; subst h; exact .br_er h4 hR
                | ok t q' =>
                  cases q' with
                  | nil => simp only [Option.some.injEq] at h; subst h; exact .br_no h4 hR (by simp [txt])
                  | cons y q' =>
                    simp only at h
                    by_cases h5 : y.s = [41]
                    · rw [if_pos h5] at h; simp only [Option.some.injEq] at h; subst h; exact .br_ok h4 hR h5
                    · rw [if_neg h5] at h; simp only [Option.some.injEq] at h; subst h; exact .br_no h4 hR h5
            · rw [if_neg h4] at h; simp only [Option.some.injEq] at h; subst h
              exact .bad h4 hl
      · rw [if_neg h8] at h
        by_cases hp : isPr n
        · rw [if_pos hp] at h
          cases hr : rdF f (.line (n + 1)) (s.dropWhile (fun x => x.s == sgnB n)) with
          | none => rw [hr] at h; simp at h
          | some r0 =>
            rw [hr] at h
            simp only [Option.some.injEq] at h; subst h
            have hR := ih _ _ _ (by exact trivial) hr
            have := Rd.pre hp (c := s.takeWhile (fun x => x.s == sgnB n)) (fun x hx => by simpa using tw_mem _ _ x hx) (dw_txt _ (sgn_ne n) s) hR
            rwa [List.takeWhile_append_dropWhile] at this
        · rw [if_neg hp] at h
          by_cases hc : isCh n
          · rw [if_pos hc] at h
            cases hr : rdF f (.line (n + 1)) s with
            | none => rw [hr] at h; simp at h
            | some r0 =>
              have hR := ih _ _ _ (by exact trivial) hr
              rw [hr] at h
              cases r0 with
              | er e q' => simp only [Option.some.injEq] at h; subst h; exact .first_er hc hR
              | ok t q' => exact .first_ok hc hR (ih _ _ _ hc h)
          · rw [if_neg hc] at h; simp at h
    | chain n t =>
      have hc : isCh n := hm
      rw [rdF.eq_def] at h
      simp only at h
      cases s with
      | nil => simp only [Option.some.injEq] at h; subst h; exact .stop hc (op_nil n)
      | cons x q =>
        simp only at h
        cases ho : opOf (loK n) (hiK n) x.s with
        | none => rw [ho] at h; simp only [Option.some.injEq] at h; subst h; exact .stop hc ho
        | some k =>
          rw [ho] at h
          simp only at h
          cases hr : rdF f (.line (n + 1)) q with
          | none => rw [hr] at h; simp at h
          | some r0 =>
            have hR := ih _ _ _ (by exact trivial) hr
            rw [hr] at h
            cases r0 with
            | er e q' => simp only [Option.some.injEq] at h; subst h; exact .next_er hc ho hR
            | ok u q' =>
              simp only at h
              by_cases he : (Tr.bin k x.a t u).er = 0
              · rw [if_pos he] at h
                by_cases h3 : n = 3
                · rw [if_pos h3] at h; simp only [Option.some.injEq] at h; subst h; subst h3; exact .next_one ho hR he
                · rw [if_neg h3] at h; exact .next_ok hc h3 ho hR he (ih _ _ _ hc h)
              · rw [if_neg he] at h; simp only [Option.some.injEq] at h; subst h; exact .next_node hc ho hR he

/-! ### what is left is an end of it -/
theorem wrap_rest (k : Int) (s : List Tok) : ∀ (c : List Tok) (r : R), r.rest <:+ s → (wrapR k s c r).rest <:+ c ++ s := by
  intro c
  induction c with
  | nil => intro r h; exact h
  | cons x c ih =>
    intro r h
    have := ih r h
    rw [wrapR]
    cases hw : wrapR k s c r with
    | er e q => rw [hw] at this; exact this.trans (List.suffix_cons x _)
    | ok t q =>
      rw [hw] at this
      simp only
      split
      · exact this.trans (List.suffix_cons x _)
      · exact List.suffix_refl _
theorem Rd.suf {m : Md} {s : List Tok} {r : R} (h : Rd m s r) : r.rest <:+ s := by
  induction h with
  | first_er _ _ ih => exact ih
  | first_ok _ _ _ ih1 ih2 => exact ih2.trans ih1
  | stop _ _ => exact List.suffix_refl _
  | next_er _ _ _ ih => exact ih.trans (List.suffix_cons _ _)
  | next_node _ _ _ _ _ => exact List.suffix_refl _
  | next_ok _ _ _ _ _ _ ih1 ih2 => exact (ih2.trans ih1).trans (List.suffix_cons _ _)
  | next_one _ _ _ ih => exact ih.trans (List.suffix_cons _ _)
  | pre _ _ _ _ ih => exact wrap_rest _ _ _ _ ih
  | leaf _ => exact List.suffix_cons _ _
  | bad _ _ => exact List.suffix_refl _
  | br_er _ _ ih => exact ih.trans (List.suffix_cons _ _)
  | br_no _ _ _ ih => exact ih.trans (List.suffix_cons _ _)
  | br_ok _ _ _ ih => exact ((List.suffix_cons _ _).trans ih).trans (List.suffix_cons _ _)
theorem wrap_ok {k : Int} {s : List Tok} : ∀ {c : List Tok} {r : R} {t : Tr} {q : List Tok}, wrapR k s c r = .ok t q → ∃ u, r = .ok u q := by
  intro c
  induction c with
  | nil => intro r t q h; exact ⟨t, h⟩
  | cons x c ih =>
    intro r t q h
    rw [wrapR] at h
    cases hw : wrapR k s c r with
    | er e q' => rw [hw] at h; simp at h
    | ok u q' =>
      rw [hw] at h
      simp only at h
      split at h
      · injection h with h1 h2; subst h2; exact ih hw
      · simp at h
theorem Rd.lt {m : Md} {s : List Tok} {r : R} (h : Rd m s r) : ∀ {t q}, r = .ok t q → q.length ≤ s.length ∧ ((∃ n, m = .line n) → q.length < s.length) := by
  have hs := h.suf.length_le
  induction h with
  | first_er _ _ ih => intro t q h; simp at h
  | first_ok _ h1 h2 ih1 ih2 =>
    intro t q h; subst h
    have a := (ih1 h1.suf.length_le rfl).2 ⟨_, rfl⟩
    have b := (ih2 h2.suf.length_le rfl).1
    exact ⟨by omega, fun _ => by omega⟩
  | stop _ _ => intro t q h; injection h with h1 h2; subst h2; exact ⟨Nat.le_refl _, fun ⟨_, h⟩ => by simp at h⟩
  | next_er _ _ _ ih => intro t q h; simp at h
  | next_node _ _ _ _ _ => intro t q h; simp at h
  | next_ok _ _ _ h1 _ h2 ih1 ih2 =>
    intro t q h; subst h
    have a := (ih1 h1.suf.length_le rfl).1
    have b := (ih2 h2.suf.length_le rfl).1
    exact ⟨by simp; omega, fun ⟨_, h⟩ => by simp at h⟩
  | next_one _ h1 _ ih =>
    intro t q h; injection h with _ h; subst h
    have a := (ih h1.suf.length_le rfl).1
    exact ⟨by simp; omega, fun ⟨_, h⟩ => by simp at h⟩
  | pre _ _ _ h1 ih =>
    intro t q h
    obtain ⟨u, rfl⟩ := wrap_ok h
    have a := (ih h1.suf.length_le rfl).2 ⟨_, rfl⟩
    exact ⟨by simp; omega, fun _ => by simp; omega⟩
  | leaf _ => intro t q h; injection h with _ h; subst h; exact ⟨by simp, fun _ => by simp⟩
  | bad _ _ => intro t q h; simp at h
  | br_er _ _ ih => intro t q h; simp at h
  | br_no _ _ _ ih => intro t q h; simp at h
  | br_ok _ h1 _ ih =>
    intro t q h; injection h with _ h; subst h
    have a := (ih h1.suf.length_le rfl).1
    simp at a
    exact ⟨by simp; omega, fun _ => by simp; omega⟩
/-- A number, and an At. -/
def TkOk (x : Tok) : Prop := 0 ≤ x.a ∧ x.a ≤ 400
theorem op_range {n : Nat} {s : List UInt8} {k : Int} (h : opOf (loK n) (hiK n) s = some k) : loK n ≤ k ∧ k ≤ hiK n ∧ s = opB k := by
  have key : ∀ (f : Nat) (a : Int), opFrom f a s = some k → a ≤ k ∧ k < a + f ∧ s = opB k := by
    intro f
    induction f with
    | zero => intro a h; simp [opFrom] at h
    | succ f ih =>
      intro a h
      rw [opFrom] at h
      split at h
      · injection h with h; subst h; rename_i hs; exact ⟨by omega, by omega, hs⟩
      · have := ih _ h; exact ⟨by omega, by omega, this.2.2⟩
  have := key _ _ h
  have hle : loK n ≤ hiK n := by unfold loK hiK; repeat' split
                                 all_goals omega
  exact ⟨this.1, by omega, this.2.2⟩
theorem lo7 (n : Nat) : 7 ≤ loK n ∧ hiK n ≤ 19 := by
  unfold loK hiK
  repeat' split
  all_goals omega
theorem leaf_range {s : List UInt8} {k m : Int} (h : leafOf s = some (k, m)) : 1 ≤ k ∧ k ≤ 4 ∧ 0 ≤ m ∧ (m = 0 ∨ k = 1) ∧ m ≤ 9223372036854775807 := by
  unfold leafOf at h
  split at h
  · rename_i h0
    simp only [Option.some.injEq, Prod.mk.injEq] at h
    obtain ⟨rfl, rfl⟩ := h
    have : val s ≤ 9223372036854775807 := by
      unfold rdErr rdE at h0
      split at h0
      · split at h0
        · assumption
        · omega
      · omega
    exact ⟨by omega, by omega, by omega, .inr rfl, by omega⟩
  · repeat' (split at h)
    all_goals (try simp only [Option.some.injEq, Prod.mk.injEq] at h)
    all_goals (first | (obtain ⟨rfl, rfl⟩ := h; exact ⟨by omega, by omega, by omega, .inl rfl, by omega⟩) | cases h)
theorem fits_leaf {k m p : Int} (h0 : 0 ≤ m) (h : m = 0 ∨ k = 1) (hp : 0 ≤ p ∧ p ≤ 400) : fitsF k m p = true := by
  simp [fitsF, h0, h, hp.1, hp.2]
theorem fits_zero {k p : Int} (hp : 0 ≤ p ∧ p ≤ 400) : fitsF k 0 p = true := fits_leaf (by omega) (.inl rfl) hp
theorem wrap_good {k : Int} (hk : 5 ≤ k ∧ k ≤ 6) {s : List Tok} : ∀ {c : List Tok} {r : R} {t : Tr} {q : List Tok}, (∀ x ∈ c, TkOk x) → (∀ u q, r = .ok u q → u.ok = true ∧ u.er = 0) → wrapR k s c r = .ok t q → t.ok = true ∧ t.er = 0 := by
  intro c
  induction c with
  | nil => intro r t q _ h hw; exact h _ _ hw
  | cons x c ih =>
    intro r t q hc h hw
    rw [wrapR] at hw
    cases hr : wrapR k s c r with
    | er e q' => rw [hr] at hw; simp at hw
    | ok u q' =>
      rw [hr] at hw
      simp only at hw
      have := ih (fun y hy => hc y (List.mem_cons_of_mem _ hy)) h hr
      split at hw
      · injection hw with h1 h2
        subst h1
        rename_i he
        exact ⟨by simp [Tr.ok, hk.1, hk.2, this.1, fits_zero (k := k) (hc x (List.mem_cons_self))], he⟩
      · simp at hw
def Md.good : Md → Prop
  | .line _ => True
  | .chain _ t => t.ok = true ∧ t.er = 0
theorem bin_ok {k p : Int} {t u : Tr} (hk : 7 ≤ k ∧ k ≤ 19) (hp : 0 ≤ p ∧ p ≤ 400) (ht : t.ok = true) (hu : u.ok = true) : (Tr.bin k p t u).ok = true := by
  simp [Tr.ok, hk.1, hk.2, ht, hu, fits_zero (k := k) hp]
theorem sgn_k (n : Nat) : 5 ≤ sgnK n ∧ sgnK n ≤ 6 := by unfold sgnK; split <;> omega
theorem Rd.good {m : Md} {s : List Tok} {r : R} (h : Rd m s r) (hs : ∀ x ∈ s, TkOk x) (hm : m.good) : ∀ {t q}, r = .ok t q → t.ok = true ∧ t.er = 0 := by
  induction h with
  | first_er _ _ ih => intro t q h; simp at h
  | first_ok _ h1 h2 ih1 ih2 =>
    intro t q h
    exact ih2 (fun x hx => hs x (h1.suf.subset hx)) (ih1 hs trivial rfl) h
  | stop _ _ => intro t q h; injection h with h1 h2; subst h1; exact hm
  | next_er _ _ _ ih => intro t q h; simp at h
  | next_node _ _ _ _ _ => intro t q h; simp at h
  | @next_ok n t k x s u q r hc h3 ho h1 he h2 ih1 ih2 =>
    intro t' q' h
    have hs' : ∀ x ∈ s, TkOk x := fun y hy => hs y (List.mem_cons_of_mem _ hy)
    have hr := op_range ho
    have := lo7 n
    have := ih1 hs' trivial rfl
    refine ih2 (fun x hx => hs' x (h1.suf.subset hx)) ⟨bin_ok (by omega) (hs x (List.mem_cons_self)) hm.1 this.1, he⟩ h
  | @next_one t k x s u q ho h1 he ih =>
    intro t' q' h
    have hs' : ∀ x ∈ s, TkOk x := fun y hy => hs y (List.mem_cons_of_mem _ hy)
    have hr := op_range ho
    have := lo7 3
    have := ih hs' trivial rfl
    injection h with h _
    subst h
    exact ⟨bin_ok (by omega) (hs x (List.mem_cons_self)) hm.1 this.1, he⟩
  | @pre n c s r0 hp hc hn h1 ih =>
    intro t q h
    exact wrap_good (sgn_k n) (fun x hx => hs x (List.mem_append_left _ hx)) (fun u q hu => ih (fun x hx => hs x (List.mem_append_right _ hx)) trivial hu) h
  | @leaf x s k m hl =>
    intro t q h; injection h with h _; subst h
    have := leaf_range hl
    exact ⟨by simp [Tr.ok, this.1, this.2.1, fits_leaf this.2.2.1 this.2.2.2.1 (hs x (List.mem_cons_self))], by rfl⟩
  | bad _ _ => intro t q h; simp at h
  | br_er _ _ ih => intro t q h; simp at h
  | br_no _ _ _ ih => intro t q h; simp at h
  | br_ok _ h1 _ ih =>
    intro t q h; injection h with h _; subst h
    exact ih (fun x hx => hs x (List.mem_cons_of_mem _ hx)) trivial rfl
end Go.Proofs.YtlmamidodahgmaaGreatDoor

/- EMem: What a reader of expressions keeps in memory, and its next token. -/
namespace Go.Proofs.YtlmamidodahgmaaGreatDoor
open Go.ChangeShapes Go.WideShapes Go.ChangeAt Go.RowKit N4
set_option linter.unusedVariables false
set_option maxRecDepth 100000

def fldT : List (List UInt8) := [[107], [116], [118]]
def Tab5 (w : World) : Prop := Tab w 2 opT ∧ Tab w 1 fldT
theorem Tab5.stays {w w' : World} (h : Tab5 w) (hb : Below w.heap.size w w') : Tab5 w' := ⟨h.1.stays hb, h.2.stays hb⟩
theorem Tab.cellAt {w : World} {g : Nat} {T : List (List UInt8)} (h : Tab w g T) {i : Nat} {s : List UInt8} (hs : T[i]? = some s) : w.cell? ⟨g, i, none⟩ = some (.string (bytesOf s)) := by
  obtain ⟨t, fr, hh⟩ := h
  simp only [World.cell?, hh, strsOf]
  simp [hs]
theorem Tab.lt {w : World} {g : Nat} {T : List (List UInt8)} (h : Tab w g T) : g < w.heap.size := by
  obtain ⟨t, fr, hh⟩ := h
  exact (Array.getElem?_eq_some_iff.1 hh).1

/-- Everything but block b stays. -/
structure Kp (b : Nat) (w w' : World) : Prop where
  os : w'.os = w.os
  tape : w'.tape = w.tape
  output : w'.output = w.output
  size : w.heap.size ≤ w'.heap.size
  block : ∀ k, k < w.heap.size → k ≠ b → w'.heap[k]? = w.heap[k]?
theorem Kp.of_below {b : Nat} {w w' : World} (h : Below w.heap.size w w') : Kp b w w' := ⟨h.os, h.tape, h.output, h.size, fun k hk _ => h.block k hk⟩
theorem Kp.refl (b : Nat) (w : World) : Kp b w w := Kp.of_below (Below.refl _ _)
theorem Kp.trans {b : Nat} {u v w : World} (h : Kp b u v) (k : Kp b v w) : Kp b u w :=
  ⟨k.os.trans h.os, k.tape.trans h.tape, k.output.trans h.output, Nat.le_trans h.size k.size, fun i hi hb => (k.block i (Nat.lt_of_lt_of_le hi h.size) hb).trans (h.block i hi hb)⟩
theorem Kp.set (b : Nat) (w : World) (i : Nat) (u : Value) : Kp b w (w.setCell ⟨b, i, none⟩ u) :=
  ⟨rfl, rfl, rfl, by simp, fun k _ hb => Below.heap_setCell w ⟨b, i, none⟩ u k hb⟩
theorem Kp.drewN (b : Nat) (w : World) (n : Nat) : Kp b w (w.drewN n) := Kp.of_below (bd_drewN w n)
theorem Kp.below {b : Nat} {w0 w w' : World} (h : Kp b w w') (hb : Below b w0 w) (hs : b ≤ w.heap.size) : Below b w0 w' :=
  hb.trans ⟨h.os, h.tape, h.output, h.size, fun k hk => h.block k (by omega) (by omega)⟩
theorem Kp.cell {b : Nat} {w w' : World} (h : Kp b w w') {p : Addr} (hp : p.block < w.heap.size) (hb : p.block ≠ b) : w'.cell? p = w.cell? p := World.cell?_of_block (w := w) (h.block p.block hp hb)
theorem Kp.lies {b : Nat} {w w' : World} (h : Kp b w w') {A : Option Addr} {cs : List Value} (hl : Lies w A cs) (hb : ∀ a, A = some a → cs ≠ [] → a.block ≠ b) : Lies w' A cs := by
  rcases hl with h0 | ⟨ad, h1, h2, h3⟩
  · exact .inl h0
  · by_cases hc : cs = []
    · exact .inl hc
    · refine .inr ⟨ad, h1, Nat.lt_of_lt_of_le h2 h.size, fun j u hj => ?_⟩
      rw [h.cell (by rw [add_block]; exact h2) (by rw [add_block]; exact hb ad h1 hc)]
      exact h3 j u hj

/-- The reader: its tokens, and the place at which it stands. -/
def Rdr (w : World) (b : Nat) (V : Value) (i : Nat) : Prop := w.heap[b]? = some (.cells #[V, .int .i64 i] 87 (0, 0))
theorem Rdr.lt {w : World} {b i : Nat} {V : Value} (h : Rdr w b V i) : b < w.heap.size := (Array.getElem?_eq_some_iff.1 h).1
theorem Rdr.c0 {w : World} {b i : Nat} {V : Value} (h : Rdr w b V i) : w.cell? ⟨b, 0, none⟩ = some V := by
  have h' : w.heap[b]? = _ := h
  simp only [World.cell?, h']; rfl
theorem Rdr.c1 {w : World} {b i : Nat} {V : Value} (h : Rdr w b V i) : w.cell? ⟨b, 1, none⟩ = some (.int .i64 i) := by
  have h' : w.heap[b]? = _ := h
  simp only [World.cell?, h']; rfl
theorem Rdr.fz {w : World} {b i : Nat} {V : Value} (h : Rdr w b V i) : w.frozen? ⟨b, 1, none⟩ = false := by
  have h' : w.heap[b]? = _ := h
  simp only [World.frozen?, h']; rfl
theorem Rdr.below {w w' : World} {b i : Nat} {V : Value} (h : Rdr w b V i) (hb : Below w.heap.size w w') : Rdr w' b V i := by
  unfold Rdr
  rw [hb.block b h.lt]; exact h
theorem Rdr.drewN {w : World} {b i : Nat} {V : Value} (h : Rdr w b V i) (n : Nat) : Rdr (w.drewN n) b V i := h.below (bd_drewN w n)
theorem Rdr.set {w : World} {b i : Nat} {V : Value} (h : Rdr w b V i) (j : Nat) : Rdr (w.setCell ⟨b, 1, none⟩ (.int .i64 j)) b V j := by
  unfold Rdr at *
  unfold World.setCell
  simp only [Array.getElem?_modify, h]
  rfl
theorem Rdr.of_alloc {w : World} {b i : Nat} {V : Value} (hb : w.heap.size = b) : Rdr (w.alloc (.cells #[V, .int .i64 i] 87)) b V i := by
  subst hb
  unfold Rdr World.alloc
  simp
/-- Nodes lie in no reader. -/
theorem Lies.no_rdr {w : World} {b i : Nat} {A : Option Addr} {n c : Nat} {A' : Option Addr} {P : List Nd} (h : Lies w A (ndCells P)) (hr : Rdr w b (.slice A' n c) i) : ∀ a, A = some a → ndCells P ≠ [] → a.block ≠ b := by
  intro a ha hne
  rcases h with h0 | ⟨ad, h1, h2, h3⟩
  · exact absurd h0 hne
  · obtain rfl : a = ad := Option.some.inj (ha.symm.trans h1)
    intro hb
    cases P with
    | nil => exact hne rfl
    | cons x P =>
      have h0 := h3 0 (.int .u8 x.k) rfl
      have hr' : w.heap[a.block]? = some (.cells #[.slice A' n c, .int .i64 i] 87 (0, 0)) := by rw [hb]; exact hr
      simp only [Addr.add, if_pos, World.cell?, hr'] at h0
      by_cases hs : a.spot.isSome = true
      · rw [if_pos hs] at h0; cases h0
      · rw [if_neg hs] at h0
        rcases ho : a.off with _ | _ | o
        · rw [ho] at h0; simp at h0
        · rw [ho] at h0; simp at h0
        · rw [ho] at h0; simp at h0

/-- What stands throughout a reading. -/
structure Fx (w0 : World) (L : List Tok) (A : Option Addr) (c b : Nat) : Prop where
  base : w0.heap.size = b
  toks : Toks w0 A L
  tabs : Tab5 w0
  len : L.length ≤ 200
  ok : ∀ x ∈ L, TkOk x ∧ x.s.length ≤ maxLen
structure PS (w0 : World) (L : List Tok) (A : Option Addr) (c b : Nat) (s : List Tok) (w : World) : Prop where
  suf : s <:+ L
  bl : Below b w0 w
  rd : Rdr w b (.slice A L.length c) (L.length - s.length)
section
variable {w0 w w' : World} {L s s' : List Tok} {A : Option Addr} {c b : Nat}
theorem PS.below (h : PS w0 L A c b s w) (hb : Below w.heap.size w w') : PS w0 L A c b s w' := ⟨h.suf, h.bl.trans (hb.mono (Nat.le_of_lt h.rd.lt)), h.rd.below hb⟩
theorem PS.drewN (h : PS w0 L A c b s w) (n : Nat) : PS w0 L A c b s (w.drewN n) := h.below (bd_drewN w n)
theorem PS.toks (h : PS w0 L A c b s w) (f : Fx w0 L A c b) : Toks w A L := f.toks.below (f.base.symm ▸ h.bl)
theorem PS.tabs (h : PS w0 L A c b s w) (f : Fx w0 L A c b) : Tab5 w := f.tabs.stays (f.base.symm ▸ h.bl)
theorem PS.kp (h : PS w0 L A c b s w) (k : Kp b w w') (hs : s' <:+ L) (hr : Rdr w' b (.slice A L.length c) (L.length - s'.length)) : PS w0 L A c b s' w' := ⟨hs, k.below h.bl (Nat.le_of_lt h.rd.lt), hr⟩
end
theorem suf_drop {s L : List Tok} (h : s <:+ L) : L.drop (L.length - s.length) = s := by
  obtain ⟨t, rfl⟩ := h
  simp
theorem suf_at {x : Tok} {s L : List Tok} (h : x :: s <:+ L) : L[L.length - (x :: s).length]? = some x ∧ (L.length - (x :: s).length) + 1 = L.length - s.length := by
  have hl := h.length_le
  have := suf_drop h
  constructor
  · have h2 := congrArg (·[0]?) this
    simpa [List.getElem?_drop] using h2
  · simp at hl ⊢; omega
theorem Fx.mem {w0 : World} {L : List Tok} {A : Option Addr} {c b : Nat} (f : Fx w0 L A c b) {s : List Tok} (h : s <:+ L) : ∀ x ∈ s, TkOk x := fun x hx => (f.ok x (h.subset hx)).1

/-- What a line of the grammar answers. -/
def LPost (L : List Tok) (A : Option Addr) (c b : Nat) (r : R) (w : World) (e : Ending) (w' : World) : Prop :=
  Kp b w w' ∧ Rdr w' b (.slice A L.length c) (L.length - r.rest.length) ∧
  match r with
  | .ok t _ => ∃ A' c', e = .returned (.tuple #[.slice A' t.sz (t.sz + c'), .int .i64 0]) ∧ Lies w' A' (ndCells t.flat)
  | .er v _ => e = .returned (.tuple #[.slice none 0 0, .int .i64 v])

/-! ### the next token -/
theorem next_any (w0 : World) (L : List Tok) (A : Option Addr) (c b : Nat) (s : List Tok) (w : World) (f : Fx w0 L A c b) (h : PS w0 L A c b s w) :
    Calls Tryz.prog 109 #[.pointer (some ⟨b, 0, none⟩)] w fun e w' => e = .returned (.string (bytesOf (txt s))) ∧ ∃ n, w' = w.drewN n := by
  have hl := f.len
  cases s with
  | nil =>
    have h0 := h.rd.c0
    have h1 := h.rd.c1
    have hlt := h.rd.lt
    rw [show L.length - ([] : List Tok).length = L.length by simp] at h1
    generalize L.length = n at h0 h1 hl
    clear h f
    go_enter Tryz.func109, Tryz.ntmps109
    go_wp2
    go_quiet (fail)
    go_wp2
    go_ret
    exact ⟨rfl, _, rfl⟩
  | cons x s =>
    obtain ⟨hx, hi⟩ := suf_at h.suf
    have h0 := h.rd.c0
    have h1 := h.rd.c1
    have hlt := h.rd.lt
    have hle := h.suf.length_le
    have ht := h.toks f
    obtain ⟨ad, rfl, hcc⟩ : ∃ ad, A = some ad ∧ TokAt w ad (L.length - (x :: s).length) x := by
      obtain ⟨ad, t, k1, k2, k3⟩ := ht.at_ _ (List.getElem?_eq_some_iff.1 hx).1
      have k4 : t = x := Option.some.inj (k3.symm.trans hx)
      exact ⟨ad, k1, k4 ▸ k2⟩
    generalize L.length - (x :: s).length = i at h1 hi hcc
    have hin : i < L.length := by simp at hle hi; omega
    generalize L.length = n at h0 h1 hl hin
    obtain ⟨hc1, hc2, hc3⟩ := hcc
    clear h f ht hx hi hle
    go_enter Tryz.func109, Tryz.ntmps109
    have hne : ¬ ((i : Int) = (n : Int)) := by omega
    go_wp2
    go_quiet (fail)
    go_wp2
    go_quiet (fail)
    go_wp2
    go_ret
    exact ⟨rfl, _, World.drewN_drewN _ _ _⟩
end Go.Proofs.YtlmamidodahgmaaGreatDoor

/- EOp: The operator that stands next. -/
namespace Go.Proofs.YtlmamidodahgmaaGreatDoor
open Go.ChangeShapes Go.WideShapes Go.ChangeAt Go.RowKit N4
set_option linter.unusedVariables false
set_option maxRecDepth 100000

def opPost (o : Option Int) (w : World) (e : Ending) (w' : World) : Prop :=
  e = .returned (.tuple #[.int .u8 (o.getD 0), .bool o.isSome]) ∧ ∃ n, w' = w.drewN n
theorem op_table (m : Nat) (h : m < 13) : opT[m]? = some (opB (7 + (m : Int))) := by
  have : ∀ m : Fin 13, opT[m.val]? = some (opB (7 + (m.val : Int))) := by decide
  exact this ⟨m, h⟩
theorem beq_bytes {s t : List UInt8} (h : s = t) : ((bytesOf s).toList == (bytesOf t).toList) = true := by subst h; simp
theorem bne_bytes {s t : List UInt8} (h : ¬ s = t) : ((bytesOf s).toList == (bytesOf t).toList) = false := by
  rw [bytesOf_toList, bytesOf_toList]; simpa using h
set_option maxHeartbeats 2000000 in
theorem operator_any (w0 : World) (L : List Tok) (A : Option Addr) (c b : Nat) (s : List Tok) (w : World) (f : Fx w0 L A c b) (h : PS w0 L A c b s w)
    (lo hi : Nat) (hh : lo ≤ hi) (hi2 : hi < 13) (o : Option Int) (ho : opOf (7 + (lo : Int)) (7 + (hi : Int)) (txt s) = o) :
    Calls Tryz.prog 95 #[.pointer (some ⟨b, 0, none⟩), .int .u8 (7 + (lo : Int)), .int .u8 (7 + (hi : Int))] w (opPost o w) := by
  have HN := Lib.hid (fun (W : World) (h' : PS w0 L A c b s W) k => Calls.quiet_of (next_any w0 L A c b s (W.drewN k) f (h'.drewN k)))
  have HC := Lib.hid (fun (W : World) (h' : PS w0 L A c b s W) (m : Nat) (hm : m < 13) => (h'.tabs f).1.cellAt (op_table m hm))
  have HL := Lib.hid (fun (W : World) (h' : PS w0 L A c b s W) => (h'.tabs f).1.lt)
  have HO := Lib.hid ho
  clear ho f
  go_enter Tryz.func95, Tryz.ntmps95
  go_wp2
  go_loopg [8] (hi + 1 - lo) (fun g i wx => ∃ m : Nat, m + g = hi + 1 ∧ i = .int .u8 (7 + (m : Int)) ∧ opFrom g (7 + (m : Int)) (txt s) = o ∧ Hid (PS w0 L A c b s wx) ∧ ∃ n, wx = w.drewN n)
  case atStart => exact ⟨lo, by omega, rfl, by rw [← HO.out, opOf]; congr 1; omega, Lib.hid h, 0, rfl⟩
  case round =>
    clear h
    obtain ⟨m, hm, rfl, hd, HP, n, hn0⟩ := hrel
    have hn := Lib.hid hn0
    clear hn0
    have HD := Lib.hid hd
    clear hd
    cases gk with
    | zero =>
      obtain rfl : m = hi + 1 := by omega
      clear hm
      go_wp2
      go_ret2
      exact ⟨by rw [← HD.out]; rfl, n, hn.out⟩
    | succ g =>
      have hml : m < 13 := by omega
      have hcell := HC.out _ HP.out m hml
      have hlt := HL.out _ HP.out
      have HQ := Lib.hid (HN.out _ HP.out)
      by_cases he : txt s = opB (7 + (m : Int))
      · have HE := Lib.hid (show opFrom (g + 1) (7 + (m : Int)) (txt s) = some (7 + (m : Int)) by rw [opFrom, if_pos he])
        have hbq := beq_bytes he
        clear he
        go_wp2
        go_quiet ((go_at_call 109; with_reducible exact HQ.out _))
        go_wp2
        go_ret2
        exact ⟨by rw [← HD.out, HE.out]; rfl, _, by rw [hn.out]; exact World.drewN_drewN _ _ _⟩
      · have HE := Lib.hid (show opFrom (g + 1) (7 + (m : Int)) (txt s) = opFrom g (7 + ((m + 1 : Nat) : Int)) (txt s) by rw [opFrom, if_neg he, show (7 + (m : Int)) + 1 = 7 + ((m + 1 : Nat) : Int) by omega])
        have hbq := bne_bytes he
        clear he
        go_wp2
        go_quiet ((go_at_call 109; with_reducible exact HQ.out _))
        go_wp2
        go_roundg g
        case measure => omega
        case rel => exact ⟨m + 1, by omega, by go_num, by rw [← HE.out]; exact HD.out, Lib.hid (HP.out.drewN _), _, by rw [hn.out]; exact World.drewN_drewN _ _ _⟩
end Go.Proofs.YtlmamidodahgmaaGreatDoor

/- ELeaf: A node without parts. -/
namespace Go.Proofs.YtlmamidodahgmaaGreatDoor
open Go.ChangeShapes Go.WideShapes Go.ChangeAt Go.RowKit N4
set_option linter.unusedVariables false
set_option maxRecDepth 100000

def fldB (k : Nat) : List UInt8 := (fldT[k]?).getD []
def fldFrom : Nat → Nat → List UInt8 → Int
  | 0, _, _ => -1
  | f + 1, k, s => if s = fldB k then (k : Int) else fldFrom f (k + 1) s
theorem fld_table (m : Nat) (h : m < 3) : fldT[m]? = some (fldB m) := by
  have : ∀ m : Fin 3, fldT[m.val]? = some (fldB m.val) := by decide
  exact this ⟨m, h⟩
theorem fbeq {s t : List UInt8} (h : s = t) : ((bytesOf s).toList == (bytesOf t).toList) = true := by subst h; simp
theorem fbne {s t : List UInt8} (h : ¬ s = t) : ((bytesOf s).toList == (bytesOf t).toList) = false := by
  rw [bytesOf_toList, bytesOf_toList]; simpa using h
set_option maxHeartbeats 2000000 in
theorem index_any (s : List UInt8) (w : World) (h : Tab5 w) (o : Int) (ho : fldFrom 3 0 s = o) :
    Calls Tryz.prog 101 #[.slice (some ⟨1, 0, none⟩) 3 3, .string (bytesOf s)] w fun e w' => e = .returned (.int .i64 o) ∧ w = w' := by
  have HC := Lib.hid (fun (m : Nat) (hm : m < 3) => h.2.cellAt (fld_table m hm))
  have hlt := h.2.lt
  have HO := Lib.hid ho
  clear ho h
  go_enter Tryz.func101, Tryz.ntmps101
  go_wp2
  go_loopg [8] 3 (fun g i wx => ∃ m : Nat, m + g = 3 ∧ i = .int .i64 (m : Int) ∧ fldFrom g m s = o ∧ wx = w)
  case atStart => exact ⟨0, by omega, rfl, HO.out, rfl⟩
  case round =>
    obtain ⟨m, hm, rfl, hd, rfl⟩ := hrel
    have HD := Lib.hid hd
    clear hd
    cases gk with
    | zero =>
      obtain rfl : m = 3 := by omega
      clear hm
      go_wp2
      go_ret
      exact ⟨by rw [← HD.out]; rfl, rfl⟩
    | succ g =>
      have hml : m < 3 := by omega
      have hcell := HC.out m hml
      by_cases he : s = fldB m
      · have HE := Lib.hid (show fldFrom (g + 1) m s = (m : Int) by rw [fldFrom, if_pos he])
        have hbq := fbeq he
        clear he
        go_wp2
        go_ret
        exact ⟨by rw [← HD.out, HE.out]; rfl, rfl⟩
      · have HE := Lib.hid (show fldFrom (g + 1) m s = fldFrom g (m + 1) s by rw [fldFrom, if_neg he])
        have hbq := fbne he
        clear he
        go_wp2
        go_roundg g
        case measure => omega
        case rel => exact ⟨m + 1, by omega, by go_num, by rw [← HE.out]; exact HD.out, rfl⟩

def leafPost (o : Option (Int × Int)) (w : World) (e : Ending) (w' : World) : Prop :=
  e = .returned (.tuple #[.int .u8 (o.getD (0, 0)).1, .int .i64 (o.getD (0, 0)).2, .bool o.isSome]) ∧ w = w'
theorem leaf_word (s : List UInt8) (w : World) (x y : Int) (hy : y ≠ 0) (HR : Hid (Calls Tryz.prog 54 #[.string (bytesOf s)] w fun e w' => e = .returned (.tuple #[.int .i64 x, .int .i64 y]) ∧ w = w')) (h : Tab5 w) (he : rdErr s ≠ 0) (o : Option (Int × Int)) (ho : leafOf s = o) :
    Calls Tryz.prog 136 #[.string (bytesOf s)] w (leafPost o w) := by
  have HI := Lib.hid (index_any s w h)
  have hlt := h.2.lt
  clear h
  rw [leafOf, if_neg he] at ho
  clear he
  have key : ∀ v : Int, fldFrom 3 0 s = v → (v < 0 → o = none) ∧ (¬ v < 0 → v ≤ 2 ∧ o = some (2 + v, 0)) := by
    intro v hv
    simp only [fldFrom, show fldB 0 = [107] from rfl, show fldB (0 + 1) = [116] from rfl, show fldB (0 + 1 + 1) = [118] from rfl] at hv
    by_cases h1 : s = [107]
    · rw [if_pos h1] at hv ho; subst hv ho; exact ⟨fun h => by omega, fun _ => ⟨by omega, rfl⟩⟩
    · rw [if_neg h1] at hv ho
      by_cases h2 : s = [116]
      · rw [if_pos h2] at hv ho; subst hv ho; exact ⟨fun h => by omega, fun _ => ⟨by omega, rfl⟩⟩
      · rw [if_neg h2] at hv ho
        by_cases h3 : s = [118]
        · rw [if_pos h3] at hv ho; subst hv ho; exact ⟨fun h => by omega, fun _ => ⟨by omega, rfl⟩⟩
        · rw [if_neg h3] at hv ho; subst hv ho; exact ⟨fun _ => rfl, fun h => by omega⟩
  obtain ⟨v, hv⟩ : ∃ v, fldFrom 3 0 s = v := ⟨_, rfl⟩
  have HV := Lib.hid hv
  have hk := key v hv
  clear key hv ho
  by_cases h0 : v < 0
  · obtain rfl := hk.1 h0
    clear hk
    go_enter Tryz.func136, Tryz.ntmps136
    go_wp2_with (first | (go_at_call 54; refine HR.out.mono ?_; rintro e w' ⟨rfl, rfl⟩) | (go_at_call 101; refine (HI.out v HV.out).mono ?_; rintro e w' ⟨rfl, rfl⟩))
    go_ret3
    exact ⟨rfl, rfl⟩
  · obtain ⟨h2, rfl⟩ := hk.2 h0
    clear hk
    go_enter Tryz.func136, Tryz.ntmps136
    go_wp2_with (first | (go_at_call 54; refine HR.out.mono ?_; rintro e w' ⟨rfl, rfl⟩) | (go_at_call 101; refine (HI.out v HV.out).mono ?_; rintro e w' ⟨rfl, rfl⟩))
    go_ret3
    exact ⟨rfl, rfl⟩
theorem leaf_any (s : List UInt8) (w : World) (hs : s.length ≤ maxLen) (h : Tab5 w) (o : Option (Int × Int)) (ho : leafOf s = o) :
    Calls Tryz.prog 136 #[.string (bytesOf s)] w (leafPost o w) := by
  have hsz : (bytesOf s).size ≤ maxLen := by rw [bytesOf_size]; exact hs
  by_cases hd : (allDig s && !s.isEmpty) = true
  · have HR := Lib.hid (read_dig (bytesOf s) w hsz (by rw [bytesOf_list]; exact hd))
    rw [bytesOf_list] at HR
    by_cases hv : val s ≤ 9223372036854775807
    · have hN : rdN s = (val s : Nat) := by rw [rdN, if_pos hv]
      have hE : rdE s = 0 := by rw [rdE, if_pos hv]
      rw [hN, hE] at HR
      have HO : leafOf s = some (1, ((val s : Nat) : Int)) := by rw [leafOf, rdErr, if_pos hd, hE, if_pos rfl]
      rw [HO] at ho
      subst ho
      clear hN hE hd HO h
      generalize hvv : ((val s : Nat) : Int) = v at HR
      clear hvv hv
      go_enter Tryz.func136, Tryz.ntmps136
      go_wp2_with (go_at_call 54; refine HR.out.mono ?_; rintro e w' ⟨rfl, rfl⟩)
      go_ret3
      exact ⟨rfl, rfl⟩
    · have hE : rdE s = 16 := by rw [rdE, if_neg hv]
      rw [hE] at HR
      exact leaf_word s w _ 16 (by decide) HR h (by rw [rdErr, if_pos hd, hE]; decide) o ho
  · have HR := Lib.hid (read_form (bytesOf s) w hsz (by rw [bytesOf_list]; simpa using hd))
    exact leaf_word s w _ 12 (by decide) HR h (by rw [rdErr, if_neg hd]; decide) o ho
end Go.Proofs.YtlmamidodahgmaaGreatDoor
