
/- Expressions as trees, and how tokens are parsed, in plain mathematics. -/
import Derived.Test.YtfnkofcgjbakeaaDoorNA
import Derived.Test.YtfnkofcgjbakeaaDoorLA
namespace Go.Proofs.YtfnkofcgjbakeaaDoor
open Go.RowKit N4
set_option linter.unusedVariables false
set_option maxRecDepth 100000

inductive Tr where
  | leaf (k n p : Int) : Tr
  | un (k p : Int) (a : Tr) : Tr
  | bin (k p : Int) (a b : Tr) : Tr
deriving DecidableEq

namespace Tr
def flat : Tr → List Nd
  | leaf k n p => made0 k n p
  | un k p a => made1 k 0 p a.flat
  | bin k p a b => made2 k 0 p a.flat b.flat
def sz : Tr → Nat
  | leaf _ _ _ => 1
  | un _ _ a => a.sz + 1
  | bin _ _ a b => a.sz + b.sz + 1
def dp : Tr → Nat
  | leaf _ _ _ => 1
  | un _ _ a => a.dp + 1
  | bin _ _ a b => max a.dp b.dp + 1
def ok : Tr → Bool
  | leaf k n p => decide (1 ≤ k) && decide (k ≤ 4) && fitsF k n p
  | un k p a => decide (5 ≤ k) && decide (k ≤ 6) && fitsF k 0 p && a.ok
  | bin k p a b => decide (7 ≤ k) && decide (k ≤ 19) && fitsF k 0 p && a.ok && b.ok
def er (t : Tr) : Int := if 60 < t.sz then 4 else if 20 < t.dp then 34 else 0
theorem sz_pos (t : Tr) : 1 ≤ t.sz := by cases t <;> simp [sz]
theorem dp_pos (t : Tr) : 1 ≤ t.dp := by cases t <;> simp [dp]
theorem dp_le (t : Tr) : t.dp ≤ t.sz := by
  induction t with
  | leaf => simp [dp, sz]
  | un k p a ih => simp only [dp, sz]; omega
  | bin k p a b iha ihb => simp only [dp, sz]; have := a.sz_pos; have := b.sz_pos; omega
theorem flat_length (t : Tr) : t.flat.length = t.sz := by
  induction t with
  | leaf => simp [flat, made0, sz]
  | un k p a ih => simp [flat, made1, sz, ih]
  | bin k p a b iha ihb => simp [flat, made2, sz, iha, ihb]; omega
theorem flat_ne (t : Tr) : t.flat ≠ [] := by
  intro h
  have := t.flat_length
  rw [h] at this
  have := t.sz_pos
  simp at *
  omega
theorem fits_okK {k : Int} (h1 : 1 ≤ k) (h2 : k ≤ 19) : okK k = true := by simp [okK, h1, h2]

theorem flat_ext (t : Tr) (h : t.ok = true) : ∃ E, extF t.flat = some E ∧ E.length = t.sz ∧ E[t.sz - 1]? = some ⟨t.sz, t.dp⟩ := by
  induction t with
  | leaf k n p =>
    simp only [ok, Bool.and_eq_true, decide_eq_true_eq] at h
    have hn : nextF [] ⟨k, n, 0, 0, p⟩ = some ⟨1, 1⟩ := nextF_mk (fits_okK (k := k) h.1.1 (by omega)) h.2 (need_leaf h.1.2)
    exact ⟨[⟨1, 1⟩], by simp [flat, made0, extF, extG, hn], rfl, rfl⟩
  | un k p a ih =>
    simp only [ok, Bool.and_eq_true, decide_eq_true_eq] at h
    obtain ⟨E, h1, h2, h3⟩ := ih h.2
    have hne : need E k = some (⟨1 + a.sz, a.dp + 1⟩, (E.length : Int) - 1, 0) := need_one (e := ⟨a.sz, a.dp⟩) (by omega) (by omega) (by rw [h2]; exact h3)
    have hn : nextF E ⟨k, 0, (a.flat.length : Int) - 1, 0, p⟩ = some ⟨1 + a.sz, a.dp + 1⟩ := by
      refine nextF_mk (fits_okK (k := k) (by omega) (by omega)) h.1.2 ?_
      rw [hne, h2, a.flat_length]
    refine ⟨E ++ [⟨1 + a.sz, a.dp + 1⟩], ?_, by simp [sz, h2], ?_⟩
    · show extF (made1 k 0 p a.flat) = _
      unfold made1
      rw [map_shift_zero, extF_snoc h1, hn]
      rfl
    · simp only [sz, dp]
      rw [List.getElem?_append_right (by omega), h2]
      simp [Nat.add_comm]
  | bin k p a b iha ihb =>
    simp only [ok, Bool.and_eq_true, decide_eq_true_eq] at h
    obtain ⟨E, h1, h2, h3⟩ := iha h.1.2
    obtain ⟨F, g1, g2, g3⟩ := ihb h.2
    have pa := a.sz_pos
    have pb := b.sz_pos
    have hj := extF_join h1 g1
    have hne : need (E ++ F) k = some (⟨1 + b.sz + a.sz, max (b.dp + 1) (a.dp + 1)⟩, ((E ++ F).length : Int) - 1 - b.sz, ((E ++ F).length : Int) - 1) := by
      refine need_two (e := ⟨b.sz, b.dp⟩) (f := ⟨a.sz, a.dp⟩) (by omega) ?_ ?_ ?_
      · rw [List.length_append, List.getElem?_append_right (by omega), show E.length + F.length - 1 - E.length = b.sz - 1 by omega]; exact g3
      · rw [List.length_append]; show b.sz ≤ _; omega
      · rw [List.length_append, List.getElem?_append_left (by show E.length + F.length - 1 - b.sz < _; omega)]
        show E[E.length + F.length - 1 - b.sz]? = _
        rw [show E.length + F.length - 1 - b.sz = a.sz - 1 by omega]; exact h3
    have hn : nextF (E ++ F) ⟨k, 0, (a.flat.length : Int) - 1, (a.flat.length : Int) + b.flat.length - 1, p⟩ = some ⟨1 + b.sz + a.sz, max (b.dp + 1) (a.dp + 1)⟩ := by
      refine nextF_mk (fits_okK (k := k) (by omega) (by omega)) h.1.1.2 ?_
      rw [hne]
      simp only [List.length_append, a.flat_length, b.flat_length, h2, g2]
      congr 3 <;> omega
    refine ⟨(E ++ F) ++ [⟨1 + b.sz + a.sz, max (b.dp + 1) (a.dp + 1)⟩], ?_, by simp [sz, h2, g2]; omega, ?_⟩
    · show extF (made2 k 0 p a.flat b.flat) = _
      unfold made2
      rw [map_shift_zero, extF_snoc hj, hn]
      rfl
    · simp only [sz, dp]
      rw [List.getElem?_append_right (by simp; omega)]
      simp only [List.length_append, h2, g2]
      rw [show a.sz + b.sz + 1 - 1 - (a.sz + b.sz) = 0 by omega]
      show some _ = some _
      congr 2 <;> omega
theorem check_flat (t : Tr) (h : t.ok = true) : checkF t.flat = t.er := by
  obtain ⟨E, h1, h2, h3⟩ := t.flat_ext h
  unfold checkF er
  rw [h1, t.flat_length]
  split
  · rfl
  · show N4.checkE t.sz E = _
    unfold N4.checkE
    rw [h3]
    show (if t.sz < t.sz then (8 : Int) else _) = _
    rw [if_neg (by omega)]
theorem er_zero {t : Tr} : t.er = 0 ↔ t.sz ≤ 60 ∧ t.dp ≤ 20 := by
  unfold er
  by_cases h1 : 60 < t.sz
  · rw [if_pos h1]; exact ⟨fun h => by omega, fun h => by omega⟩
  · rw [if_neg h1]
    by_cases h2 : 20 < t.dp
    · rw [if_pos h2]; exact ⟨fun h => by omega, fun h => by omega⟩
    · rw [if_neg h2]; exact ⟨fun _ => by omega, fun _ => rfl⟩
theorem er_un {k p : Int} {a : Tr} (h : (un k p a).er = 0) : a.er = 0 := by
  rw [er_zero] at *
  simp only [sz, dp] at h
  omega
theorem er_bin {k p : Int} {a b : Tr} (h : (bin k p a b).er = 0) : a.er = 0 ∧ b.er = 0 := by
  rw [er_zero] at *
  rw [er_zero]
  simp only [sz, dp] at h
  omega

theorem of_cut (m : Nat) : ∀ {L : List Nd} {E : List Ex}, Good4 L E → L.length ≤ m → ∃ t : Tr, t.ok = true ∧ t.flat = L := by
  induction m with
  | zero => intro L E h hl; exact absurd (List.length_eq_zero_iff.1 (by omega)) h.1
  | succ m ih =>
    intro L E h hl
    have hE := h.ext
    have hp := List.length_pos_iff.2 h.1
    obtain ⟨x, hx⟩ : ∃ x, L[L.length - 1]? = some x := ⟨_, List.getElem?_eq_getElem (by omega)⟩
    have hw := cut_whole h
    have hc := cut_made hE hx
    have hf := node_facts hE hx
    have hk : 1 ≤ x.k ∧ x.k ≤ 19 := by simpa [okK] using hf.1
    have part : ∀ i, i < L.length - 1 → sizF L i ≤ m → ∃ t : Tr, t.ok = true ∧ t.flat = cutF L i := by
      intro i hi hs
      obtain ⟨y, hy⟩ : ∃ y, E[i]? = some y := ⟨_, List.getElem?_eq_getElem (by rw [extF_length hE]; omega)⟩
      have hg := (cut_good h hy).1
      refine ih hg ?_
      rw [cutF_length hE hy, ← sizF_of hE hy]; exact hs
    rcases hf.2.2 with ⟨h4, _, _, _⟩ | ⟨h4, h6, i1, s1, hi, ha, hb, hs, _, hle, hz⟩ | ⟨h6, i1, s1, s2, hi, ha, hb, hs1, hs2, _, _, _, hz⟩
    · refine ⟨.leaf x.k x.n x.p, ?_, ?_⟩
      · simp [ok, hk.1, h4, hf.2.1]
      · rw [← hw.1]; exact (hc.1 h4).symm
    · have hn0 : x.n = 0 := by
        have := hf.2.1
        simp only [fitsF, Bool.and_eq_true, Bool.or_eq_true, decide_eq_true_eq] at this
        omega
      obtain ⟨t, t1, t2⟩ := part i1 (by omega) (by omega)
      refine ⟨.un x.k x.p t, ?_, ?_⟩
      · have := hf.2.1
        rw [hn0] at this
        simp [ok, this, t1]; omega
      · show made1 x.k 0 x.p t.flat = L
        rw [t2, ← hn0, ← hc.2.1 i1 h4 h6 ha, hw.1]
    · have hn0 : x.n = 0 := by
        have := hf.2.1
        simp only [fitsF, Bool.and_eq_true, Bool.or_eq_true, decide_eq_true_eq] at this
        omega
      obtain ⟨t, t1, t2⟩ := part i1 (by omega) (by omega)
      obtain ⟨u, u1, u2⟩ := part (i1 + s2) (by omega) (by omega)
      refine ⟨.bin x.k x.p t u, ?_, ?_⟩
      · have := hf.2.1
        rw [hn0] at this
        simp [ok, this, t1, u1]; omega
      · show made2 x.k 0 x.p t.flat u.flat = L
        rw [t2, u2, ← hn0, ← hc.2.2 i1 (i1 + s2) h6 ha (by omega), hw.1]
theorem of_check {L : List Nd} (h : checkF L = 0) : ∃ t : Tr, t.ok = true ∧ t.er = 0 ∧ t.flat = L := by
  obtain ⟨E, hE⟩ := checkF_zero h
  obtain ⟨t, t1, t2⟩ := of_cut _ hE (Nat.le_refl _)
  exact ⟨t, t1, by rw [← check_flat t t1, t2]; exact h, t2⟩
end Tr
end Go.Proofs.YtfnkofcgjbakeaaDoor
