
/- What kinds tells, in plain mathematics: no program is imported but what nodes' mathematics import. -/
import Derived.Test.YtajchaknfkfljaaDoorNA
namespace Go.Proofs.YtajchaknfkfljaaDoor.K6
open N4
set_option linter.unusedVariables false

def gvK (k : Int) : Bool := decide (k = 6) || decide (12 ≤ k)
def kAt (L : List Nd) (i : Int) : Int := match L[i.toNat]? with | none => 0 | some x => x.k
def fitK (k : Int) (a b : Bool) : Bool :=
  if k ≤ 4 then true else if k = 5 then !a else if k = 6 then a else if k = 16 ∨ k = 17 then a == b else if 18 ≤ k then a && b else !a && !b
def fitN (L : List Nd) (x : Nd) : Bool := fitK x.k (gvK (kAt L x.a)) (gvK (kAt L x.b))
/-- The index of the first node that does not fit, or the length. -/
def wrongF (L : List Nd) : Nat := L.findIdx fun x => !fitN L x
def ofF (L : List Nd) : Bool × Int × Int :=
  if checkF L ≠ 0 then (false, 0, checkF L) else if wrongF L < L.length then (false, wrongF L, 42) else (gvK (kAt L (L.length - 1)), (L.length : Int) - 1, 0)

theorem kAt_nat {L : List Nd} {i : Nat} {x : Nd} (h : L[i]? = some x) : kAt L (i : Int) = x.k := by
  unfold kAt; rw [Int.toNat_natCast, h]
theorem kAt_int {L : List Nd} {i : Nat} {v : Int} {x : Nd} (hv : v = i) (h : L[i]? = some x) : kAt L v = x.k := by
  rw [hv]; exact kAt_nat h
theorem wrong_le (L : List Nd) : wrongF L ≤ L.length := List.findIdx_le_length
theorem fit_before {L : List Nd} {j : Nat} {x : Nd} (h : j < wrongF L) (hx : L[j]? = some x) : fitN L x = true := by
  have h1 := List.not_of_lt_findIdx (p := fun x => !fitN L x) h
  have h2 : L[j]'(Nat.lt_of_lt_of_le h (wrong_le L)) = x := by
    have := List.getElem?_eq_getElem (Nat.lt_of_lt_of_le h (wrong_le L))
    rw [hx] at this
    exact (Option.some.inj this).symm
  rw [h2] at h1
  simpa using h1
theorem not_fit {L : List Nd} (h : wrongF L < L.length) : ∃ x, L[wrongF L]? = some x ∧ fitN L x = false := by
  have h1 := List.findIdx_getElem (xs := L) (p := fun x => !fitN L x) (w := h)
  have h2 : (!fitN L (L[wrongF L]'h)) = true := h1
  exact ⟨_, List.getElem?_eq_getElem h, by rw [Bool.not_eq_true'] at h2; exact h2⟩
theorem wrong_at {L : List Nd} {k : Nat} {x : Nd} (hb : ∀ (j : Nat) (y : Nd), j < k → L[j]? = some y → fitN L y = true) (hx : L[k]? = some x) (h : fitN L x = false) : wrongF L = k := by
  rcases Nat.lt_trichotomy (wrongF L) k with h1 | h1 | h1
  · have hk := (List.getElem?_eq_some_iff.1 hx).1
    obtain ⟨y, hy, hf⟩ := not_fit (L := L) (by omega)
    rw [hb _ y h1 hy] at hf
    cases hf
  · exact h1
  · rw [fit_before h1 hx] at h
    cases h
theorem wrong_all {L : List Nd} (hb : ∀ (j : Nat) (y : Nd), j < L.length → L[j]? = some y → fitN L y = true) : wrongF L = L.length := by
  rcases Nat.lt_or_ge (wrongF L) L.length with h | h
  · obtain ⟨y, hy, hf⟩ := not_fit h
    rw [hb _ y h hy] at hf
    cases hf
  · exact Nat.le_antisymm (wrong_le L) h

theorem of_bad {L : List Nd} {v : Int} (h : checkF L = v) (h0 : v ≠ 0) : ofF L = (false, 0, v) := by
  unfold ofF; rw [h, if_pos h0]
theorem of_wrong {L : List Nd} {k : Nat} (h : checkF L = 0) (hw : wrongF L = k) (hk : k < L.length) : ofF L = (false, (k : Int), 42) := by
  unfold ofF; rw [h, if_neg (by decide), hw, if_pos hk]
theorem of_right {L : List Nd} (h : checkF L = 0) (hw : wrongF L = L.length) : ofF L = (gvK (kAt L (L.length - 1)), (L.length : Int) - 1, 0) := by
  unfold ofF; rw [h, if_neg (by decide), hw, if_neg (Nat.lt_irrefl _)]
theorem of_at {L : List Nd} {n : Nat} {x : Nd} (h : checkF L = 0) (hw : wrongF L = n + 1) (hn : L.length = n + 1) (hx : L[n]? = some x) : ofF L = (gvK x.k, (n : Int), 0) := by
  rw [of_right h (by rw [hw, hn]), hn]
  rw [kAt_int (i := n) (by omega) hx]
  congr 2
  omega
/-- Three ways. -/
theorem of_cases (L : List Nd) : (∃ v, checkF L = v ∧ v ≠ 0 ∧ ofF L = (false, 0, v)) ∨ (∃ k x, checkF L = 0 ∧ wrongF L = k ∧ k < L.length ∧ L[k]? = some x ∧ fitN L x = false ∧ ofF L = (false, (k : Int), 42)) ∨
    (∃ n x, checkF L = 0 ∧ wrongF L = n + 1 ∧ L.length = n + 1 ∧ L[n]? = some x ∧ ofF L = (gvK x.k, (n : Int), 0)) := by
  by_cases h : checkF L = 0
  · obtain ⟨E, hg⟩ := checkF_zero h
    rcases Nat.lt_or_ge (wrongF L) L.length with hw | hw
    · obtain ⟨x, hx, hf⟩ := not_fit hw
      exact .inr (.inl ⟨_, x, h, rfl, hw, hx, hf, of_wrong h rfl hw⟩)
    · have hp := List.length_pos_iff.2 hg.1
      have hl := wrong_le L
      obtain ⟨n, hn⟩ : ∃ n, L.length = n + 1 := ⟨L.length - 1, by omega⟩
      obtain ⟨x, hx⟩ : ∃ x, L[n]? = some x := ⟨_, List.getElem?_eq_getElem (by omega)⟩
      exact .inr (.inr ⟨n, x, h, by omega, hn, hx, of_at h (by omega) hn hx⟩)
  · exact .inl ⟨_, rfl, h, of_bad rfl h⟩

/-! ### bits -/
def giveB (k : Int) : Int := if k ≤ 0 then 0 else if gvK k then 2 else 1
def takeB (k : Int) : Int := if k ≤ 4 then 0 else if k = 6 ∨ 18 ≤ k then 2 else if k = 16 ∨ k = 17 then 3 else 1
theorem giveB_vals {k : Int} (h : 1 ≤ k) : (gvK k = true ∧ giveB k = 2) ∨ (gvK k = false ∧ giveB k = 1) := by
  unfold giveB
  rw [if_neg (by omega)]
  cases gvK k
  · exact .inr ⟨rfl, rfl⟩
  · exact .inl ⟨rfl, rfl⟩
theorem takeB_vals {k : Int} (h : 4 < k) (h2 : k ≤ 19) : (takeB k = 1 ∧ ∀ a b, fitK k a b = if k ≤ 6 then !a else (!a && !b)) ∨ (takeB k = 2 ∧ ∀ a b, fitK k a b = if k ≤ 6 then a else a && b) ∨ (takeB k = 3 ∧ 6 < k ∧ ∀ a b, fitK k a b = (a == b)) := by
  have h3 : k = 5 ∨ k = 6 ∨ k = 7 ∨ k = 8 ∨ k = 9 ∨ k = 10 ∨ k = 11 ∨ k = 12 ∨ k = 13 ∨ k = 14 ∨ k = 15 ∨ k = 16 ∨ k = 17 ∨ k = 18 ∨ k = 19 := by omega
  rcases h3 with rfl | rfl | rfl | rfl | rfl | rfl | rfl | rfl | rfl | rfl | rfl | rfl | rfl | rfl | rfl
  all_goals first
    | exact .inl ⟨rfl, fun _ _ => rfl⟩
    | exact .inr (.inl ⟨rfl, fun _ _ => rfl⟩)
    | exact .inr (.inr ⟨rfl, by decide, fun _ _ => rfl⟩)

/-! ### nodes of valid expressions -/
theorem node_parts {L : List Nd} {E : List Ex} (h : extF L = some E) {i : Nat} {x : Nd} (hx : L[i]? = some x) : 1 ≤ x.k ∧ x.k ≤ 19 ∧
    (x.k ≤ 4 ∨ (4 < x.k ∧ x.k ≤ 6 ∧ ∃ (i1 : Nat) (y : Nd), x.a = i1 ∧ x.b = 0 ∧ i1 < i ∧ L[i1]? = some y) ∨ (6 < x.k ∧ ∃ (i1 i2 : Nat) (y z : Nd), x.a = i1 ∧ x.b = i2 ∧ i1 < i ∧ i2 < i ∧ L[i1]? = some y ∧ L[i2]? = some z)) := by
  have hl := (List.getElem?_eq_some_iff.1 hx).1
  obtain ⟨h1, _, h2⟩ := node_facts h hx
  have h1' : 1 ≤ x.k ∧ x.k ≤ 19 := by unfold okK at h1; rw [Bool.and_eq_true, decide_eq_true_eq, decide_eq_true_eq] at h1; exact h1
  refine ⟨h1'.1, h1'.2, ?_⟩
  rcases h2 with ⟨hk, _⟩ | ⟨hk, hk2, i1, s1, hi, h1, h2, _⟩ | ⟨hk, i1, s1, s2, hi, h1, h2, _, _, _, _, hp, _⟩
  · exact .inl hk
  · exact .inr (.inl ⟨hk, hk2, i1, _, h1, h2, by omega, List.getElem?_eq_getElem (by omega)⟩)
  · exact .inr (.inr ⟨hk, i1, i1 + s2, _, _, h1, by omega, by omega, by omega, List.getElem?_eq_getElem (by omega), List.getElem?_eq_getElem (by omega)⟩)
theorem node_ab {L : List Nd} {E : List Ex} (h : extF L = some E) {i : Nat} {x : Nd} (hx : L[i]? = some x) : ∃ (i1 i2 : Nat) (y z : Nd), x.a = i1 ∧ x.b = i2 ∧ L[i1]? = some y ∧ L[i2]? = some z := by
  have hl := (List.getElem?_eq_some_iff.1 hx).1
  rcases (node_facts h hx).2.2 with ⟨hk, _, h1, h2⟩ | ⟨hk, hk2, i1, s1, hi, h1, h2, _⟩ | ⟨hk, i1, s1, s2, hi, h1, h2, _, _, _, _, hp, _⟩
  · exact ⟨0, 0, _, _, h1, h2, List.getElem?_eq_getElem (by omega), List.getElem?_eq_getElem (by omega)⟩
  · exact ⟨i1, 0, _, _, h1, h2, List.getElem?_eq_getElem (by omega), List.getElem?_eq_getElem (by omega)⟩
  · exact ⟨i1, i1 + s2, _, _, h1, by omega, List.getElem?_eq_getElem (by omega), List.getElem?_eq_getElem (by omega)⟩
theorem fit_leaf {L : List Nd} {x : Nd} (h : x.k ≤ 4) : fitN L x = true := by unfold fitN fitK; rw [if_pos h]
theorem fitK_one {k : Int} (h : 4 < k) (h2 : k ≤ 6) (a b c : Bool) : fitK k a b = fitK k a c := by
  have h3 : k = 5 ∨ k = 6 := by omega
  rcases h3 with rfl | rfl <;> rfl
theorem fit_one {L : List Nd} {x y : Nd} {i1 : Nat} (h : 4 < x.k) (h2 : x.k ≤ 6) (ha : x.a = i1) (hy : L[i1]? = some y) (b : Bool) : fitN L x = fitK x.k (gvK y.k) b := by
  unfold fitN; rw [kAt_int ha hy]; exact fitK_one h h2 _ _ _
theorem fit_two {L : List Nd} {x y z : Nd} {i1 i2 : Nat} (ha : x.a = i1) (hb : x.b = i2) (hy : L[i1]? = some y) (hz : L[i2]? = some z) : fitN L x = fitK x.k (gvK y.k) (gvK z.k) := by
  unfold fitN; rw [kAt_int ha hy, kAt_int hb hz]
end Go.Proofs.YtajchaknfkfljaaDoor.K6
