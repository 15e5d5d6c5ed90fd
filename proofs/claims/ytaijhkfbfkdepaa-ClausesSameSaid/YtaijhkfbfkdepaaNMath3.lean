
/- The same expressions, in plain mathematics. -/
import Derived.Test.YtaijhkfbfkdepaaNSame
namespace Go.Proofs.Ytaijhkfbfkdepaa.N4
set_option linter.unusedVariables false

def setp (q : Int) (x : Nd) : Nd := { x with p := q }
theorem nextF_setp {E : List Ex} {x : Nd} {y : Ex} {q : Int} (h0 : 0 ≤ q) (h1 : q ≤ 400) (h : nextF E x = some y) : nextF E (setp q x) = some y := by
  obtain ⟨a, b, c⟩ := nextF_some h
  refine nextF_mk a ?_ c
  unfold fitsF at b ⊢
  simp only [Bool.and_eq_true, decide_eq_true_eq] at b ⊢
  exact ⟨⟨b.1.1, h0⟩, h1⟩
theorem extG_setp {q : Int} (h0 : 0 ≤ q) (h1 : q ≤ 400) : ∀ (L : List Nd) (E F : List Ex), extG E L = some F → extG E (L.map (setp q)) = some F := by
  intro L
  induction L with
  | nil => intro E F h; exact h
  | cons x r ih =>
    intro E F h
    rw [extG] at h
    cases hn : nextF E x with
    | none => rw [hn] at h; cases h
    | some y =>
      rw [hn] at h
      rw [List.map_cons, extG, nextF_setp h0 h1 hn]
      exact ih _ _ h
theorem good_setp {L : List Nd} {E : List Ex} {q : Int} (h0 : 0 ≤ q) (h1 : q ≤ 400) (h : Good4 L E) : Good4 (L.map (setp q)) E := by
  obtain ⟨a, b, c, e, d⟩ := h
  refine ⟨by intro h; exact a (List.map_eq_nil_iff.1 h), by rw [List.length_map]; exact b, extG_setp h0 h1 L [] E c, e, by rw [List.length_map]; exact d⟩
theorem unp_setp (q : Int) (x : Nd) : unp (setp q x) = unp x := rfl
theorem map_unp_setp (q : Int) (L : List Nd) : (L.map (setp q)).map unp = L.map unp := by
  rw [List.map_map]; rfl
theorem map_unp_eq (L : List Nd) : L.map unp = L.map (setp 0) := rfl
theorem same_setp (q : Int) (L : List Nd) : sameF L (L.map (setp q)) = true := by
  unfold sameF; rw [map_unp_setp]; simp
theorem same_comm (L M : List Nd) : sameF M L = sameF L M := by
  unfold sameF; rw [decide_eq_decide]; exact eq_comm
theorem same_facts {L M : List Nd} (h : sameF L M = true) (h1 : checkF L = 0) (h2 : checkF M = 0) : L.length = M.length ∧ depF L = depF M := by
  unfold sameF at h
  rw [decide_eq_true_eq] at h
  have hl : L.length = M.length := by have := congrArg List.length h; simpa using this
  obtain ⟨E, g⟩ := checkF_zero h1
  obtain ⟨F, k⟩ := checkF_zero h2
  have g2 := (good_setp (q := 0) (by decide) (by decide) g).2.2.1
  have k2 := (good_setp (q := 0) (by decide) (by decide) k).2.2.1
  rw [← map_unp_eq, h, map_unp_eq] at g2
  obtain rfl : E = F := Option.some.inj (g2.symm.trans k2)
  refine ⟨hl, ?_⟩
  obtain ⟨_, _, gE, e, he, _⟩ := g
  obtain ⟨_, _, kE, _⟩ := k
  rw [depF_of gE he, depF_of kE (by rw [← hl]; exact he)]
theorem eq_same {L M : List Nd} (h : sameF L M = false) : decide (L = M) = false := by
  rw [decide_eq_false_iff_not]; intro e; subst e; unfold sameF at h; simp at h

/-- A field of a node in a row of nodes. -/
theorem nd_set (M : List Nd) : ∀ (k j : Nat) (x x' : Nd) (v : Value), M[k]? = some x → j < 5 → (ndC x).set j v = ndC x' → (ndCells M).set (k * 5 + j) v = ndCells (M.set k x') := by
  induction M with
  | nil => intro k j x x' v h; simp at h
  | cons t r ih =>
    intro k j x x' v h hj hx
    have e : ∀ (t : Nd) (r : List Nd), ndCells (t :: r) = ndC t ++ ndCells r := fun _ _ => rfl
    have l5 : (ndC t).length = 5 := rfl
    cases k with
    | zero =>
      simp only [List.getElem?_cons_zero, Option.some.injEq] at h
      subst h
      rw [List.set_cons_zero, e, e, Nat.zero_mul, Nat.zero_add, List.set_append_left _ _ (by omega), hx]
    | succ k =>
      rw [List.getElem?_cons_succ] at h
      rw [List.set_cons_succ, e, e, List.set_append_right _ _ (by omega), show (k + 1) * 5 + j - (ndC t).length = k * 5 + j by omega, ih k j x x' v h hj hx]
def mk (L : List Nd) (q : Int) (k : Nat) : List Nd := (L.take k).map (setp q) ++ L.drop k
theorem mk_zero (L : List Nd) (q : Int) : mk L q 0 = L := by simp [mk]
theorem mk_all (L : List Nd) (q : Int) {k : Nat} (h : L.length ≤ k) : mk L q k = L.map (setp q) := by
  unfold mk; rw [List.take_of_length_le h, List.drop_of_length_le h, List.append_nil]
theorem mk_length (L : List Nd) (q : Int) (k : Nat) : (mk L q k).length = L.length := by
  simp [mk]; omega
theorem mk_at (L : List Nd) (q : Int) {k : Nat} {x : Nd} (h : L[k]? = some x) : (mk L q k)[k]? = some x ∧ (mk L q k).set k (setp q x) = mk L q (k + 1) := by
  obtain ⟨hl, e⟩ := List.getElem?_eq_some_iff.1 h
  have h1 : ((L.take k).map (setp q)).length = k := by rw [List.length_map, List.length_take]; omega
  unfold mk
  refine ⟨?_, ?_⟩
  · rw [List.getElem?_append_right (by omega), h1, Nat.sub_self, List.getElem?_drop, Nat.add_zero]; exact h
  · rw [List.set_append_right _ _ (by omega), h1, Nat.sub_self, List.drop_eq_getElem_cons hl, e, List.set_cons_zero, (extF_split h).2, List.map_append, List.append_assoc]
    rfl
end Go.Proofs.Ytaijhkfbfkdepaa.N4
