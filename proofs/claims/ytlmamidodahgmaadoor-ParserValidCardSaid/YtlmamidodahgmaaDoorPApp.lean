/- Nodes appended; steps of a region that draws. -/
import Derived.Test.YtlmamidodahgmaaDoorNB
import Derived.Laws.AppendOwnNone
import Derived.Deep.AppendLies
import Derived.Deep.RegionHeld3
namespace Go.Proofs.YtlmamidodahgmaaDoor.P9
open Go.ChangeShapes Go.WideShapes Go.ChangeAt Go.RowKit N4
set_option linter.unusedVariables false
set_option maxRecDepth 100000

section
variable {P : Program} {ops : Array Oper} {Q : Exit → Act → World → Prop} {md : Region.Mode} {S : World → Prop}
/-- An operation whose guard says no. -/
theorem take_no {i d : Nat} {oi : Oper} {fuel : Nat} {listed : Array Bool} {a : Act} {w : World} (hi : ops[i]? = some oi) (hd : oi.dst = some d)
    (hs : Region.noSelect ops = true) (hf : Region.free md ops listed i = true) (hr : (Region.ready md ops listed).contains i = true)
    (hQ : ∀ c a w, Q (.panic c) (a.put (some d) undef) w → Q (.panic c) a w) (hw : Region.wanted oi (yielded ops a.tmps) = false) (hS : S w)
    (h : wpAnyH P md ops Q S fuel (listed.setIfInBounds i true) (a.put (some d) undef) w) : wpAnyH P md ops Q S (fuel + 1) listed a w :=
  wpAnyH_take hi hs hf hr (by rw [hd]; exact hQ) (Or.inr ⟨hw, rfl⟩) hS (by rw [hd]; exact h)
/-- One that yields in every world that meets S. -/
theorem take_yes {i d : Nat} {oi : Oper} {v : Value} {fuel : Nat} {listed : Array Bool} {a : Act} {w : World} (hi : ops[i]? = some oi) (hd : oi.dst = some d)
    (hs : Region.noSelect ops = true) (hf : Region.free md ops listed i = true) (hr : (Region.ready md ops listed).contains i = true)
    (hQ : ∀ c a w, Q (.panic c) (a.put (some d) v) w → Q (.panic c) a w) (hw : Region.wanted oi (yielded ops a.tmps) = true) (hv : ∀ w, S w → (execOp a.eval oi).run P w = .ok (.value v) w) (hS : S w)
    (h : wpAnyH P md ops Q S fuel (listed.setIfInBounds i true) (a.put (some d) v) w) : wpAnyH P md ops Q S (fuel + 1) listed a w :=
  wpAnyH_take hi hs hf hr (by rw [hd]; exact hQ) (Or.inl ⟨hw, hv⟩) hS (by rw [hd]; exact h)
end
theorem ndc_one (L : List Nd) : ∀ u ∈ ndCells L, u.oneCell' = true := by
  intro u hu
  rw [ndCells, List.mem_flatMap] at hu
  obtain ⟨x, _, hx⟩ := hu
  simp only [ndC, List.mem_cons, List.not_mem_nil, or_false] at hx
  rcases hx with rfl | rfl | rfl | rfl | rfl <;> rfl
theorem ndc_app (L M : List Nd) : ndCells (L ++ M) = ndCells L ++ ndCells M := by simp [ndCells]
/-- A slice of tokens, nil or not. -/
def SrcN (w : World) (A : Option Addr) (m c : Nat) (M : List Nd) : Prop := Lies w A (ndCells M) ∧ M.length = m ∧ ((A = none ∧ c = 0 ∧ m = 0) ∨ ∃ ad, A = some ad)
theorem run_app_nd (w : World) (ty : TypeId) (base : Nat) (v : Value) (n : Nat) (L : List Nd) (hown : w.ownsRow base 43 5 v n (ndCells L)) (A : Option Addr) (m c : Nat) (M : List Nd) (hs : SrcN w A m c M) (hsum : n + m ≤ 100000) (hbase : base ≤ w.heap.size) :
    ∃ v' w', (Builtin.append_ #[23, 23] ty #[v, .slice A m c]).run Tryd.prog w = .ok v' w' ∧ w'.ownsRow base 43 5 v' (n + m) (ndCells (L ++ M)) ∧ w.grownBy w' v.ownBlock ∧ (v'.ownBlock = v.ownBlock ∨ v'.ownBlock = some w.heap.size) := by
  obtain ⟨ht, hm, hA⟩ := hs
  obtain ⟨i0, hi0, hz0, hz1, hz2⟩ := info_parts nd_info
  rcases hA with ⟨rfl, rfl, rfl⟩ | ⟨ad, rfl⟩
  · have hM : M = [] := List.eq_nil_of_length_eq_zero hm
    subst hM
    refine ⟨v, w, run_append_owned_none w base _ ty _ i0 5 Tryd.underlying23 hi0 v n _ hown, by simpa using hown, ⟨rfl, rfl, rfl, Nat.le_refl _, fun k _ _ => rfl⟩, .inl rfl⟩
  · have hnews : ∀ j u, (ndCells M)[j]? = some u → w.cell? (ad.add j) = some u := by
      rcases ht with h0 | ⟨ad', h1, _, h3⟩
      · rw [h0]; intro j u hu; simp at hu
      · injection h1 with h1; subst h1; exact h3
    obtain ⟨v', w', h1, h2, h3, _, h5⟩ := run_append_own_at (P := Tryd.prog) w base 23 ty 43 i0 _ 5 40 Tryd.underlying23 hi0 hz0 hz1 hz2 rfl (by decide) v n (ndCells L) hown ad m c (ndCells M) (by rw [ndCells_length, hm]) hnews (ndc_one M) (by unfold maxLen; omega) (by omega) hbase
    exact ⟨v', w', h1, by rw [ndc_app]; exact h2, h3, h5⟩
/-- At an operation. -/
theorem wp_app_nd {o : Oper} {a : Act} {w : World} {K : Act → World → Prop} {Q : Exit → Act → World → Prop} (s x : Operand)
    (ho : o.op = .call { callee := .builtin .append, args := #[s, x], argTypes := #[23, 23] })
    (base : Nat) (v : Value) (n : Nat) (L : List Nd) (he : a.eval s = v) (hown : w.ownsRow base 43 5 v n (ndCells L)) (A : Option Addr) (m c : Nat) (M : List Nd) (hx : a.eval x = .slice A m c) (hs : SrcN w A m c M) (hsum : n + m ≤ 100000) (hbase : base ≤ w.heap.size)
    (h : ∀ v' w', w'.ownsRow base 43 5 v' (n + m) (ndCells (L ++ M)) → w.grownBy w' v.ownBlock → (v'.ownBlock = v.ownBlock ∨ v'.ownBlock = some w.heap.size) → K (a.put o.dst v') w') : o.wp Tryd.prog a w K Q := by
  obtain ⟨v', w', hr, h2, h3, h4⟩ := run_app_nd w o.type base v n L hown A m c M hs hsum hbase
  unfold Oper.wp execOp
  simp only [ho, resolve, invoke, builtin, Sem.run_bind, Sem.run_pure, Result.andThen_ok, List.map_toArray, List.map_cons, List.map_nil, he, hx, hr]
  exact h v' w' h2 h3 h4
/-- At a plain region's list. -/
theorem wpList_app_nd {ops : Array Oper} {rest : List Oper} {o : Oper} {a : Act} {w : World} {Q : Exit → Act → World → Prop} (hgd : o.guard = none) (s x : Operand)
    (ho : o.op = .call { callee := .builtin .append, args := #[s, x], argTypes := #[23, 23] })
    (base : Nat) (v : Value) (n : Nat) (L : List Nd) (he : a.eval s = v) (hown : w.ownsRow base 43 5 v n (ndCells L)) (A : Option Addr) (m c : Nat) (M : List Nd) (hx : a.eval x = .slice A m c) (hs : SrcN w A m c M) (hsum : n + m ≤ 100000) (hbase : base ≤ w.heap.size)
    (h : ∀ v' w', w'.ownsRow base 43 5 v' (n + m) (ndCells (L ++ M)) → w.grownBy w' v.ownBlock → (v'.ownBlock = v.ownBlock ∨ v'.ownBlock = some w.heap.size) → wpList Tryd.prog ops Q rest (a.put o.dst v') w') : wpList Tryd.prog ops Q (o :: rest) a w :=
  wpList_plain hgd fun K hK => wp_app_nd s x ho base v n L he hown A m c M hx hs hsum hbase fun v' w' h1 h2 h3 => hK _ _ (h v' w' h1 h2 h3)
/-- At a step of a region that draws its order, guarded or not. -/
theorem step_app_nd {ops : Array Oper} {o : Oper} {a : Act} {w : World} {K : Act → World → Prop} {Q : Exit → Act → World → Prop} {E : Prop} (hw : Region.wanted o (yielded ops a.tmps) = true) (s x : Operand)
    (ho : o.op = .call { callee := .builtin .append, args := #[s, x], argTypes := #[23, 23] })
    (base : Nat) (v : Value) (n : Nat) (L : List Nd) (he : a.eval s = v) (hown : w.ownsRow base 43 5 v n (ndCells L)) (A : Option Addr) (m c : Nat) (M : List Nd) (hx : a.eval x = .slice A m c) (hs : SrcN w A m c M) (hsum : n + m ≤ 100000) (hbase : base ≤ w.heap.size)
    (h : ∀ v' w', w'.ownsRow base 43 5 v' (n + m) (ndCells (L ++ M)) → w.grownBy w' v.ownBlock → (v'.ownBlock = v.ownBlock ∨ v'.ownBlock = some w.heap.size) → K (a.put o.dst v') w') :
    if Region.wanted o (yielded ops a.tmps) = true then Oper.wp Tryd.prog o a w K Q else E := by
  rw [if_pos hw]
  exact wp_app_nd s x ho base v n L he hown A m c M hx hs hsum hbase h
end Go.Proofs.YtlmamidodahgmaaDoor.P9
