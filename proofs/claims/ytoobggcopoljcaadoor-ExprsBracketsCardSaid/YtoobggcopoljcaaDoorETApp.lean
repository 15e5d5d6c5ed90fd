/- Tokens appended. -/
import Derived.Test.YtoobggcopoljcaaDoorEAlive
import Derived.Laws.AppendOwnNone
import Derived.Deep.AppendLies
namespace Go.Proofs.YtoobggcopoljcaaDoor
open Go.ChangeShapes Go.WideShapes Go.ChangeAt Go.RowKit N4
set_option linter.unusedVariables false
set_option maxRecDepth 100000

theorem tok_one (L : List Tok) : ∀ u ∈ tokCells L, u.oneCell' = true := by
  intro u hu
  rw [tokCells, List.mem_flatMap] at hu
  obtain ⟨x, _, hx⟩ := hu
  simp only [tokC, List.mem_cons, List.not_mem_nil, or_false] at hx
  rcases hx with rfl | rfl | rfl <;> rfl
theorem tok_app (L M : List Tok) : tokCells (L ++ M) = tokCells L ++ tokCells M := by simp [tokCells]
/-- A slice of tokens, nil or not. -/
def Src (w : World) (A : Option Addr) (m c : Nat) (M : List Tok) : Prop := Toks w A M ∧ M.length = m ∧ ((A = none ∧ c = 0 ∧ m = 0) ∨ ∃ ad, A = some ad)
theorem run_app_tok (w : World) (ty : TypeId) (base : Nat) (v : Value) (n : Nat) (L : List Tok) (hown : w.ownsRow base 33 3 v n (tokCells L)) (A : Option Addr) (m c : Nat) (M : List Tok) (hs : Src w A m c M) (hsum : n + m ≤ 100000) (hbase : base ≤ w.heap.size) :
    ∃ v' w', (Builtin.append_ #[25, 25] ty #[v, .slice A m c]).run Tryd.prog w = .ok v' w' ∧ w'.ownsRow base 33 3 v' (n + m) (tokCells (L ++ M)) ∧ w.grownBy w' v.ownBlock ∧ (v'.ownBlock = v.ownBlock ∨ v'.ownBlock = some w.heap.size) := by
  obtain ⟨ht, hm, hA⟩ := hs
  obtain ⟨i0, hi0, hz0, hz1, hz2⟩ := info_parts tok_info
  rcases hA with ⟨rfl, rfl, rfl⟩ | ⟨ad, rfl⟩
  · have hM : M = [] := List.eq_nil_of_length_eq_zero hm
    subst hM
    refine ⟨v, w, run_append_owned_none w base _ ty _ i0 3 Tryd.underlying25 hi0 v n _ hown, by simpa using hown, ⟨rfl, rfl, rfl, Nat.le_refl _, fun k _ _ => rfl⟩, .inl rfl⟩
  · have hnews : ∀ j u, (tokCells M)[j]? = some u → w.cell? (ad.add j) = some u := by
      rcases ht with h0 | ⟨ad', h1, _, h3⟩
      · subst h0; intro j u hu; simp [tokCells] at hu
      · injection h1 with h1; subst h1; exact h3
    obtain ⟨v', w', h1, h2, h3, _, h5⟩ := run_append_own_at (P := Tryd.prog) w base 25 ty 33 i0 _ 3 32 Tryd.underlying25 hi0 hz0 hz1 hz2 rfl (by decide) v n (tokCells L) hown ad m c (tokCells M) (by rw [tokCells_length, hm]) hnews (tok_one M) (by unfold maxLen; omega) (by omega) hbase
    exact ⟨v', w', h1, by rw [tok_app]; exact h2, h3, h5⟩
/-- At an operation. -/
theorem wp_app_tok {o : Oper} {a : Act} {w : World} {K : Act → World → Prop} {Q : Exit → Act → World → Prop} (s x : Operand)
    (ho : o.op = .call { callee := .builtin .append, args := #[s, x], argTypes := #[25, 25] })
    (base : Nat) (v : Value) (n : Nat) (L : List Tok) (he : a.eval s = v) (hown : w.ownsRow base 33 3 v n (tokCells L)) (A : Option Addr) (m c : Nat) (M : List Tok) (hx : a.eval x = .slice A m c) (hs : Src w A m c M) (hsum : n + m ≤ 100000) (hbase : base ≤ w.heap.size)
    (h : ∀ v' w', w'.ownsRow base 33 3 v' (n + m) (tokCells (L ++ M)) → w.grownBy w' v.ownBlock → (v'.ownBlock = v.ownBlock ∨ v'.ownBlock = some w.heap.size) → K (a.put o.dst v') w') : o.wp Tryd.prog a w K Q := by
  obtain ⟨v', w', hr, h2, h3, h4⟩ := run_app_tok w o.type base v n L hown A m c M hs hsum hbase
  unfold Oper.wp execOp
  simp only [ho, resolve, invoke, builtin, Sem.run_bind, Sem.run_pure, Result.andThen_ok, List.map_toArray, List.map_cons, List.map_nil, he, hx, hr]
  exact h v' w' h2 h3 h4
/-- At a plain region's list. -/
theorem wpList_app_tok {ops : Array Oper} {rest : List Oper} {o : Oper} {a : Act} {w : World} {Q : Exit → Act → World → Prop} (hgd : o.guard = none) (s x : Operand)
    (ho : o.op = .call { callee := .builtin .append, args := #[s, x], argTypes := #[25, 25] })
    (base : Nat) (v : Value) (n : Nat) (L : List Tok) (he : a.eval s = v) (hown : w.ownsRow base 33 3 v n (tokCells L)) (A : Option Addr) (m c : Nat) (M : List Tok) (hx : a.eval x = .slice A m c) (hs : Src w A m c M) (hsum : n + m ≤ 100000) (hbase : base ≤ w.heap.size)
    (h : ∀ v' w', w'.ownsRow base 33 3 v' (n + m) (tokCells (L ++ M)) → w.grownBy w' v.ownBlock → (v'.ownBlock = v.ownBlock ∨ v'.ownBlock = some w.heap.size) → wpList Tryd.prog ops Q rest (a.put o.dst v') w') : wpList Tryd.prog ops Q (o :: rest) a w :=
  wpList_plain hgd fun K hK => wp_app_tok s x ho base v n L he hown A m c M hx hs hsum hbase fun v' w' h1 h2 h3 => hK _ _ (h v' w' h1 h2 h3)
/-- At a step of a region that draws its order, guarded or not. -/
theorem step_app_tok {ops : Array Oper} {o : Oper} {a : Act} {w : World} {K : Act → World → Prop} {Q : Exit → Act → World → Prop} {E : Prop} (hw : Region.wanted o (yielded ops a.tmps) = true) (s x : Operand)
    (ho : o.op = .call { callee := .builtin .append, args := #[s, x], argTypes := #[25, 25] })
    (base : Nat) (v : Value) (n : Nat) (L : List Tok) (he : a.eval s = v) (hown : w.ownsRow base 33 3 v n (tokCells L)) (A : Option Addr) (m c : Nat) (M : List Tok) (hx : a.eval x = .slice A m c) (hs : Src w A m c M) (hsum : n + m ≤ 100000) (hbase : base ≤ w.heap.size)
    (h : ∀ v' w', w'.ownsRow base 33 3 v' (n + m) (tokCells (L ++ M)) → w.grownBy w' v.ownBlock → (v'.ownBlock = v.ownBlock ∨ v'.ownBlock = some w.heap.size) → K (a.put o.dst v') w') :
    if Region.wanted o (yielded ops a.tmps) = true then Oper.wp Tryd.prog o a w K Q else E := by
  rw [if_pos hw]
  exact wp_app_tok s x ho base v n L he hown A m c M hx hs hsum hbase h
end Go.Proofs.YtoobggcopoljcaaDoor
