/- Tokens appended; parts of a slice of tokens. -/
import Derived.Test.YtlmamidodahgmaaGreatDoorLB
import Derived.Test.YtlmamidodahgmaaGreatDoorNB
import Derived.Laws.AppendOwnNone
import Derived.Deep.AppendLies
import Derived.Deep.RegionHeld3
namespace Go.Proofs.YtlmamidodahgmaaGreatDoor.P9
open Go.ChangeShapes Go.WideShapes Go.ChangeAt Go.RowKit N4
set_option linter.unusedVariables false
set_option maxRecDepth 100000

section
variable {P : Program} {ops : Array Oper} {Q : Exit → Act → World → Prop} {md : Region.Mode} {S : World → Prop}
/-- An operation whose guard says no. -/
theorem take_no {i d : Nat} {oi : Oper} {fuel : Nat} {listed : Array Bool} {a : Act} {w : World} (hi : ops[i]? = some oi) (hd : oi.dst = some d)
    (hs : Region.noSelect ops = true) (hf : Region.free md ops listed i = true) (hr : (Region.ready md ops listed).contains i = true)
    (hQ : ∀ c a w, Q (.panic c) (a.put (some d) undef) w → Q (.panic c) a w) (hw : Region.wanted oi (yielded ops a.tmps) = false) (hS : S w)
    (h : wpAnyH P md ops Q S fuel (listed.setIfInBounds i true) (a.put (some d) undef) w) : wpAnyH P md ops Q S (fuel + 1) listed a w :=
  wpAnyH_take hi hs hf hr (by rw [hd]; exact hQ) (Or.inr ⟨hw, rfl⟩) hS (by rw [hd]; exact h)
/-- One that yields in every world that meets S. -/
theorem take_yes {i d : Nat} {oi : Oper} {v : Value} {fuel : Nat} {listed : Array Bool} {a : Act} {w : World} (hi : ops[i]? = some oi) (hd : oi.dst = some d)
    (hs : Region.noSelect ops = true) (hf : Region.free md ops listed i = true) (hr : (Region.ready md ops listed).contains i = true)
    (hQ : ∀ c a w, Q (.panic c) (a.put (some d) v) w → Q (.panic c) a w) (hw : Region.wanted oi (yielded ops a.tmps) = true) (hv : ∀ w, S w → (execOp a.eval oi).run P w = .ok (.value v) w) (hS : S w)
    (h : wpAnyH P md ops Q S fuel (listed.setIfInBounds i true) (a.put (some d) v) w) : wpAnyH P md ops Q S (fuel + 1) listed a w :=
  wpAnyH_take hi hs hf hr (by rw [hd]; exact hQ) (Or.inl ⟨hw, hv⟩) hS (by rw [hd]; exact h)
end
theorem tok_one (L : List Tok) : ∀ u ∈ tokCells L, u.oneCell' = true := by
  intro u hu
  rw [tokCells, List.mem_flatMap] at hu
  obtain ⟨x, _, hx⟩ := hu
  simp only [tokC, List.mem_cons, List.not_mem_nil, or_false] at hx
  rcases hx with rfl | rfl | rfl <;> rfl
theorem tok_app (L M : List Tok) : tokCells (L ++ M) = tokCells L ++ tokCells M := by simp [tokCells]
/-- A slice of tokens, nil or not. -/
def SrcT (w : World) (A : Option Addr) (m c : Nat) (M : List Tok) : Prop := Toks w A M ∧ M.length = m ∧ ((A = none ∧ c = 0 ∧ m = 0) ∨ ∃ ad, A = some ad)
theorem SrcT.step {w w' : World} {A : Option Addr} {m c : Nat} {M : List Tok} (h : SrcT w A m c M) (hb : Below w.heap.size w w') : SrcT w' A m c M := ⟨h.1.below hb, h.2⟩
theorem run_app_tok (w : World) (ty : TypeId) (base : Nat) (v : Value) (n : Nat) (L : List Tok) (hown : w.ownsRow base 52 3 v n (tokCells L)) (A : Option Addr) (m c : Nat) (M : List Tok) (hs : SrcT w A m c M) (hsum : n + m ≤ 100000) (hbase : base ≤ w.heap.size) :
    ∃ v' w', (Builtin.append_ #[35, 35] ty #[v, .slice A m c]).run Tryz.prog w = .ok v' w' ∧ w'.ownsRow base 52 3 v' (n + m) (tokCells (L ++ M)) ∧ w.grownBy w' v.ownBlock ∧ (v'.ownBlock = v.ownBlock ∨ v'.ownBlock = some w.heap.size) := by
  obtain ⟨ht, hm, hA⟩ := hs
  obtain ⟨i0, hi0, hz0, hz1, hz2⟩ := info_parts tok_info
  rcases hA with ⟨rfl, rfl, rfl⟩ | ⟨ad, rfl⟩
  · have hM : M = [] := List.eq_nil_of_length_eq_zero hm
    subst hM
    refine ⟨v, w, run_append_owned_none w base _ ty _ i0 3 Tryz.underlying35 hi0 v n _ hown, by simpa using hown, ⟨rfl, rfl, rfl, Nat.le_refl _, fun k _ _ => rfl⟩, .inl rfl⟩
  · have hnews : ∀ j u, (tokCells M)[j]? = some u → w.cell? (ad.add j) = some u := by
      rcases ht with h0 | ⟨ad', h1, _, h3⟩
      · subst h0; intro j u hu; simp [tokCells] at hu
      · injection h1 with h1; subst h1; exact h3
    obtain ⟨v', w', h1, h2, h3, _, h5⟩ := run_append_own_at (P := Tryz.prog) w base 35 ty 52 i0 _ 3 32 Tryz.underlying35 hi0 hz0 hz1 hz2 rfl (by decide) v n (tokCells L) hown ad m c (tokCells M) (by rw [tokCells_length, hm]) hnews (tok_one M) (by unfold maxLen; omega) (by omega) hbase
    exact ⟨v', w', h1, by rw [tok_app]; exact h2, h3, h5⟩
/-- At an operation. -/
theorem wp_app_tok {o : Oper} {a : Act} {w : World} {K : Act → World → Prop} {Q : Exit → Act → World → Prop} (s x : Operand)
    (ho : o.op = .call { callee := .builtin .append, args := #[s, x], argTypes := #[35, 35] })
    (base : Nat) (v : Value) (n : Nat) (L : List Tok) (he : a.eval s = v) (hown : w.ownsRow base 52 3 v n (tokCells L)) (A : Option Addr) (m c : Nat) (M : List Tok) (hx : a.eval x = .slice A m c) (hs : SrcT w A m c M) (hsum : n + m ≤ 100000) (hbase : base ≤ w.heap.size)
    (h : ∀ v' w', w'.ownsRow base 52 3 v' (n + m) (tokCells (L ++ M)) → w.grownBy w' v.ownBlock → (v'.ownBlock = v.ownBlock ∨ v'.ownBlock = some w.heap.size) → K (a.put o.dst v') w') : o.wp Tryz.prog a w K Q := by
  obtain ⟨v', w', hr, h2, h3, h4⟩ := run_app_tok w o.type base v n L hown A m c M hs hsum hbase
  unfold Oper.wp execOp
  simp only [ho, resolve, invoke, builtin, Sem.run_bind, Sem.run_pure, Result.andThen_ok, List.map_toArray, List.map_cons, List.map_nil, he, hx, hr]
  exact h v' w' h2 h3 h4
/-- At a step of a region that draws its order, guarded or not. -/
theorem step_app_tok {ops : Array Oper} {o : Oper} {a : Act} {w : World} {K : Act → World → Prop} {Q : Exit → Act → World → Prop} {E : Prop} (hw : Region.wanted o (yielded ops a.tmps) = true) (s x : Operand)
    (ho : o.op = .call { callee := .builtin .append, args := #[s, x], argTypes := #[35, 35] })
    (base : Nat) (v : Value) (n : Nat) (L : List Tok) (he : a.eval s = v) (hown : w.ownsRow base 52 3 v n (tokCells L)) (A : Option Addr) (m c : Nat) (M : List Tok) (hx : a.eval x = .slice A m c) (hs : SrcT w A m c M) (hsum : n + m ≤ 100000) (hbase : base ≤ w.heap.size)
    (h : ∀ v' w', w'.ownsRow base 52 3 v' (n + m) (tokCells (L ++ M)) → w.grownBy w' v.ownBlock → (v'.ownBlock = v.ownBlock ∨ v'.ownBlock = some w.heap.size) → K (a.put o.dst v') w') :
    if Region.wanted o (yielded ops a.tmps) = true then Oper.wp Tryz.prog o a w K Q else E := by
  rw [if_pos hw]
  exact wp_app_tok s x ho base v n L he hown A m c M hx hs hsum hbase h
/-- Parts of tokens. -/
theorem tok_take {T : List Tok} {n : Nat} (h : n ≤ T.length) : (tokCells T).take (n * 3) = tokCells (T.take n) := by
  have hl : (tokCells (T.take n)).length = n * 3 := by rw [tokCells_length, List.length_take, Nat.min_eq_left h]
  have h1 : tokCells T = tokCells (T.take n) ++ tokCells (T.drop n) := by rw [← tok_app, List.take_append_drop]
  rw [h1, List.take_left' hl]
theorem tok_drop {T : List Tok} {n : Nat} (h : n ≤ T.length) : (tokCells T).drop (n * 3) = tokCells (T.drop n) := by
  have hl : (tokCells (T.take n)).length = n * 3 := by rw [tokCells_length, List.length_take, Nat.min_eq_left h]
  have h1 : tokCells T = tokCells (T.take n) ++ tokCells (T.drop n) := by rw [← tok_app, List.take_append_drop]
  rw [h1, List.drop_left' hl]
theorem src_hi {W : World} {A : Option Addr} {K : List Tok} {n c m : Nat} (h : Toks W A K) (hn : K.length = n) (hm : m ≤ n) (hc : n ≤ c) (h0 : A = none → c = 0) : SrcT W A m c (K.take m) := by
  refine ⟨?_, by rw [List.length_take]; omega, ?_⟩
  · rcases h with h1 | ⟨ad, h1, h2, h3⟩
    · exact .inl (by rw [h1]; simp)
    · refine .inr ⟨ad, h1, h2, fun j u hu => h3 j u ?_⟩
      rw [← tok_take (by omega), List.getElem?_take] at hu
      split at hu
      · exact hu
      · cases hu
  · cases A with
    | none => have := h0 rfl; exact .inl ⟨rfl, this, by omega⟩
    | some ad => exact .inr ⟨ad, rfl⟩
theorem src_lo {W : World} {A : Option Addr} {K : List Tok} {n c i : Nat} (h : Toks W A K) (hn : K.length = n) (hi : i ≤ n) (hc : n ≤ c) (h0 : A = none → c = 0) : SrcT W (if c = i then A else A.map (·.add (i * 3))) (n - i) (c - i) (K.drop i) := by
  refine ⟨?_, by rw [List.length_drop]; omega, ?_⟩
  · rcases Nat.eq_or_lt_of_le hi with h1 | h1
    · exact .inl (List.eq_nil_of_length_eq_zero (by rw [List.length_drop]; omega))
    · rcases h with h1 | ⟨ad, rfl, h2, h3⟩
      · subst h1; simp at hn; omega
      · rw [if_neg (by omega)]
        refine .inr ⟨ad.add (i * 3), rfl, by rw [add_block]; exact h2, fun j u hu => ?_⟩
        rw [add_add']
        refine h3 _ u ?_
        rw [← tok_drop (by omega), List.getElem?_drop] at hu
        exact hu
  · cases A with
    | none => have := h0 rfl; rw [this]; exact .inl ⟨by simp, by omega, by omega⟩
    | some ad => split <;> exact .inr ⟨_, rfl⟩
/-- Slices of tokens cut, as the walk asks. -/
theorem run_hi (W : World) (A : Option Addr) (n c m : Nat) (h : m ≤ c) : (Instr.slice 35 (.slice A n c) none (some (.int .i64 (m : Int))) none).run Tryz.prog W = .ok (.slice A m c) W := by
  rw [run_slice_h W _ A n c Tryz.underlying35 .i64 (m : Int) (by omega) (by omega)]
  go_simp
theorem run_lo (W : World) (A : Option Addr) (n c i : Nat) (h : i ≤ n) : (Instr.slice 35 (.slice A n c) (some (.int .i64 (i : Int))) none none).run Tryz.prog W = .ok (.slice (if c = i then A else A.map (·.add (i * 3))) (n - i) (c - i)) W := by
  rw [run_slice_l W _ A n c Tryz.underlying35 .i64 (i : Int) (by omega) (by omega)]
  go_simp
end Go.Proofs.YtlmamidodahgmaaGreatDoor.P9
