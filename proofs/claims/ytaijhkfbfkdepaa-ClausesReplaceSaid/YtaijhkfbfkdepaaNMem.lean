
/- Nodes and extents in memory; contracts of Parts, fits, Count and the reference's Parts and Great. -/
import Derived.Test.YtaijhkfbfkdepaaNMath
import Derived.Test.YtaijhkfbfkdepaaChecked
import Derived.WalkKit
import Derived.ProofKit
import Derived.Carry
import Derived.Lib.Hide
import Derived.Deep.QuietTactic
import Derived.BigQuiet
import Derived.Maps.AppendAt
import Derived.Deep.AppendLies
import Derived.Laws.OwnMore
import Derived.OwnWalk
import Derived.IntWalk
namespace Go.Proofs.Ytaijhkfbfkdepaa.N4
open Go.ChangeShapes Go.WideShapes Go.ChangeAt Go.RowKit
set_option linter.unusedVariables false

theorem ret_bool' {a b : Bool} (h : a = b) : Ending.returned (.bool a) = .returned (.bool b) := by rw [h]
theorem ret_int' {k : IntKind} {a b : Int} (h : a = b) : Ending.returned (.int k a) = .returned (.int k b) := by rw [h]
theorem Below.drewN' {B : Nat} {a w : World} (h : Below B a w) (n : Nat) : Below B a (w.drewN n) := ⟨h.os, h.tape, h.output, h.size, h.block⟩
theorem bd_drewN (w : World) (n : Nat) : Below w.heap.size w (w.drewN n) := Below.drewN' (Below.refl _ _) n
theorem bcell {W w1 : World} (hb : Below W.heap.size W w1) : (∀ b o, b < W.heap.size → w1.cell? ⟨b, o, none⟩ = W.cell? ⟨b, o, none⟩) ∧ (∀ b o, b < W.heap.size → w1.frozen? ⟨b, o, none⟩ = W.frozen? ⟨b, o, none⟩) :=
  ⟨fun b o h => hb.cell (p := ⟨b, o, none⟩) h, fun b o h => hb.frozen (p := ⟨b, o, none⟩) h⟩

/-! ### cells -/
theorem add_block (ad : Addr) (j : Nat) : (ad.add j).block = ad.block := by unfold Addr.add; split <;> rfl
theorem add_more (ad : Addr) (n i : Nat) (hi : 0 < i) : ad.add (n + i) = ⟨(ad.add n).block, (ad.add n).off + i, none⟩ := by
  unfold Addr.add
  rw [if_neg (by omega)]
  by_cases hn : n = 0
  · subst hn; simp
  · rw [if_neg hn]; simp; omega
theorem add_add' (a : Addr) (x y : Nat) : (a.add x).add y = a.add (x + y) := by
  unfold Addr.add; by_cases hx : x = 0 <;> by_cases hy : y = 0 <;> simp [hx, hy, Nat.add_assoc]

/-- A slice's cells. -/
def Lies (w : World) (A : Option Addr) (cs : List Value) : Prop :=
  cs = [] ∨ ∃ ad, A = some ad ∧ ad.block < w.heap.size ∧ ∀ j u, cs[j]? = some u → w.cell? (ad.add j) = some u
theorem Lies.below {w w' : World} {A : Option Addr} {cs : List Value} (h : Lies w A cs) (hb : Below w.heap.size w w') : Lies w' A cs := by
  rcases h with h | ⟨ad, h1, h2, h3⟩
  · exact .inl h
  · refine .inr ⟨ad, h1, Nat.lt_of_lt_of_le h2 hb.size, fun j u hu => ?_⟩
    rw [hb.cell (p := ad.add j) (by rw [add_block]; exact h2)]
    exact h3 j u hu
theorem own_below {w w' : World} {base : Nat} {e : TypeId} {size : Nat} {v : Value} {n : Nat} {xs : List Value} (h : w.ownsRow base e size v n xs) (hb : Below w.heap.size w w') : w'.ownsRow base e size v n xs :=
  h.kept (row := none) ⟨hb.os, hb.tape, hb.output, hb.size, fun k hk _ => hb.block k hk⟩ (by cases v.ownBlock <;> simp)
theorem own_form {w : World} {base : Nat} {e : TypeId} {size : Nat} {v : Value} {n : Nat} {xs : List Value} (h : w.ownsRow base e size v n xs) : ∃ A c, v = .slice A n c ∧ n ≤ c ∧ n ≤ maxLen := by
  rcases h.2 with ⟨rfl, rfl⟩ | ⟨g, cap, cur, rfl, _, _, h1, h2, _⟩
  · exact ⟨none, 0, rfl, Nat.le_refl _, Nat.zero_le _⟩
  · exact ⟨_, _, rfl, by omega, by omega⟩
theorem Lies.of_own {w : World} {base : Nat} {e : TypeId} {size n : Nat} {A : Option Addr} {c : Nat} {cs : List Value} (h : w.ownsRow base e size (.slice A n c) n cs) (h0 : n = 0 → cs = []) : Lies w A cs := by
  rcases Nat.eq_zero_or_pos n with hn | hn
  · exact .inl (h0 hn)
  · obtain ⟨g, cap, hv, _, hlt⟩ := h.form hn
    injection hv with hA
    subst hA
    exact .inr ⟨_, rfl, hlt, h.cells (g := g) rfl⟩

def ndC (x : Nd) : List Value := [.int .u8 x.k, .int .i64 x.n, .int .i64 x.a, .int .i64 x.b, .int .i64 x.p]
abbrev ndV (x : Nd) : Value := .agg #[.int .u8 x.k, .int .i64 x.n, .int .i64 x.a, .int .i64 x.b, .int .i64 x.p]
def ndCells (L : List Nd) : List Value := L.flatMap ndC
def exC (y : Ex) : List Value := [.int .i64 (y.s : Int), .int .i64 (y.d : Int)]
def exCells (E : List Ex) : List Value := E.flatMap exC
def sCells (E : List Ex) : List Value := E.map fun y => .int .i64 (y.s : Int)
def dCells (E : List Ex) : List Value := E.map fun y => .int .i64 (y.d : Int)
theorem ndCells_length (L : List Nd) : (ndCells L).length = L.length * 5 := by
  induction L with
  | nil => rfl
  | cons t r ih => rw [ndCells, List.flatMap_cons, List.length_append]; show 5 + (ndCells r).length = _; rw [ih, List.length_cons]; omega
theorem exCells_length (E : List Ex) : (exCells E).length = E.length * 2 := by
  induction E with
  | nil => rfl
  | cons t r ih => rw [exCells, List.flatMap_cons, List.length_append]; show 2 + (exCells r).length = _; rw [ih, List.length_cons]; omega
theorem ndCells_append (L M : List Nd) : ndCells (L ++ M) = ndCells L ++ ndCells M := by simp [ndCells]
theorem ndCells_snoc (L : List Nd) (x : Nd) : ndCells (L ++ [x]) = ndCells L ++ ndC x := by simp [ndCells]
theorem exCells_snoc (E : List Ex) (y : Ex) : exCells (E ++ [y]) = exCells E ++ exC y := by simp [exCells]
theorem sCells_snoc (E : List Ex) (y : Ex) : sCells (E ++ [y]) = sCells E ++ [.int .i64 (y.s : Int)] := by simp [sCells]
theorem dCells_snoc (E : List Ex) (y : Ex) : dCells (E ++ [y]) = dCells E ++ [.int .i64 (y.d : Int)] := by simp [dCells]
theorem sCells_length (E : List Ex) : (sCells E).length = E.length := by simp [sCells]
theorem dCells_length (E : List Ex) : (dCells E).length = E.length := by simp [dCells]
theorem ndCells_at (L : List Nd) : ∀ (i : Nat) (x : Nd), L[i]? = some x → ∀ j, j < 5 → (ndCells L)[i * 5 + j]? = (ndC x)[j]? := by
  induction L with
  | nil => intro i x h; simp at h
  | cons t r ih =>
    intro i x h j hj
    have e : ndCells (t :: r) = ndC t ++ ndCells r := rfl
    have l5 : (ndC t).length = 5 := rfl
    rw [e]
    cases i with
    | zero =>
      rw [List.getElem?_cons_zero] at h
      injection h with h
      subst h
      rw [Nat.zero_mul, Nat.zero_add, List.getElem?_append_left (by omega)]
    | succ i =>
      rw [List.getElem?_cons_succ] at h
      rw [List.getElem?_append_right (by omega), show (i + 1) * 5 + j - (ndC t).length = i * 5 + j by omega]
      exact ih i x h j hj
theorem exCells_at (E : List Ex) : ∀ (i : Nat) (y : Ex), E[i]? = some y → ∀ j, j < 2 → (exCells E)[i * 2 + j]? = (exC y)[j]? := by
  induction E with
  | nil => intro i x h; simp at h
  | cons t r ih =>
    intro i x h j hj
    have e : exCells (t :: r) = exC t ++ exCells r := rfl
    have l5 : (exC t).length = 2 := rfl
    rw [e]
    cases i with
    | zero =>
      rw [List.getElem?_cons_zero] at h
      injection h with h
      subst h
      rw [Nat.zero_mul, Nat.zero_add, List.getElem?_append_left (by omega)]
    | succ i =>
      rw [List.getElem?_cons_succ] at h
      rw [List.getElem?_append_right (by omega), show (i + 1) * 2 + j - (exC t).length = i * 2 + j by omega]
      exact ih i x h j hj

/-- A node at a place of a slice, as the walk spells its cells. -/
def NdAt (w : World) (ad : Addr) (k : Nat) (x : Nd) : Prop :=
  w.cell? (ad.add (k * 5)) = some (.int .u8 x.k) ∧ w.cell? ⟨(ad.add (k * 5)).block, (ad.add (k * 5)).off + 1, none⟩ = some (.int .i64 x.n) ∧ w.cell? ⟨(ad.add (k * 5)).block, (ad.add (k * 5)).off + 2, none⟩ = some (.int .i64 x.a) ∧ w.cell? ⟨(ad.add (k * 5)).block, (ad.add (k * 5)).off + 3, none⟩ = some (.int .i64 x.b) ∧ w.cell? ⟨(ad.add (k * 5)).block, (ad.add (k * 5)).off + 4, none⟩ = some (.int .i64 x.p)
theorem Lies.nd {w : World} {A : Option Addr} {L : List Nd} (h : Lies w A (ndCells L)) {k : Nat} {x : Nd} (hk : L[k]? = some x) : ∃ ad, A = some ad ∧ ad.block < w.heap.size ∧ NdAt w ad k x := by
  rcases h with h0 | ⟨ad, h1, h2, h3⟩
  · have := ndCells_length L
    rw [h0] at this
    have hl := (List.getElem?_eq_some_iff.1 hk).1
    simp at this
    omega
  · have c := ndCells_at L k x hk
    refine ⟨ad, h1, h2, ?_, ?_, ?_, ?_, ?_⟩
    · exact h3 _ _ (c 0 (by decide))
    · rw [← add_more ad (k * 5) 1 (by decide)]; exact h3 _ _ (c 1 (by decide))
    · rw [← add_more ad (k * 5) 2 (by decide)]; exact h3 _ _ (c 2 (by decide))
    · rw [← add_more ad (k * 5) 3 (by decide)]; exact h3 _ _ (c 3 (by decide))
    · rw [← add_more ad (k * 5) 4 (by decide)]; exact h3 _ _ (c 4 (by decide))
def ExAt (w : World) (ad : Addr) (k : Nat) (y : Ex) : Prop :=
  w.cell? (ad.add (k * 2)) = some (.int .i64 (y.s : Int)) ∧ w.cell? ⟨(ad.add (k * 2)).block, (ad.add (k * 2)).off + 1, none⟩ = some (.int .i64 (y.d : Int))
theorem Lies.ex {w : World} {A : Option Addr} {E : List Ex} (h : Lies w A (exCells E)) {k : Nat} {y : Ex} (hk : E[k]? = some y) : ∃ ad, A = some ad ∧ ad.block < w.heap.size ∧ ExAt w ad k y := by
  rcases h with h0 | ⟨ad, h1, h2, h3⟩
  · have := exCells_length E
    rw [h0] at this
    have hl := (List.getElem?_eq_some_iff.1 hk).1
    simp at this
    omega
  · have c := exCells_at E k y hk
    refine ⟨ad, h1, h2, ?_, ?_⟩
    · exact h3 _ _ (c 0 (by decide))
    · rw [← add_more ad (k * 2) 1 (by decide)]; exact h3 _ _ (c 1 (by decide))
theorem Lies.one {w : World} {A : Option Addr} {cs : List Value} (h : Lies w A cs) {k : Nat} {u : Value} (hk : cs[k]? = some u) : ∃ ad, A = some ad ∧ ad.block < w.heap.size ∧ w.cell? (ad.add k) = some u := by
  rcases h with h0 | ⟨ad, h1, h2, h3⟩
  · subst h0; simp at hk
  · exact ⟨ad, h1, h2, h3 k u hk⟩
/-- A part of a slice. -/
theorem Lies.part {w : World} {ad : Addr} {L : List Nd} (h : Lies w (some ad) (ndCells L)) (lo n : Nat) : Lies w (some (ad.add (lo * 5))) (ndCells ((L.drop lo).take n)) := by
  rcases h with h0 | ⟨ad', h1, h2, h3⟩
  · have := ndCells_length L
    rw [h0] at this
    have hL : L = [] := List.eq_nil_of_length_eq_zero (by simp at this; omega)
    subst hL
    exact .inl (by simp [ndCells])
  · injection h1 with h1
    subst h1
    refine .inr ⟨_, rfl, by rw [add_block]; exact h2, fun j u hu => ?_⟩
    rw [add_add']
    apply h3
    have hl : j < (ndCells ((L.drop lo).take n)).length := (List.getElem?_eq_some_iff.1 hu).1
    rw [ndCells_length] at hl
    have hq : j / 5 < ((L.drop lo).take n).length := by omega
    have hx : ((L.drop lo).take n)[j / 5]? = some (((L.drop lo).take n)[j / 5]'hq) := List.getElem?_eq_getElem hq
    have h5 := ndCells_at _ _ _ hx (j % 5) (by omega)
    rw [show j / 5 * 5 + j % 5 = j by omega] at h5
    have hx2 : L[lo + j / 5]? = some (((L.drop lo).take n)[j / 5]'hq) := by
      rw [List.getElem?_take, List.getElem?_drop] at hx
      split at hx
      · exact hx
      · cases hx
    have h6 := ndCells_at L _ _ hx2 (j % 5) (by omega)
    rw [show (lo + j / 5) * 5 + j % 5 = lo * 5 + j by omega] at h6
    rw [h6, ← h5]
    exact hu

/-! ### small functions -/
theorem cnt_vals (k : Int) : (k ≤ 4 ∧ cnt k = 0) ∨ (4 < k ∧ k ≤ 6 ∧ cnt k = 1) ∨ (6 < k ∧ cnt k = 2) := by
  unfold cnt; repeat' split
  all_goals omega
def partsE (k : Int) : Int := if okK k then 0 else 2
def partsN (k : Int) : Int := if okK k then cnt k else 0
theorem ret_pair {a b c d : Int} (h : a = c) (h2 : b = d) : Ending.returned (.tuple #[.int .i64 a, .int .i64 b]) = .returned (.tuple #[.int .i64 c, .int .i64 d]) := by rw [h, h2]
theorem parts_any (k : Int) (w : World) : Calls Try.prog 50 #[.int .u8 k] w fun e w' => e = .returned (.tuple #[.int .i64 (partsN k), .int .i64 (partsE k)]) ∧ w = w' := by
  by_cases h1 : k < 1
  · have h : okK k = false := by simp [okK]; omega
    obtain ⟨e1, e2⟩ : partsN k = 0 ∧ partsE k = 2 := by simp [partsN, partsE, h]
    rw [e1, e2]; clear e1 e2 h
    go_enter Try.func50, Try.ntmps50
    go_wp2
    go_ret2
    exact ⟨rfl, rfl⟩
  by_cases h2 : 19 < k
  · have h : okK k = false := by simp [okK]; omega
    obtain ⟨e1, e2⟩ : partsN k = 0 ∧ partsE k = 2 := by simp [partsN, partsE, h]
    rw [e1, e2]; clear e1 e2 h
    go_enter Try.func50, Try.ntmps50
    go_wp2
    go_ret2
    exact ⟨rfl, rfl⟩
  have h : okK k = true := by simp [okK]; omega
  obtain ⟨e1, e2⟩ : partsN k = cnt k ∧ partsE k = 0 := by simp [partsN, partsE, h]
  rw [e1, e2]; clear e1 e2 h
  rcases cnt_vals k with ⟨h3, h4⟩ | ⟨h3, h5, h4⟩ | ⟨h3, h4⟩
  all_goals
    rw [h4]; clear h4
    go_enter Try.func50, Try.ntmps50
    go_wp2
    go_ret2
    exact ⟨rfl, rfl⟩
theorem count_any (k : Int) (w : World) : Calls Try.prog 48 #[.int .u8 k] w fun e w' => e = .returned (.int .i64 (cnt k)) ∧ w = w' := by
  rcases cnt_vals k with ⟨h3, h4⟩ | ⟨h3, h5, h4⟩ | ⟨h3, h4⟩
  all_goals
    rw [h4]; clear h4
    go_enter Try.func48, Try.ntmps48
    go_wp2
    go_ret
    exact ⟨rfl, rfl⟩
theorem fits_any (k n p : Int) (b : Bool) (hb : fitsF k n p = b) (w : World) : Calls Try.prog 51 #[.int .u8 k, .int .i64 n, .int .i64 p] w fun e w' => e = .returned (.bool b) ∧ w = w' := by
  have HB := Lib.hid hb
  clear hb
  by_cases h1 : 0 ≤ n <;> by_cases h2 : n = 0 <;> by_cases h3 : k = 1 <;> by_cases h4 : 0 ≤ p <;> by_cases h5 : p ≤ 400
  all_goals try (exfalso; omega)
  all_goals
    have HV := Lib.hid (show b = (decide (0 ≤ n) && (decide (n = 0) || decide (k = 1)) && decide (0 ≤ p) && decide (p ≤ 400)) from HB.out.symm)
    first
      | (have hx : b = true := by rw [HV.out]; simp [*])
      | (have hx : b = false := by rw [HV.out]; simp [*])
    subst hx
    clear HV HB
    try (have g2 : (n == 0) = true := by simpa using h2)
    try (have g2 : (n == 0) = false := by simpa using h2)
    try (have g3 : (k == 1) = true := by simpa using h3)
    try (have g3 : (k == 1) = false := by simpa using h3)
    clear h2 h3
    go_enter Try.func51, Try.ntmps51
    go_wp2
    go_ret
    exact ⟨rfl, rfl⟩
theorem great_any (A : Option Addr) (n c : Nat) (w : World) (b : Bool) (hb : decide (70 < n) = b) : Calls Try.prog 14 #[.slice A n c] w fun e w' => e = .returned (.bool b) ∧ w = w' := by
  have HB := Lib.hid hb
  clear hb
  go_enter Try.func14, Try.ntmps14
  go_wp2
  go_ret
  exact ⟨ret_bool' (by rw [← HB.out]; rw [decide_eq_decide]; omega), rfl⟩
end Go.Proofs.Ytaijhkfbfkdepaa.N4
