/- The value of an expression for a record, in plain mathematics. -/
import Derived.Test.YtajchaknfkfljaaDoorKMath3
import Derived.Test.YtajchaknfkfljaaDoorRef
namespace Go.Proofs.YtajchaknfkfljaaDoor.V7
open Go.RowKit N4 K6
set_option linter.unusedVariables false

structure Rc where
  k : Int
  t : Int
  v : Int
deriving DecidableEq

/-- What the operator of a kind gives for two numbers. -/
def opV (k a b : Int) : Int :=
  if k = 5 then wrap64 (-a) else if k = 6 then tv (a == 0) else if k = 7 then wrap64 (a * b) else if k = 8 then wrap64 (a + b) else if k = 9 then wrap64 (a - b)
  else if k = 10 then wrap64 (a * 2 ^ (pl b).toNat) else if k = 11 then a / 2 ^ (pl b).toNat else if k = 12 then tv (decide (a < b)) else if k = 13 then tv (decide (a ≤ b))
  else if k = 14 then tv (decide (b < a)) else if k = 15 then tv (decide (b ≤ a)) else if k = 16 then tv (a == b) else if k = 17 then tv (a != b)
  else if k = 18 then tv (a != 0 && b != 0) else tv (a != 0 || b != 0)
def In64 (x : Int) : Prop := -9223372036854775808 ≤ x ∧ x ≤ 9223372036854775807
theorem tv_vals (p : Bool) : tv p = 0 ∨ tv p = 1 := by cases p <;> simp [tv]
theorem tv_in (p : Bool) : In64 (tv p) := by unfold In64; rcases tv_vals p with h | h <;> rw [h] <;> decide
theorem wrap_in (x : Int) : In64 (wrap64 x) := ⟨wrap64_lo x, wrap64_hi x⟩
theorem ite_of {P : Int → Prop} {p : Prop} [Decidable p] {a b : Int} (ha : P a) (hb : P b) : P (if p then a else b) := by
  by_cases h : p
  · rw [if_pos h]; exact ha
  · rw [if_neg h]; exact hb
theorem opV_in (k a b : Int) (h : In64 a) : In64 (opV k a b) :=
  ite_of (wrap_in _) (ite_of (tv_in _) (ite_of (wrap_in _) (ite_of (wrap_in _) (ite_of (wrap_in _) (ite_of (wrap_in _) (ite_of (div_two_pow_in _ _ h.1 h.2) (ite_of (tv_in _) (ite_of (tv_in _) (ite_of (tv_in _)
    (ite_of (tv_in _) (ite_of (tv_in _) (ite_of (tv_in _) (ite_of (tv_in _) (tv_in _))))))))))))))
def Tr01 (x : Int) : Prop := x = 0 ∨ x = 1
theorem tv_01 (p : Bool) : Tr01 (tv p) := tv_vals p
theorem opV_truth {k : Int} (a b : Int) (h : gvK k = true) (h1 : 5 ≤ k) : Tr01 (opV k a b) := by
  have h2 : k = 6 ∨ 12 ≤ k := by unfold gvK at h; simpa using h
  rcases h2 with rfl | h2
  · exact tv_01 _
  · unfold opV
    rw [if_neg (by omega), if_neg (by omega), if_neg (by omega), if_neg (by omega), if_neg (by omega), if_neg (by omega), if_neg (by omega)]
    exact ite_of (tv_01 _) (ite_of (tv_01 _) (ite_of (tv_01 _) (ite_of (tv_01 _) (ite_of (tv_01 _) (ite_of (tv_01 _) (ite_of (tv_01 _) (tv_01 _)))))))

def getV (vs : List Int) (i : Int) : Int := (vs[i.toNat]?).getD 0
theorem getV_at {vs : List Int} {i : Nat} {v : Int} (h : vs[i]? = some v) : getV vs i = v := by unfold getV; rw [Int.toNat_natCast, h]; rfl
theorem getV_in {vs : List Int} (h : ∀ v ∈ vs, In64 v) (i : Int) : In64 (getV vs i) := by
  unfold getV
  cases hv : vs[i.toNat]? with
  | none => exact ⟨by decide, by decide⟩
  | some v => exact h v (List.mem_of_getElem? hv)
/-- The value of a node behind others with the values vs. -/
def valF (r : Rc) (vs : List Int) (x : Nd) : Int :=
  if x.k = 1 then x.n else if x.k = 2 then r.k else if x.k = 3 then r.t else if x.k = 4 then r.v else opV x.k (getV vs x.a) (if x.k ≤ 6 then 0 else getV vs x.b)
def valsG (r : Rc) (vs : List Int) : List Nd → List Int
  | [] => vs
  | x :: l => valsG r (vs ++ [valF r vs x]) l
def valsF (r : Rc) (L : List Nd) : List Int := valsG r [] L

theorem valsG_append (r : Rc) (L M : List Nd) : ∀ vs, valsG r vs (L ++ M) = valsG r (valsG r vs L) M := by
  induction L with
  | nil => intro vs; rfl
  | cons x l ih => intro vs; exact ih _
theorem valsG_length (r : Rc) (L : List Nd) : ∀ vs, (valsG r vs L).length = vs.length + L.length := by
  induction L with
  | nil => intro vs; rfl
  | cons x l ih => intro vs; show (valsG r (vs ++ [valF r vs x]) l).length = _; rw [ih]; simp; omega
theorem valsG_pre (r : Rc) (L : List Nd) : ∀ vs, (valsG r vs L).take vs.length = vs := by
  induction L with
  | nil => intro vs; exact List.take_length
  | cons x l ih =>
    intro vs
    show (valsG r (vs ++ [valF r vs x]) l).take vs.length = vs
    have := congrArg (List.take vs.length) (ih (vs ++ [valF r vs x]))
    rw [List.take_take] at this
    simpa using this
theorem vals_length (r : Rc) (L : List Nd) : (valsF r L).length = L.length := by unfold valsF; rw [valsG_length]; simp
theorem vals_take (r : Rc) (L : List Nd) (k : Nat) (hk : k ≤ L.length) : valsF r (L.take k) = (valsF r L).take k := by
  have h := valsG_append r (L.take k) (L.drop k) []
  rw [List.take_append_drop] at h
  have h2 := valsG_pre r (L.drop k) (valsG r [] (L.take k))
  rw [← h, valsG_length] at h2
  have h3 : ([] : List Int).length + (L.take k).length = k := by rw [List.length_take]; simp; omega
  rw [h3] at h2
  exact h2.symm
theorem vals_snoc (r : Rc) (L : List Nd) (x : Nd) : valsF r (L ++ [x]) = valsF r L ++ [valF r (valsF r L) x] := by
  unfold valsF; rw [valsG_append]; rfl
theorem vals_step (r : Rc) {L : List Nd} {k : Nat} {x : Nd} (hx : L[k]? = some x) : (valsF r L).take (k + 1) = (valsF r L).take k ++ [valF r ((valsF r L).take k) x] := by
  have hk := (List.getElem?_eq_some_iff.1 hx).1
  rw [← vals_take r L (k + 1) (by omega), (extF_split hx).2, vals_snoc, vals_take r L k (by omega)]
theorem vals_get (r : Rc) {L : List Nd} {k : Nat} {x : Nd} (hx : L[k]? = some x) : (valsF r L)[k]? = some (valF r ((valsF r L).take k) x) := by
  have hk := (List.getElem?_eq_some_iff.1 hx).1
  have h : ((valsF r L).take (k + 1))[k]? = _ := congrArg (fun l : List Int => l[k]?) (vals_step r hx)
  rw [List.getElem?_take, if_pos (by omega)] at h
  rw [h]
  show ((valsF r L).take k ++ [valF r ((valsF r L).take k) x])[k]? = _
  rw [List.getElem?_append_right (by rw [List.length_take]; omega), List.length_take, vals_length]
  rw [show k - min k L.length = 0 by omega]
  rfl
theorem getV_take {vs : List Int} {i k : Nat} (h : i < k) : getV (vs.take k) i = getV vs i := by
  unfold getV
  rw [Int.toNat_natCast, List.getElem?_take, if_pos h]
/-- The value of a node of a valid list, by those of all. -/
theorem vals_full (r : Rc) {L : List Nd} {E : List Ex} (h : extF L = some E) {k : Nat} {x : Nd} (hx : L[k]? = some x) : (valsF r L)[k]? = some (valF r (valsF r L) x) := by
  rw [vals_get r hx]
  congr 1
  obtain ⟨h1, h2, h3⟩ := node_parts h hx
  unfold valF
  rcases h3 with hk | ⟨hk, hk2, i1, y, ha, hb, hi, _⟩ | ⟨hk, i1, i2, y, z, ha, hb, hi1, hi2, _, _⟩
  · have h4 : x.k = 1 ∨ x.k = 2 ∨ x.k = 3 ∨ x.k = 4 := by omega
    rcases h4 with h4 | h4 | h4 | h4 <;> rw [h4] <;> rfl
  · rw [if_pos hk2, if_pos hk2, ha, getV_take hi]
  · rw [if_neg (show ¬ x.k ≤ 6 by omega), if_neg (show ¬ x.k ≤ 6 by omega), ha, hb, getV_take hi1, getV_take hi2]
theorem vals_leaf {r : Rc} {vs : List Int} {x : Nd} : (x.k = 1 → valF r vs x = x.n) ∧ (x.k = 2 → valF r vs x = r.k) ∧ (x.k = 3 → valF r vs x = r.t) ∧ (x.k = 4 → valF r vs x = r.v) := by
  refine ⟨?_, ?_, ?_, ?_⟩ <;> intro h <;> unfold valF <;> rw [h] <;> rfl
theorem vals_op {r : Rc} {vs : List Int} {x : Nd} (h : 4 < x.k) : valF r vs x = opV x.k (getV vs x.a) (if x.k ≤ 6 then 0 else getV vs x.b) := by
  unfold valF
  rw [if_neg (by omega), if_neg (by omega), if_neg (by omega), if_neg (by omega)]
/-- Nodes elsewhere, with their parts: the same values. -/
theorem reloc (r : Rc) {M Q : List Nd} {EM EQ : List Ex} (hM : extF M = some EM) (hQ : extF Q = some EQ) (d : Nat)
    (h : ∀ (j : Nat) (x' : Nd), Q[j]? = some x' → ∃ x, M[d + j]? = some x ∧ x.k = x'.k ∧ x.n = x'.n ∧ (4 < x'.k → x.a = x'.a + d) ∧ (6 < x'.k → x.b = x'.b + d)) :
    ∀ j, j < Q.length → (valsF r M)[d + j]? = (valsF r Q)[j]? := by
  intro j
  induction j using Nat.strongRecOn with
  | _ j ih =>
    intro hj
    obtain ⟨x', hx'⟩ : ∃ x', Q[j]? = some x' := ⟨_, List.getElem?_eq_getElem hj⟩
    obtain ⟨x, hx, ek, en, ea, eb⟩ := h j x' hx'
    rw [vals_full r hM hx, vals_full r hQ hx']
    congr 1
    obtain ⟨h1, h2, h3⟩ := node_parts hQ hx'
    have get : ∀ i : Nat, i < j → getV (valsF r M) ((i : Int) + d) = getV (valsF r Q) i := by
      intro i hi
      have := ih i hi (by omega)
      unfold getV
      rw [show ((i : Int) + d).toNat = d + i by omega, this, Int.toNat_natCast]
    unfold valF
    rw [ek, en]
    rcases h3 with hk | ⟨hk, hk2, i1, y, ha, hb, hi, _⟩ | ⟨hk, i1, i2, y, z, ha, hb, hi1, hi2, _, _⟩
    · have h4 : x'.k = 1 ∨ x'.k = 2 ∨ x'.k = 3 ∨ x'.k = 4 := by omega
      rcases h4 with h4 | h4 | h4 | h4 <;> rw [h4] <;> rfl
    · rw [if_pos hk2, if_pos hk2, ea hk, ha, get i1 hi]
    · rw [if_neg (show ¬ x'.k ≤ 6 by omega), if_neg (show ¬ x'.k ≤ 6 by omega), ea (by omega), eb hk, ha, hb, get i1 hi1, get i2 hi2]
/-- Parts by themselves. -/
theorem vals_cut (r : Rc) {L : List Nd} {E : List Ex} (hg : Good4 L E) {i : Nat} (hi : i < L.length) : (cutF L i).length = sizF L i ∧ 1 ≤ sizF L i ∧ (valsF r (cutF L i))[sizF L i - 1]? = (valsF r L)[i]? := by
  obtain ⟨y, hy, z1, z2, _⟩ := hg.at_ hi
  have hE := hg.ext
  have hs := sizF_of hE hy
  have hl := cutF_length hE hy
  have hc := (cut_good hg hy).1
  rw [hs]
  refine ⟨hl, z1, ?_⟩
  have := reloc r hE hc.ext (i + 1 - y.s) (fun j x' hx' => by
    obtain ⟨x, hx, rfl, _⟩ := cutF_at hE hy hx'
    refine ⟨x, hx, rfl, rfl, ?_, ?_⟩
    · intro h4
      have h4' : 4 < x.k := h4
      rw [shift_a, if_pos h4']; omega
    · intro h6
      have h6' : 6 < x.k := h6
      rw [shift_b, if_pos h6']; omega) (y.s - 1) (by omega)
  rw [← this]
  congr 1
  omega
section two
variable {P Q : List Nd} {E F : List Ex} {k : Int}
theorem vals_made2 (r : Rc) (hg : Good4 P E) (hq : Good4 Q F) (h6 : 6 < k) {u v : Int} (hc : checkF (made2 k 0 0 P Q) = 0)
    (hu : (valsF r P)[P.length - 1]? = some u) (hv : (valsF r Q)[Q.length - 1]? = some v) : (valsF r (made2 k 0 0 P Q))[P.length + Q.length]? = some (opV k u v) := by
  obtain ⟨EM, hM⟩ := checkF_zero hc
  have hp := (good_last hg).choose_spec.2.2.2
  have hp2 := (good_last hq).choose_spec.2.2.2
  have hla : (made2 k 0 0 P Q)[P.length + Q.length]? = some ⟨k, 0, (P.length : Int) - 1, (P.length : Int) + Q.length - 1, 0⟩ := by
    unfold made2
    rw [map_shift_zero, List.getElem?_append_right (by simp)]
    simp
  have h1 := reloc r hM.ext hg.ext 0 (fun j x' hx' => by
    have hj := (List.getElem?_eq_some_iff.1 hx').1
    refine ⟨x', ?_, rfl, rfl, fun _ => by simp, fun _ => by simp⟩
    unfold made2
    rw [map_shift_zero, List.append_assoc, List.getElem?_append_left (by omega), Nat.zero_add]
    exact hx') (P.length - 1) (by omega)
  have h2 := reloc r hM.ext hq.ext P.length (fun j x' hx' => by
    have hj := (List.getElem?_eq_some_iff.1 hx').1
    refine ⟨shift P.length x', ?_, rfl, rfl, fun h => by rw [shift_a, if_pos h], fun h => by rw [shift_b, if_pos h]⟩
    unfold made2
    rw [map_shift_zero, List.append_assoc, List.getElem?_append_right (by omega), Nat.add_sub_cancel_left, List.getElem?_append_left (by simpa using hj), List.getElem?_map, hx']
    rfl) (Q.length - 1) (by omega)
  rw [vals_full r hM.ext hla]
  congr 1
  rw [vals_op (show 4 < (⟨k, 0, (P.length : Int) - 1, (P.length : Int) + Q.length - 1, 0⟩ : Nd).k by show 4 < k; omega)]
  show opV k _ (if k ≤ 6 then 0 else _) = _
  rw [if_neg (by omega)]
  congr 1
  · rw [show ((⟨k, 0, (P.length : Int) - 1, (P.length : Int) + Q.length - 1, 0⟩ : Nd).a) = ((P.length - 1 : Nat) : Int) by show (P.length : Int) - 1 = _; omega]
    refine getV_at ?_
    rw [Nat.zero_add] at h1
    rw [h1]; exact hu
  · rw [show ((⟨k, 0, (P.length : Int) - 1, (P.length : Int) + Q.length - 1, 0⟩ : Nd).b) = ((P.length + (Q.length - 1) : Nat) : Int) by show (P.length : Int) + Q.length - 1 = _; omega]
    refine getV_at ?_
    rw [h2]; exact hv
end two

/-! ### what is used -/
def usesF (L : List Nd) (q : Int) : Bool := L.any fun x => x.k == q
theorem uses_mem {L : List Nd} {q : Int} {x : Nd} (hx : x ∈ L) (h : x.k = q) : usesF L q = true := List.any_eq_true.2 ⟨x, hx, by simpa using h⟩
theorem uses_take {L : List Nd} {q : Int} {k : Nat} {x : Nd} (hx : L[k]? = some x) (h : x.k = q) : usesF L q = true := uses_mem (List.mem_of_getElem? hx) h
theorem valsG_same (r s : Rc) (L : List Nd) : ∀ vs, (∀ x ∈ L, (x.k = 2 → r.k = s.k) ∧ (x.k = 3 → r.t = s.t) ∧ (x.k = 4 → r.v = s.v)) → valsG r vs L = valsG s vs L := by
  induction L with
  | nil => intro vs _; rfl
  | cons x l ih =>
    intro vs h
    have hx := h x (by simp)
    have hv : valF r vs x = valF s vs x := by
      unfold valF
      split
      · rfl
      split
      · rename_i h2; exact hx.1 h2
      split
      · rename_i h3; exact hx.2.1 h3
      split
      · rename_i h4; exact hx.2.2 h4
      · rfl
    show valsG r (vs ++ [valF r vs x]) l = valsG s (vs ++ [valF s vs x]) l
    rw [hv]
    exact ih _ (fun y hy => h y (by simp [hy]))
theorem vals_same (r s : Rc) (L : List Nd) (h2 : usesF L 2 = true → r.k = s.k) (h3 : usesF L 3 = true → r.t = s.t) (h4 : usesF L 4 = true → r.v = s.v) : valsF r L = valsF s L :=
  valsG_same r s L [] fun x hx => ⟨fun h => h2 (uses_mem hx h), fun h => h3 (uses_mem hx h), fun h => h4 (uses_mem hx h)⟩

/-! ### bounds and truth values -/
structure RcIn (r : Rc) : Prop where
  k : In64 r.k
  t : In64 r.t
  v : In64 r.v
def NIn (L : List Nd) : Prop := ∀ x ∈ L, In64 x.n
theorem valF_in {r : Rc} (hr : RcIn r) {vs : List Int} (hv : ∀ v ∈ vs, In64 v) {x : Nd} (hx : In64 x.n) : In64 (valF r vs x) := by
  unfold valF
  split
  · exact hx
  split
  · exact hr.k
  split
  · exact hr.t
  split
  · exact hr.v
  · exact opV_in _ _ _ (getV_in hv _)
theorem valsG_in {r : Rc} (hr : RcIn r) (L : List Nd) : ∀ vs, (∀ v ∈ vs, In64 v) → NIn L → ∀ v ∈ valsG r vs L, In64 v := by
  induction L with
  | nil => intro vs h _; exact h
  | cons x l ih =>
    intro vs h hL
    refine ih _ ?_ (fun y hy => hL y (by simp [hy]))
    intro v hv
    rcases List.mem_append.1 hv with hv | hv
    · exact h v hv
    · rw [List.mem_singleton] at hv; subst hv; exact valF_in hr h (hL x (by simp))
theorem vals_in {r : Rc} (hr : RcIn r) {L : List Nd} (hL : NIn L) : ∀ v ∈ valsF r L, In64 v := valsG_in hr L [] (by simp) hL
theorem vals_truth (r : Rc) {L : List Nd} {E : List Ex} (h : extF L = some E) {k : Nat} {x : Nd} (hx : L[k]? = some x) (hg : gvK x.k = true) {v : Int} (hv : (valsF r L)[k]? = some v) : v = 0 ∨ v = 1 := by
  rw [vals_full r h hx] at hv
  injection hv with hv
  have hk : 4 < x.k := by unfold gvK at hg; simp at hg; omega
  rw [← hv, vals_op hk]
  exact opV_truth _ _ hg (by omega)
/-- What Of answers for a typed expression. -/
def lastV (r : Rc) (L : List Nd) : Int := getV (valsF r L) ((L.length : Int) - 1)
theorem last_at (r : Rc) {L : List Nd} {n : Nat} (hn : L.length = n + 1) : (valsF r L)[n]? = some (lastV r L) := by
  unfold lastV
  rw [hn, show (((n + 1 : Nat) : Int) - 1) = (n : Int) by omega]
  obtain ⟨v, hv⟩ : ∃ v, (valsF r L)[n]? = some v := ⟨_, List.getElem?_eq_getElem (by rw [vals_length]; omega)⟩
  rw [getV_at hv, hv]
end Go.Proofs.YtajchaknfkfljaaDoor.V7
