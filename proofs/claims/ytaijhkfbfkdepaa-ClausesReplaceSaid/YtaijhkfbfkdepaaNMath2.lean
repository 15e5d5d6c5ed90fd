
/- Parts of an expression, and expressions made of parts, in plain mathematics. -/
import Derived.Test.YtaijhkfbfkdepaaNMath
namespace Go.Proofs.Ytaijhkfbfkdepaa.N4
set_option linter.unusedVariables false

/-- What is needed behind more extents in front. -/
theorem need_app {E1 E2 : List Ex} {k : Int} {y : Ex} {a b : Int} (h : need E2 k = some (y, a, b)) :
    need (E1 ++ E2) k = some (y, if 4 < k then a + E1.length else a, if 6 < k then b + E1.length else b) := by
  rcases need_some h with ⟨hk, rfl, rfl, rfl⟩ | ⟨hk, hk2, e, he, hl, rfl, rfl, rfl⟩ | ⟨hk, e, f, he, hl, hs, hf, rfl, rfl, rfl⟩
  · rw [need_leaf hk, if_neg (by omega), if_neg (by omega)]
  · have h1 : (E1 ++ E2)[(E1 ++ E2).length - 1]? = some e := by
      rw [List.length_append, List.getElem?_append_right (by omega), show E1.length + E2.length - 1 - E1.length = E2.length - 1 by omega]; exact he
    rw [need_one hk hk2 h1, if_pos hk, if_neg (by omega), List.length_append]
    congr 3
    omega
  · have h1 : (E1 ++ E2)[(E1 ++ E2).length - 1]? = some e := by
      rw [List.length_append, List.getElem?_append_right (by omega), show E1.length + E2.length - 1 - E1.length = E2.length - 1 by omega]; exact he
    have h2 : (E1 ++ E2)[(E1 ++ E2).length - 1 - e.s]? = some f := by
      rw [List.length_append, List.getElem?_append_right (by omega), show E1.length + E2.length - 1 - e.s - E1.length = E2.length - 1 - e.s by omega]; exact hf
    rw [need_two hk h1 (by rw [List.length_append]; omega) h2, if_pos (by omega), if_pos hk, List.length_append]
    congr 3
    · omega
    · omega
theorem cnt_pos {k : Int} : 0 < cnt k ↔ 4 < k := by unfold cnt; repeat' split
                                                    all_goals omega
theorem cnt_two {k : Int} : 1 < cnt k ↔ 6 < k := by unfold cnt; repeat' split
                                                    all_goals omega
theorem shift_k (d : Int) (x : Nd) : (shift d x).k = x.k ∧ (shift d x).n = x.n ∧ (shift d x).p = x.p := ⟨rfl, rfl, rfl⟩
theorem shift_a (d : Int) (x : Nd) : (shift d x).a = if 4 < x.k then x.a + d else x.a := by
  show (if 0 < cnt x.k then x.a + d else x.a) = _
  by_cases h : 4 < x.k
  · rw [if_pos (cnt_pos.2 h), if_pos h]
  · rw [if_neg (fun h2 => h (cnt_pos.1 h2)), if_neg h]
theorem shift_b (d : Int) (x : Nd) : (shift d x).b = if 6 < x.k then x.b + d else x.b := by
  show (if 1 < cnt x.k then x.b + d else x.b) = _
  by_cases h : 6 < x.k
  · rw [if_pos (cnt_two.2 h), if_pos h]
  · rw [if_neg (fun h2 => h (cnt_two.1 h2)), if_neg h]
theorem shift_zero (x : Nd) : shift 0 x = x := by
  obtain ⟨k, n, a, b, p⟩ := x; simp [shift]
theorem shift_shift (d e : Int) (x : Nd) : shift d (shift e x) = shift (e + d) x := by
  obtain ⟨k, n, a, b, p⟩ := x
  simp only [shift, Nd.mk.injEq, true_and, and_true]
  constructor <;> split <;> omega
theorem shift_inj (d : Int) (x y : Nd) (h : shift d x = shift d y) : x = y := by
  have := congrArg (shift (-d)) h
  rw [shift_shift, shift_shift, show d + -d = 0 by omega, shift_zero, shift_zero] at this
  exact this
theorem map_shift_zero (L : List Nd) : L.map (shift 0) = L := by
  induction L with
  | nil => rfl
  | cons x r ih => rw [List.map_cons, shift_zero, ih]

/-- Nodes moved behind others. -/
theorem nextF_app {E1 E2 : List Ex} {x : Nd} {y : Ex} (h : nextF E2 x = some y) : nextF (E1 ++ E2) (shift E1.length x) = some y := by
  obtain ⟨h1, h2, h3⟩ := nextF_some h
  refine nextF_mk h1 h2 ?_
  rw [show (shift E1.length x).k = x.k from rfl, need_app h3, shift_a, shift_b]
theorem extG_shift (E1 : List Ex) : ∀ (L : List Nd) (E2 F : List Ex), extG E2 L = some F → extG (E1 ++ E2) (L.map (shift E1.length)) = some (E1 ++ F) := by
  intro L
  induction L with
  | nil => intro E2 F h; injection h with h; subst h; rfl
  | cons x r ih =>
    intro E2 F h
    rw [extG] at h
    cases hn : nextF E2 x with
    | none => rw [hn] at h; cases h
    | some y =>
      rw [hn] at h
      rw [List.map_cons, extG, nextF_app hn]
      simp only
      rw [List.append_assoc]
      exact ih _ _ h
theorem extF_join {L1 L2 : List Nd} {E1 E2 : List Ex} (h1 : extF L1 = some E1) (h2 : extF L2 = some E2) : extF (L1 ++ L2.map (shift L1.length)) = some (E1 ++ E2) := by
  unfold extF at *
  rw [extG_append, h1, Option.bind_some]
  have := extG_shift E1 L2 [] E2 h2
  rw [List.append_nil, show E1.length = L1.length from extF_length h1] at this
  exact this

/-! ### what lies within an expression -/
/-- The expressions of the nodes of an expression lie within it. -/
theorem within {L : List Nd} {E : List Ex} (h : Ext L E) (hz : SzOk E) : ∀ (i : Nat) (y : Ex), E[i]? = some y → ∀ (j : Nat) (z : Ex), j ≤ i → i + 1 ≤ j + y.s → E[j]? = some z → i + 1 + z.s ≤ j + 1 + y.s ∧ z.d ≤ y.d := by
  intro i
  induction i using Nat.strongRecOn with
  | ind i ih =>
    intro y hy j z hj hj2 hzj
    have hi : i < E.length := (List.getElem?_eq_some_iff.1 hy).1
    obtain ⟨x, hx⟩ : ∃ x, L[i]? = some x := ⟨_, List.getElem?_eq_getElem (by rw [← h.1]; exact hi)⟩
    rcases Nat.lt_or_ge j i with hji | hji
    · have hlen : (E.take i).length = i := by rw [List.length_take]; omega
      rcases need_some (nextF_some (h.2 i x y hx hy)).2.2 with ⟨_, rfl, _, _⟩ | ⟨_, _, e, he, hl, rfl, _, _⟩ | ⟨_, e, f, he, hl, hs, hf, rfl, _, _⟩
      · simp only at hj2; omega
      · rw [hlen] at he hl
        rw [List.getElem?_take, if_pos (by omega)] at he
        simp only at hj2 ⊢
        obtain ⟨h1, h2⟩ := ih (i - 1) (by omega) e he j z (by omega) (by omega) hzj
        omega
      · rw [hlen] at he hl hs hf
        rw [List.getElem?_take, if_pos (by omega)] at he
        rw [List.getElem?_take, if_pos (by omega)] at hf
        simp only at hj2 ⊢
        rcases Nat.lt_or_ge j (i - e.s) with hje | hje
        · obtain ⟨h1, h2⟩ := ih (i - 1 - e.s) (by omega) f hf j z (by omega) (by omega) hzj
          omega
        · obtain ⟨h1, h2⟩ := ih (i - 1) (by omega) e he j z (by omega) (by omega) hzj
          omega
    · obtain rfl : j = i := by omega
      rw [hy] at hzj
      injection hzj with hzj
      subst hzj
      omega


def depF (L : List Nd) : Int := match extF L with | none => 0 | some E => match E[L.length - 1]? with | none => 0 | some e => e.d
theorem depF_of {L : List Nd} {E : List Ex} {e : Ex} (h : extF L = some E) (he : E[L.length - 1]? = some e) : depF L = e.d := by
  unfold depF; rw [h]; simp only; rw [he]
def sizF (L : List Nd) (at_ : Nat) : Nat := match extF L with | none => 0 | some E => match E[at_]? with | none => 0 | some e => e.s
theorem sizF_of {L : List Nd} {E : List Ex} {e : Ex} {i : Nat} (h : extF L = some E) (he : E[i]? = some e) : sizF L i = e.s := by
  unfold sizF; rw [h]; simp only; rw [he]

/-- The expression of a node. -/
def cutF (L : List Nd) (i : Nat) : List Nd := ((L.drop (i + 1 - sizF L i)).take (sizF L i)).map (shift (-((i + 1 - sizF L i : Nat) : Int)))
theorem cutF_length {L : List Nd} {E : List Ex} {i : Nat} {y : Ex} (h : extF L = some E) (hy : E[i]? = some y) : (cutF L i).length = y.s := by
  have hz := extF_sz h _ _ hy
  have hi : i < L.length := by rw [← extF_length h]; exact (List.getElem?_eq_some_iff.1 hy).1
  unfold cutF
  rw [sizF_of h hy, List.length_map, List.length_take, List.length_drop]
  omega
theorem cutF_at {L : List Nd} {E : List Ex} {i : Nat} {y : Ex} (h : extF L = some E) (hy : E[i]? = some y) {j : Nat} {x' : Nd} (hx : (cutF L i)[j]? = some x') :
    ∃ x, L[i + 1 - y.s + j]? = some x ∧ x' = shift (-((i + 1 - y.s : Nat) : Int)) x ∧ j < y.s := by
  have hl := (List.getElem?_eq_some_iff.1 hx).1
  rw [cutF_length h hy] at hl
  unfold cutF at hx
  rw [sizF_of h hy, List.getElem?_map, List.getElem?_take, if_pos hl, List.getElem?_drop] at hx
  cases hv : L[i + 1 - y.s + j]? with
  | none => rw [hv] at hx; cases hx
  | some x =>
    rw [hv, Option.map_some] at hx
    injection hx with hx
    exact ⟨x, rfl, hx.symm, hl⟩
theorem cut_ext {L : List Nd} {E : List Ex} {i : Nat} {y : Ex} (h : extF L = some E) (hy : E[i]? = some y) : extF (cutF L i) = some ((E.drop (i + 1 - y.s)).take y.s) := by
  have hz := extF_sz h
  have hX := Ext.of h
  obtain ⟨z1, z2, z3, z4⟩ := hz _ _ hy
  have hi : i < E.length := (List.getElem?_eq_some_iff.1 hy).1
  obtain ⟨f, hf⟩ : ∃ f, i + 1 - y.s = f := ⟨_, rfl⟩
  have hEx : Ext (cutF L i) ((E.drop f).take y.s) := by
    refine ⟨by rw [cutF_length h hy, List.length_take, List.length_drop]; omega, fun j x' z hx hzz => ?_⟩
    obtain ⟨x, hxL, rfl, hjs⟩ := cutF_at h hy hx
    clear hx
    rw [hf] at hxL ⊢
    rw [List.getElem?_take, if_pos hjs, List.getElem?_drop] at hzz
    have hn := nextF_some (hX.2 _ _ _ hxL hzz)
    obtain ⟨w1, w2⟩ := within hX hz i y hy (f + j) z (by omega) (by omega) hzz
    have hsp : E.take (f + j) = E.take f ++ ((E.drop f).take y.s).take j := by
      rw [List.take_add, List.take_take, Nat.min_eq_left (by omega)]
    have hfl : (E.take f).length = f := by rw [List.length_take]; omega
    have hjl : (((E.drop f).take y.s).take j).length = j := by rw [List.length_take, List.length_take, List.length_drop]; omega
    have get : ∀ q, q < j → (((E.drop f).take y.s).take j)[q]? = E[f + q]? := by
      intro q hq
      rw [List.getElem?_take, if_pos hq, List.getElem?_take, if_pos (by omega), List.getElem?_drop]
    have hlen : (E.take (f + j)).length = f + j := by rw [List.length_take]; omega
    obtain ⟨a2, b2, hneed⟩ : ∃ a2 b2, need (((E.drop f).take y.s).take j) x.k = some (z, a2, b2) := by
      rcases need_some hn.2.2 with ⟨hk, rfl, _, _⟩ | ⟨hk, hk2, e, he, hl, rfl, _, _⟩ | ⟨hk, e, g, he, hl, hs, hg, rfl, _, _⟩
      · exact ⟨_, _, need_leaf hk⟩
      · rw [hlen] at he hl
        rw [List.getElem?_take, if_pos (by omega)] at he
        have := hz _ _ he
        simp only at w1
        exact ⟨_, _, need_one hk hk2 (by rw [hjl, get _ (by omega), show f + (j - 1) = f + j - 1 by omega]; exact he)⟩
      · rw [hlen] at he hl hs hg
        rw [List.getElem?_take, if_pos (by omega)] at he hg
        have h5 := hz _ _ he
        have h6 := hz _ _ hg
        simp only at w1
        exact ⟨_, _, need_two hk (by rw [hjl, get _ (by omega), show f + (j - 1) = f + j - 1 by omega]; exact he) (by rw [hjl]; omega) (by rw [hjl, get _ (by omega), show f + (j - 1 - e.s) = f + j - 1 - e.s by omega]; exact hg)⟩
    have h7 := need_app (E1 := E.take f) hneed
    rw [← hsp, hfl, hn.2.2] at h7
    injection h7 with h7
    injection h7 with _ h7
    injection h7 with h8 h9
    refine nextF_mk hn.1 hn.2.1 ?_
    rw [show (shift (-(f : Int)) x).k = x.k from rfl, hneed, shift_a, shift_b]
    congr 3
    · split <;> rename_i h4
      · rw [if_pos h4] at h8; omega
      · rw [if_neg h4] at h8; exact h8.symm
    · split <;> rename_i h4
      · rw [if_pos h4] at h9; omega
      · rw [if_neg h4] at h9; exact h9.symm
  rw [hf]
  exact hEx.ext
theorem Good4.ext {L : List Nd} {E : List Ex} (h : Good4 L E) : extF L = some E := h.2.2.1
theorem Good4.at_ {L : List Nd} {E : List Ex} (h : Good4 L E) {i : Nat} (hi : i < L.length) : ∃ y, E[i]? = some y ∧ 1 ≤ y.s ∧ y.s ≤ i + 1 ∧ 1 ≤ y.d ∧ y.d ≤ y.s ∧ y.d ≤ depF L ∧ y.d ≤ 20 := by
  have hE := h.ext
  have hl := extF_length hE
  obtain ⟨y, hy⟩ : ∃ y, E[i]? = some y := ⟨_, List.getElem?_eq_getElem (by omega)⟩
  obtain ⟨z1, z2, z3, z4⟩ := extF_sz hE _ _ hy
  obtain ⟨_, _, _, e, he, hs, hd⟩ := h
  have := within (Ext.of hE) (extF_sz hE) _ e he i y (by omega) (by omega) hy
  rw [depF_of hE he]
  exact ⟨y, hy, z1, z2, z3, z4, by omega, by omega⟩
theorem cut_good {L : List Nd} {E : List Ex} (h : Good4 L E) {i : Nat} {y : Ex} (hy : E[i]? = some y) : Good4 (cutF L i) ((E.drop (i + 1 - y.s)).take y.s) ∧ depF (cutF L i) = y.d := by
  have hE := h.ext
  have hi : i < L.length := by rw [← extF_length hE]; exact (List.getElem?_eq_some_iff.1 hy).1
  obtain ⟨y', hy', z1, z2, z3, z4, z5, z6⟩ := h.at_ hi
  obtain rfl : y' = y := Option.some.inj (hy'.symm.trans hy)
  have hl := cutF_length hE hy
  have hc := cut_ext hE hy
  have hlast : ((E.drop (i + 1 - y'.s)).take y'.s)[(cutF L i).length - 1]? = some y' := by
    rw [hl, List.getElem?_take, if_pos (by omega), List.getElem?_drop, show i + 1 - y'.s + (y'.s - 1) = i by omega]; exact hy
  exact ⟨⟨by intro h0; rw [h0] at hl; simp at hl; omega, by have := h.2.1; omega, hc, y', hlast, hl.symm, z6⟩, depF_of hc hlast⟩
theorem cut_whole {L : List Nd} {E : List Ex} (h : Good4 L E) : cutF L (L.length - 1) = L ∧ sizF L (L.length - 1) = L.length := by
  obtain ⟨h0, _, hE, e, he, hs, hd⟩ := h
  have hp := List.length_pos_iff.2 h0
  have hz := sizF_of hE he
  rw [hs] at hz
  refine ⟨?_, hz⟩
  unfold cutF
  rw [hz, show L.length - 1 + 1 - L.length = 0 by omega, List.drop_zero, List.take_length]
  exact map_shift_zero L

/-- A node, and the nodes of its parts. -/
theorem node_facts {L : List Nd} {E : List Ex} (h : extF L = some E) {i : Nat} {x : Nd} (hx : L[i]? = some x) :
    okK x.k = true ∧ fitsF x.k x.n x.p = true ∧
    ((x.k ≤ 4 ∧ sizF L i = 1 ∧ x.a = 0 ∧ x.b = 0) ∨
     (4 < x.k ∧ x.k ≤ 6 ∧ ∃ i1 s1, i = i1 + 1 ∧ x.a = (i1 : Nat) ∧ x.b = 0 ∧ sizF L i1 = s1 ∧ 1 ≤ s1 ∧ s1 ≤ i1 + 1 ∧ sizF L i = 1 + s1) ∨
     (6 < x.k ∧ ∃ i1 s1 s2, i = i1 + s2 + 1 ∧ x.a = (i1 : Nat) ∧ x.b = (i1 : Nat) + (s2 : Nat) ∧ sizF L i1 = s1 ∧ sizF L (i1 + s2) = s2 ∧ 1 ≤ s1 ∧ s1 ≤ i1 + 1 ∧ 1 ≤ s2 ∧ sizF L i = 1 + s2 + s1)) := by
  have hz := extF_sz h
  have hX := Ext.of h
  have hi : i < E.length := by rw [hX.1]; exact (List.getElem?_eq_some_iff.1 hx).1
  obtain ⟨y, hy⟩ : ∃ y, E[i]? = some y := ⟨_, List.getElem?_eq_getElem hi⟩
  have hn := nextF_some (hX.2 _ _ _ hx hy)
  have hlen : (E.take i).length = i := by rw [List.length_take]; omega
  refine ⟨hn.1, hn.2.1, ?_⟩
  rcases need_some hn.2.2 with ⟨hk, rfl, h1, h2⟩ | ⟨hk, hk2, e, he, hl, rfl, h1, h2⟩ | ⟨hk, e, f, he, hl, hs, hf, rfl, h1, h2⟩
  · exact .inl ⟨hk, sizF_of h hy, h1, h2⟩
  · rw [hlen] at he hl h1
    rw [List.getElem?_take, if_pos (by omega)] at he
    have := hz _ _ he
    exact .inr (.inl ⟨hk, hk2, i - 1, e.s, by omega, by omega, h2, sizF_of h he, by omega, by omega, sizF_of h hy⟩)
  · rw [hlen] at he hl hs hf h1 h2
    rw [List.getElem?_take, if_pos (by omega)] at he hf
    have h3 := hz _ _ he
    have h4 := hz _ _ hf
    exact .inr (.inr ⟨hk, i - 1 - e.s, f.s, e.s, by omega, by omega, by omega, sizF_of h hf, by rw [show i - 1 - e.s + e.s = i - 1 by omega]; exact sizF_of h he, by omega, by omega, by omega, sizF_of h hy⟩)

/-! ### made of parts -/
def made0 (k n p : Int) : List Nd := [⟨k, n, 0, 0, p⟩]
def made1 (k n p : Int) (P : List Nd) : List Nd := P.map (shift 0) ++ [⟨k, n, (P.length : Int) - 1, 0, p⟩]
def made2 (k n p : Int) (P Q : List Nd) : List Nd := P.map (shift 0) ++ Q.map (shift P.length) ++ [⟨k, n, (P.length : Int) - 1, (P.length : Int) + Q.length - 1, p⟩]
theorem drop_take_at (L : List Nd) (f : Nat) (x : Nd) (h : L[f]? = some x) : (L.drop f).take 1 = [x] := by
  obtain ⟨h1, h2⟩ := List.getElem?_eq_some_iff.1 h
  rw [List.drop_eq_getElem_cons h1, h2]
  rfl
theorem cut_made {L : List Nd} {E : List Ex} (h : extF L = some E) {i : Nat} {x : Nd} (hx : L[i]? = some x) :
    (x.k ≤ 4 → cutF L i = made0 x.k x.n x.p) ∧ (∀ i1 : Nat, 4 < x.k → x.k ≤ 6 → x.a = i1 → cutF L i = made1 x.k x.n x.p (cutF L i1)) ∧
    (∀ i1 i2 : Nat, 6 < x.k → x.a = i1 → x.b = i2 → cutF L i = made2 x.k x.n x.p (cutF L i1) (cutF L i2)) := by
  have hl := (List.getElem?_eq_some_iff.1 hx).1
  rcases (node_facts h hx).2.2 with ⟨hk, hs, h1, h2⟩ | ⟨hk, hk2, i1, s1, hi, h1, h2, hs1, hp, hle, hs⟩ | ⟨hk, i1, s1, s2, hi, h1, h2, hs1, hs2, hp, hle, hp2, hs⟩
  · refine ⟨fun _ => ?_, fun _ h => by omega, fun _ _ h => by omega⟩
    unfold cutF
    rw [hs, show i + 1 - 1 = i by omega, drop_take_at L i x hx]
    obtain ⟨k, n, a, b, p⟩ := x
    simp only at hk h1 h2
    subst h1 h2
    simp [made0, shift, cnt, hk]
  · refine ⟨fun h => by omega, fun j1 _ _ hj => ?_, fun _ _ h => by omega⟩
    obtain rfl : j1 = i1 := by omega
    unfold cutF
    rw [hs, hs1, show i + 1 - (1 + s1) = j1 + 1 - s1 by omega, Nat.add_comm 1 s1, List.take_add, List.drop_drop, show j1 + 1 - s1 + s1 = i by omega, drop_take_at L i x hx, List.map_append]
    unfold made1
    rw [List.map_map]
    have hlen : (((L.drop (j1 + 1 - s1)).take s1).map (shift (-((j1 + 1 - s1 : Nat) : Int)))).length = s1 := by rw [List.length_map, List.length_take, List.length_drop]; omega
    rw [hlen]
    congr 1
    · apply List.map_congr_left
      intro z _
      rw [Function.comp, shift_zero]
    · rw [List.map_singleton]
      congr 1
      obtain ⟨k, n, a, b, p⟩ := x
      simp only at hk hk2 h1 h2
      have e1 := shift_a (-((j1 + 1 - s1 : Nat) : Int)) ⟨k, n, a, b, p⟩
      have e2 := shift_b (-((j1 + 1 - s1 : Nat) : Int)) ⟨k, n, a, b, p⟩
      simp only at e1 e2
      rw [if_pos hk] at e1
      rw [if_neg (by omega)] at e2
      have : shift (-((j1 + 1 - s1 : Nat) : Int)) ⟨k, n, a, b, p⟩ = ⟨k, n, (shift (-((j1 + 1 - s1 : Nat) : Int)) ⟨k, n, a, b, p⟩).a, (shift (-((j1 + 1 - s1 : Nat) : Int)) ⟨k, n, a, b, p⟩).b, p⟩ := rfl
      rw [this, e1, e2]
      congr 1
      omega
  · refine ⟨fun h => by omega, fun _ h => by omega, fun j1 j2 _ hj hj2 => ?_⟩
    obtain rfl : j1 = i1 := by omega
    obtain rfl : j2 = j1 + s2 := by omega
    unfold cutF
    rw [hs, hs1, hs2, show i + 1 - (1 + s2 + s1) = j1 + 1 - s1 by omega, show 1 + s2 + s1 = s1 + (s2 + 1) by omega, List.take_add, List.drop_drop, show j1 + 1 - s1 + s1 = j1 + 1 by omega, List.take_add, List.drop_drop, show j1 + 1 + s2 = i by omega, drop_take_at L i x hx, List.map_append, List.map_append]
    unfold made2
    rw [List.map_map, List.map_map]
    have hlen : (((L.drop (j1 + 1 - s1)).take s1).map (shift (-((j1 + 1 - s1 : Nat) : Int)))).length = s1 := by rw [List.length_map, List.length_take, List.length_drop]; omega
    have hlen2 : (((L.drop (j1 + s2 + 1 - s2)).take s2).map (shift (-((j1 + s2 + 1 - s2 : Nat) : Int)))).length = s2 := by rw [List.length_map, List.length_take, List.length_drop]; omega
    rw [hlen, hlen2, ← List.append_assoc]
    congr 1
    · congr 1
      · apply List.map_congr_left
        intro z _
        rw [Function.comp, shift_zero]
      · rw [show j1 + s2 + 1 - s2 = j1 + 1 by omega]
        apply List.map_congr_left
        intro z _
        rw [Function.comp, shift_shift]
        congr 1
        omega
    · rw [List.map_singleton]
      congr 1
      obtain ⟨k, n, a, b, p⟩ := x
      simp only at hk h1 h2
      have e1 := shift_a (-((j1 + 1 - s1 : Nat) : Int)) ⟨k, n, a, b, p⟩
      have e2 := shift_b (-((j1 + 1 - s1 : Nat) : Int)) ⟨k, n, a, b, p⟩
      simp only at e1 e2
      rw [if_pos (by omega)] at e1
      rw [if_pos hk] at e2
      have : shift (-((j1 + 1 - s1 : Nat) : Int)) ⟨k, n, a, b, p⟩ = ⟨k, n, (shift (-((j1 + 1 - s1 : Nat) : Int)) ⟨k, n, a, b, p⟩).a, (shift (-((j1 + 1 - s1 : Nat) : Int)) ⟨k, n, a, b, p⟩).b, p⟩ := rfl
      rw [this, e1, e2]
      congr 1 <;> omega
end Go.Proofs.Ytaijhkfbfkdepaa.N4
