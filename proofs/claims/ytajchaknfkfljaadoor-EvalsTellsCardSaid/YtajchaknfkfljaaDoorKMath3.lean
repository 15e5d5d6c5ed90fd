
/- Expressions of parts, and expressions with other leaves: what kinds tells of them, in plain mathematics. -/
import Derived.Test.YtajchaknfkfljaaDoorKMath2
namespace Go.Proofs.YtajchaknfkfljaaDoor.K6
open N4
set_option linter.unusedVariables false

theorem fit_shift {Q : List Nd} {E : List Ex} (h : extF Q = some E) {j : Nat} {x : Nd} (hx : Q[j]? = some x) {M : List Nd} {d : Int} (hk : ∀ (i1 : Nat) (y : Nd), Q[i1]? = some y → kAt M (i1 + d) = y.k) :
    fitN M (shift d x) = fitN Q x := by
  rcases (node_parts h hx).2.2 with hk4 | ⟨h4, h6, i1, y, ha, _, _, hy⟩ | ⟨h6, i1, i2, y, z, ha, hb, _, _, hy, hz⟩
  · rw [fit_leaf (show (shift d x).k ≤ 4 from hk4), fit_leaf hk4]
  · rw [fit_one h4 h6 ha hy false]
    unfold fitN
    rw [shift_a, if_pos h4, ha, hk i1 y hy]
    exact fitK_one h4 h6 _ _ _
  · rw [fit_two ha hb hy hz]
    unfold fitN
    rw [shift_a, shift_b, if_pos (by omega), if_pos h6, ha, hb, hk i1 y hy, hk i2 z hz]
    rfl
theorem check_vals {L : List Nd} {E : List Ex} {y : Ex} (h : extF L = some E) (hy : E[L.length - 1]? = some y) (hs : y.s = L.length) : checkF L = 0 ∨ checkF L = 4 ∨ checkF L = 34 := by
  unfold checkF
  split
  · exact .inr (.inl rfl)
  · rw [h]
    simp only [checkE]
    rw [hy]
    simp only
    rw [if_neg (by omega)]
    split
    · exact .inr (.inr rfl)
    · exact .inl rfl
theorem good_last {L : List Nd} {E : List Ex} (hg : Good4 L E) : ∃ e, E[E.length - 1]? = some e ∧ e.s = L.length ∧ E.length = L.length ∧ 1 ≤ L.length := by
  obtain ⟨h1, _, h3, e, he, hs, _⟩ := hg
  have hl := extF_length h3
  have hp := List.length_pos_iff.2 h1
  exact ⟨e, by rw [hl]; exact he, hs, hl, hp⟩

section one
variable {P : List Nd} {E : List Ex} {k : Int}
theorem made1_len : (made1 k 0 0 P).length = P.length + 1 := by simp [made1]
theorem made1_check (hg : Good4 P E) (h4 : 4 < k) (h6 : k ≤ 6) : checkF (made1 k 0 0 P) = 0 ∨ checkF (made1 k 0 0 P) = 4 ∨ checkF (made1 k 0 0 P) = 34 := by
  obtain ⟨e, he, hs, hl, hp⟩ := good_last hg
  have hn : nextF E ⟨k, 0, (P.length : Int) - 1, 0, 0⟩ = some ⟨1 + e.s, e.d + 1⟩ :=
    nextF_mk (by simp [okK]; omega) (by simp [fitsF]) (by rw [← hl]; exact need_one h4 h6 he)
  have hx : extF (made1 k 0 0 P) = some (E ++ [⟨1 + e.s, e.d + 1⟩]) := by
    unfold made1
    rw [map_shift_zero, extF_snoc hg.ext, hn]
    rfl
  refine check_vals hx (y := ⟨1 + e.s, e.d + 1⟩) ?_ ?_
  · rw [made1_len, Nat.add_sub_cancel, ← hl]
    exact List.getElem?_concat_length
  · rw [made1_len]; show 1 + e.s = _; omega
theorem made1_of (hg : Good4 P E) (h4 : 4 < k) (h6 : k ≤ 6) {t : Bool} {m : Int} (ho : ofF P = (t, m, 0)) (hc : checkF (made1 k 0 0 P) = 0) :
    ofF (made1 k 0 0 P) = if fitK k t false = true then (gvK k, (P.length : Int), 0) else (false, (P.length : Int), 42) := by
  rcases of_cases P with ⟨v, h1, h2, h3⟩ | ⟨_, _, _, _, _, _, _, h3⟩ | ⟨n, x, h1, h2, h3, hx, h5⟩
  · rw [h3] at ho
    injection ho with _ ho; injection ho with _ ho
    exact absurd ho h2
  · rw [h3] at ho
    injection ho with _ ho; injection ho with _ ho
    cases ho
  · rw [h5] at ho
    injection ho with ht _
    have hE := hg.ext
    have hat : ∀ j : Nat, j < P.length → (made1 k 0 0 P)[j]? = P[j]? := by
      intro j hj
      unfold made1
      rw [map_shift_zero, List.getElem?_append_left hj]
    have hla : (made1 k 0 0 P)[P.length]? = some ⟨k, 0, (P.length : Int) - 1, 0, 0⟩ := by
      unfold made1
      rw [map_shift_zero]
      exact List.getElem?_concat_length
    have hfit : ∀ (j : Nat) (y : Nd), j < P.length → (made1 k 0 0 P)[j]? = some y → fitN (made1 k 0 0 P) y = true := by
      intro j y hj hy
      rw [hat j hj] at hy
      have := fit_shift (M := made1 k 0 0 P) (d := 0) hE hy (by
        intro i1 z hz
        rw [Int.add_zero]
        exact kAt_nat ((hat i1 (List.getElem?_eq_some_iff.1 hz).1).trans hz))
      rw [shift_zero] at this
      rw [this]
      exact fit_before (by omega) hy
    have hlast : fitN (made1 k 0 0 P) ⟨k, 0, (P.length : Int) - 1, 0, 0⟩ = fitK k t false := by
      rw [← ht]
      exact fit_one (i1 := n) (y := x) h4 h6 (by show (P.length : Int) - 1 = n; omega) ((hat n (by omega)).trans hx) false
    cases hv : fitK k t false
    · rw [if_neg (by simp)]
      exact of_wrong hc (wrong_at hfit hla (hlast.trans hv)) (by rw [made1_len]; omega)
    · rw [if_pos rfl]
      refine of_at (n := P.length) hc ?_ made1_len hla
      rw [← made1_len (k := k)]
      refine wrong_all fun j y hj hy => ?_
      rcases Nat.lt_or_ge j P.length with h | h
      · exact hfit j y h hy
      · obtain rfl : j = P.length := by rw [made1_len] at hj; omega
        rw [hla] at hy
        injection hy with hy
        rw [← hy]
        exact hlast.trans hv
end one

section two
variable {P Q : List Nd} {E F : List Ex} {k : Int}
theorem made2_len : (made2 k 0 0 P Q).length = P.length + Q.length + 1 := by simp [made2]; omega
theorem made2_check (hg : Good4 P E) (hq : Good4 Q F) (h6 : 6 < k) (h19 : k ≤ 19) : checkF (made2 k 0 0 P Q) = 0 ∨ checkF (made2 k 0 0 P Q) = 4 ∨ checkF (made2 k 0 0 P Q) = 34 := by
  obtain ⟨e, he, hs, hl, hp⟩ := good_last hg
  obtain ⟨f, hf, hs2, hl2, hp2⟩ := good_last hq
  have hj := extF_join hg.ext hq.ext
  have hlen : (E ++ F).length = P.length + Q.length := by rw [List.length_append]; omega
  have hn : nextF (E ++ F) ⟨k, 0, (P.length : Int) - 1, (P.length : Int) + Q.length - 1, 0⟩ = some ⟨1 + f.s + e.s, max (f.d + 1) (e.d + 1)⟩ := by
    refine nextF_mk (by simp [okK]; omega) (by simp [fitsF]) ?_
    have := need_two (E := E ++ F) (k := k) (e := f) (f := e) h6 (by rw [hlen, List.getElem?_append_right (by omega), ← hf]; congr 1; omega) (by omega) (by rw [hlen, List.getElem?_append_left (by omega), ← he]; congr 1; omega)
    rw [this]
    refine congrArg some (Prod.ext rfl (Prod.ext ?_ ?_))
    · show ((E ++ F).length : Int) - 1 - f.s = (P.length : Int) - 1; omega
    · show ((E ++ F).length : Int) - 1 = (P.length : Int) + Q.length - 1; omega
  have hx : extF (made2 k 0 0 P Q) = some (E ++ F ++ [⟨1 + f.s + e.s, max (f.d + 1) (e.d + 1)⟩]) := by
    unfold made2
    rw [map_shift_zero, extF_snoc hj, hn]
    rfl
  refine check_vals hx (y := ⟨1 + f.s + e.s, max (f.d + 1) (e.d + 1)⟩) ?_ ?_
  · rw [made2_len, Nat.add_sub_cancel, ← hlen]
    exact List.getElem?_concat_length
  · rw [made2_len]; show 1 + f.s + e.s = _; omega
theorem typed_last {L : List Nd} {t : Bool} {m : Int} (ho : ofF L = (t, m, 0)) : ∃ n x, checkF L = 0 ∧ wrongF L = n + 1 ∧ L.length = n + 1 ∧ L[n]? = some x ∧ gvK x.k = t ∧ m = n := by
  rcases of_cases L with ⟨v, h1, h2, h3⟩ | ⟨_, _, _, _, _, _, _, h3⟩ | ⟨n, x, h1, h2, h3, hx, h5⟩
  · rw [h3] at ho
    injection ho with _ ho; injection ho with _ ho
    exact absurd ho h2
  · rw [h3] at ho
    injection ho with _ ho; injection ho with _ ho
    cases ho
  · rw [h5] at ho
    injection ho with ht ho
    injection ho with hm _
    exact ⟨n, x, h1, h2, h3, hx, ht, hm.symm⟩
theorem made2_of (hg : Good4 P E) (hq : Good4 Q F) (h6 : 6 < k) {t u : Bool} {m m2 : Int} (ho : ofF P = (t, m, 0)) (ho2 : ofF Q = (u, m2, 0)) (hc : checkF (made2 k 0 0 P Q) = 0) :
    ofF (made2 k 0 0 P Q) = if fitK k t u = true then (gvK k, (P.length : Int) + Q.length, 0) else (false, (P.length : Int) + Q.length, 42) := by
  obtain ⟨n, x, _, h2, h3, hx, ht, _⟩ := typed_last ho
  obtain ⟨n2, x2, _, g2, g3, hx2, ht2, _⟩ := typed_last ho2
  have hat : ∀ j : Nat, j < P.length → (made2 k 0 0 P Q)[j]? = P[j]? := by
    intro j hj
    unfold made2
    rw [map_shift_zero, List.append_assoc, List.getElem?_append_left hj]
  have haq : ∀ j : Nat, j < Q.length → (made2 k 0 0 P Q)[P.length + j]? = (Q[j]?).map (shift P.length) := by
    intro j hj
    unfold made2
    rw [map_shift_zero, List.append_assoc, List.getElem?_append_right (by omega), Nat.add_sub_cancel_left, List.getElem?_append_left (by simpa using hj), List.getElem?_map]
  have hla : (made2 k 0 0 P Q)[P.length + Q.length]? = some ⟨k, 0, (P.length : Int) - 1, (P.length : Int) + Q.length - 1, 0⟩ := by
    unfold made2
    rw [map_shift_zero, List.getElem?_append_right (by simp)]
    simp
  have kq : ∀ (i1 : Nat) (z : Nd), Q[i1]? = some z → kAt (made2 k 0 0 P Q) (i1 + (P.length : Int)) = z.k := by
    intro i1 z hz
    have := haq i1 (List.getElem?_eq_some_iff.1 hz).1
    rw [hz] at this
    rw [kAt_int (i := P.length + i1) (by omega) this]
    rfl
  have hfit : ∀ (j : Nat) (y : Nd), j < P.length + Q.length → (made2 k 0 0 P Q)[j]? = some y → fitN (made2 k 0 0 P Q) y = true := by
    intro j y hj hy
    rcases Nat.lt_or_ge j P.length with h | h
    · rw [hat j h] at hy
      have := fit_shift (M := made2 k 0 0 P Q) (d := 0) hg.ext hy (by
        intro i1 z hz
        rw [Int.add_zero]
        exact kAt_nat ((hat i1 (List.getElem?_eq_some_iff.1 hz).1).trans hz))
      rw [shift_zero] at this
      rw [this]
      exact fit_before (by omega) hy
    · obtain ⟨j2, rfl⟩ : ∃ j2, j = P.length + j2 := ⟨j - P.length, by omega⟩
      rw [haq j2 (by omega)] at hy
      obtain ⟨y2, hy2⟩ : ∃ y2, Q[j2]? = some y2 := ⟨_, List.getElem?_eq_getElem (by omega)⟩
      rw [hy2] at hy
      injection hy with hy
      rw [← hy, fit_shift hq.ext hy2 kq]
      exact fit_before (by omega) hy2
  have hlast : fitN (made2 k 0 0 P Q) ⟨k, 0, (P.length : Int) - 1, (P.length : Int) + Q.length - 1, 0⟩ = fitK k t u := by
    unfold fitN
    rw [kAt_int (L := made2 k 0 0 P Q) (i := n) (by show (P.length : Int) - 1 = n; omega) ((hat n (by omega)).trans hx), ht]
    rw [show ((⟨k, 0, (P.length : Int) - 1, (P.length : Int) + Q.length - 1, 0⟩ : Nd).b) = (n2 : Int) + (P.length : Int) by show (P.length : Int) + Q.length - 1 = _; omega, kq n2 x2 hx2, ht2]
  cases hv : fitK k t u
  · rw [if_neg (by simp)]
    have := of_wrong hc (wrong_at hfit hla (hlast.trans hv)) (by rw [made2_len]; omega)
    rw [this]
    simp
  · rw [if_pos rfl]
    have := of_at (n := P.length + Q.length) hc ?_ made2_len hla
    · rw [this]; simp
    · rw [← made2_len (k := k)]
      refine wrong_all fun j y hj hy => ?_
      rcases Nat.lt_or_ge j (P.length + Q.length) with h | h
      · exact hfit j y h hy
      · obtain rfl : j = P.length + Q.length := by rw [made2_len] at hj; omega
        rw [hla] at hy
        injection hy with hy
        rw [← hy]
        exact hlast.trans hv
end two

/-! ### other leaves, other places -/
def relf (lf q : Int) (x : Nd) : Nd := if x.k ≤ 4 then ⟨lf, 0, x.a, x.b, q⟩ else ⟨x.k, x.n, x.a, x.b, q⟩
theorem nextF_relf {lf q : Int} (hl1 : 1 ≤ lf) (hl4 : lf ≤ 4) (hq0 : 0 ≤ q) (hq4 : q ≤ 400) {E : List Ex} {x : Nd} {y : Ex} (h : nextF E x = some y) : nextF E (relf lf q x) = some y := by
  obtain ⟨h1, h2, h3⟩ := nextF_some h
  unfold relf
  split
  · rename_i hk
    refine nextF_mk (by simp [okK]; omega) (by simp [fitsF]; omega) ?_
    show need E lf = some (y, x.a, x.b)
    rw [need_leaf hk] at h3
    rw [need_leaf hl4]
    exact h3
  · refine nextF_mk h1 ?_ h3
    unfold fitsF at h2 ⊢
    simp only [Bool.and_eq_true, Bool.or_eq_true, decide_eq_true_eq] at h2 ⊢
    exact ⟨⟨h2.1.1, hq0⟩, hq4⟩
theorem extG_relf {lf q : Int} (hl1 : 1 ≤ lf) (hl4 : lf ≤ 4) (hq0 : 0 ≤ q) (hq4 : q ≤ 400) : ∀ (L : List Nd) (E F : List Ex), extG E L = some F → extG E (L.map (relf lf q)) = some F := by
  intro L
  induction L with
  | nil => intro E F h; exact h
  | cons x r ih =>
    intro E F h
    rw [extG] at h
    rw [List.map_cons, extG]
    cases hn : nextF E x with
    | none => rw [hn] at h; cases h
    | some y =>
      rw [hn] at h
      rw [nextF_relf hl1 hl4 hq0 hq4 hn]
      exact ih _ _ h
theorem good_relf {lf q : Int} (hl1 : 1 ≤ lf) (hl4 : lf ≤ 4) (hq0 : 0 ≤ q) (hq4 : q ≤ 400) {L : List Nd} {E : List Ex} (h : Good4 L E) : Good4 (L.map (relf lf q)) E := by
  obtain ⟨h1, h2, h3, e, h4, h5, h6⟩ := h
  refine ⟨by simpa using h1, by simpa using h2, extG_relf hl1 hl4 hq0 hq4 _ _ _ h3, e, by simpa using h4, by simpa using h5, h6⟩
theorem gv_relf {lf q : Int} (hl1 : 1 ≤ lf) (hl4 : lf ≤ 4) {x : Nd} (h1 : 1 ≤ x.k) : gvK (relf lf q x).k = gvK x.k := by
  unfold relf
  split
  · rename_i hk
    show gvK lf = gvK x.k
    unfold gvK
    rw [decide_eq_false (by omega), decide_eq_false (by omega), decide_eq_false (by omega), decide_eq_false (by omega)]
  · rfl
theorem relf_of {lf q : Int} (hl1 : 1 ≤ lf) (hl4 : lf ≤ 4) (hq0 : 0 ≤ q) (hq4 : q ≤ 400) {L : List Nd} {E : List Ex} (hg : Good4 L E) : ofF (L.map (relf lf q)) = ofF L := by
  have hE := hg.ext
  have hc := checkF_ok hg
  have hc2 := checkF_ok (good_relf hl1 hl4 hq0 hq4 hg)
  have hat : ∀ (j : Nat) (x : Nd), L[j]? = some x → (L.map (relf lf q))[j]? = some (relf lf q x) := by
    intro j x hx
    rw [List.getElem?_map, hx]
    rfl
  have hfit : ∀ (j : Nat) (x : Nd), L[j]? = some x → fitN (L.map (relf lf q)) (relf lf q x) = fitN L x := by
    intro j x hx
    obtain ⟨i1, i2, y, z, ha, hb, hy, hz⟩ := node_ab hE hx
    obtain ⟨p1, _⟩ := node_parts hE hy
    obtain ⟨p2, _⟩ := node_parts hE hz
    have e1 : (relf lf q x).a = i1 := by rw [← ha]; unfold relf; split <;> rfl
    have e2 : (relf lf q x).b = i2 := by rw [← hb]; unfold relf; split <;> rfl
    rw [fit_two e1 e2 (hat _ _ hy) (hat _ _ hz), fit_two ha hb hy hz, gv_relf hl1 hl4 p1, gv_relf hl1 hl4 p2]
    by_cases hk : x.k ≤ 4
    · have e3 : (relf lf q x).k = lf := by unfold relf; rw [if_pos hk]
      unfold fitK
      rw [e3, if_pos hl4, if_pos hk]
    · have e3 : (relf lf q x).k = x.k := by unfold relf; rw [if_neg hk]
      rw [e3]
  have hback : ∀ (j : Nat) (y : Nd), (L.map (relf lf q))[j]? = some y → ∃ x, L[j]? = some x ∧ y = relf lf q x := by
    intro j y hy
    rw [List.getElem?_map] at hy
    cases hx : L[j]? with
    | none => rw [hx] at hy; cases hy
    | some x => rw [hx] at hy; injection hy with hy; exact ⟨x, rfl, hy.symm⟩
  rcases of_cases L with ⟨v, h1, h2, h3⟩ | ⟨k, x, h1, h2, h3, h4, h5, h6⟩ | ⟨n, x, h1, h2, h3, hx, h5⟩
  · exact absurd (h1.symm.trans hc) h2
  · rw [h6]
    refine of_wrong hc2 (wrong_at (fun j y hj hy => ?_) (hat _ _ h4) ((hfit _ _ h4).trans h5)) (by simpa using h3)
    obtain ⟨x', hx', rfl⟩ := hback j y hy
    rw [hfit _ _ hx']
    exact fit_before (by omega) hx'
  · rw [h5]
    have hw : wrongF (L.map (relf lf q)) = n + 1 := by
      have hlm : (L.map (relf lf q)).length = n + 1 := by rw [List.length_map, h3]
      rw [← hlm]
      refine wrong_all fun j y hj hy => ?_
      obtain ⟨x', hx', rfl⟩ := hback j y hy
      rw [hfit _ _ hx']
      exact fit_before (by have := (List.getElem?_eq_some_iff.1 hx').1; omega) hx'
    rw [of_at hc2 hw (by simpa using h3) (hat _ _ hx), gv_relf hl1 hl4 (node_parts hE hx).1]
end Go.Proofs.YtajchaknfkfljaaDoor.K6
