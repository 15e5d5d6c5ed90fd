
/- Parts, made expressions and other leaves: what kinds tells of them, in plain mathematics. -/
import Derived.Test.YtajchaknfkfljaaDoorKMath
namespace Go.Proofs.YtajchaknfkfljaaDoor.K6
open N4
set_option linter.unusedVariables false

/-! ### the expression of a node -/
theorem kAt_cut {L : List Nd} {E : List Ex} {i : Nat} {y : Ex} (h : extF L = some E) (hy : E[i]? = some y) {v : Int} (h1 : (i + 1 - y.s : Nat) ≤ v) (h2 : v ≤ i) :
    kAt (cutF L i) (v + -((i + 1 - y.s : Nat) : Int)) = kAt L v := by
  obtain ⟨z1, z2, _⟩ := extF_sz h _ _ hy
  have hi : i < L.length := by rw [← extF_length h]; exact (List.getElem?_eq_some_iff.1 hy).1
  obtain ⟨m, rfl⟩ : ∃ m : Nat, v = m := ⟨v.toNat, by omega⟩
  obtain ⟨x, hx⟩ : ∃ x, L[m]? = some x := ⟨_, List.getElem?_eq_getElem (by omega)⟩
  have hc : (cutF L i)[m - (i + 1 - y.s)]? = some (shift (-((i + 1 - y.s : Nat) : Int)) x) := by
    unfold cutF
    rw [sizF_of h hy, List.getElem?_map, List.getElem?_take, if_pos (by omega), List.getElem?_drop, show i + 1 - y.s + (m - (i + 1 - y.s)) = m by omega, hx]
    rfl
  rw [kAt_nat hx, kAt_int (i := m - (i + 1 - y.s)) (by omega) hc]
  rfl
theorem cut_fit {L : List Nd} {E : List Ex} {i : Nat} {y : Ex} (h : extF L = some E) (hy : E[i]? = some y) {j : Nat} {x' : Nd} (hx : (cutF L i)[j]? = some x') :
    ∃ x, L[i + 1 - y.s + j]? = some x ∧ x'.k = x.k ∧ j < y.s ∧ fitN (cutF L i) x' = fitN L x := by
  obtain ⟨x, hxL, rfl, hjs⟩ := cutF_at h hy hx
  refine ⟨x, hxL, rfl, hjs, ?_⟩
  have hz := extF_sz h
  obtain ⟨z1, z2, _⟩ := hz _ _ hy
  have hi : i < L.length := by rw [← extF_length h]; exact (List.getElem?_eq_some_iff.1 hy).1
  obtain ⟨t, ht⟩ : ∃ t, E[i + 1 - y.s + j]? = some t := ⟨_, List.getElem?_eq_getElem (by rw [extF_length h]; omega)⟩
  obtain ⟨w1, _⟩ := within (Ext.of h) hz i y hy _ t (by omega) (by omega) ht
  have hs := sizF_of h ht
  rcases (node_facts h hxL).2.2 with ⟨hk, _, h1, h2⟩ | ⟨hk, hk2, i1, s1, he, h1, h2, hs1, hp, hle, hss⟩ | ⟨hk, i1, s1, s2, he, h1, h2, hs1, hs2, hp, hle, hp2, hss⟩
  · rw [fit_leaf (show (shift _ x).k ≤ 4 from hk), fit_leaf hk]
  · unfold fitN
    rw [shift_a, if_pos hk]
    show fitK x.k _ _ = _
    rw [kAt_cut h hy (by omega) (by omega)]
    exact fitK_one hk hk2 _ _ _
  · unfold fitN
    rw [shift_a, shift_b, if_pos (by omega), if_pos hk]
    show fitK x.k _ _ = _
    rw [kAt_cut h hy (by omega) (by omega), kAt_cut h hy (by omega) (by omega)]
/-- Where the nodes in front fit, the expression of a node is typed just if its whole fits. -/
theorem cut_of {L : List Nd} {E : List Ex} (hg : Good4 L E) {i : Nat} {x : Nd} (hx : L[i]? = some x) (hb : ∀ (j : Nat) (y : Nd), j < i → L[j]? = some y → fitN L y = true) :
    ofF (cutF L i) = if fitN L x = true then (gvK x.k, (sizF L i : Int) - 1, 0) else (false, (sizF L i : Int) - 1, 42) := by
  have hi : i < L.length := (List.getElem?_eq_some_iff.1 hx).1
  obtain ⟨y, hy, z1, z2, _⟩ := hg.at_ hi
  have hE := hg.ext
  have hs := sizF_of hE hy
  have hl := cutF_length hE hy
  have hc := checkF_ok (cut_good hg hy).1
  obtain ⟨m, hm⟩ : ∃ m, y.s = m + 1 := ⟨y.s - 1, by omega⟩
  obtain ⟨x', hx'⟩ : ∃ x', (cutF L i)[m]? = some x' := ⟨_, List.getElem?_eq_getElem (by omega)⟩
  obtain ⟨x2, hx2, hk, _, hf⟩ := cut_fit hE hy hx'
  rw [show i + 1 - y.s + m = i by omega, hx] at hx2
  injection hx2 with hx2
  subst hx2
  have hbc : ∀ (j : Nat) (t : Nd), j < m → (cutF L i)[j]? = some t → fitN (cutF L i) t = true := by
    intro j t hj ht
    obtain ⟨t2, ht2, _, _, hf2⟩ := cut_fit hE hy ht
    rw [hf2]
    exact hb _ _ (by omega) ht2
  rw [hs]
  cases hv : fitN L x
  · rw [if_neg (by simp), of_wrong hc (wrong_at hbc hx' (hf.trans hv)) (by omega)]
    congr 2
    omega
  · rw [if_pos rfl, of_at (n := m) hc ?_ (by omega) hx', hk]
    · congr 2
      omega
    · rw [← hm, ← hl]
      refine wrong_all fun j t hj ht => ?_
      rcases Nat.lt_or_ge j m with h1 | h1
      · exact hbc j t h1 ht
      · obtain rfl : j = m := by omega
        rw [hx'] at ht
        injection ht with ht
        subst ht
        exact hf.trans hv
end Go.Proofs.YtajchaknfkfljaaDoor.K6
