/- NodesSizes walks to true. -/
import Derived.Test.YtakpbpabblgobaaNLSizes
import Derived.Test.YtakpbpabblgobaaNOpen
namespace Go.Proofs.Ytakpbpabblgobaa
open Go.ChangeShapes Go.WideShapes Go.ChangeAt Go.RowKit
set_option linter.unusedVariables false

theorem NodesSizes_walk (A : Option Addr) (c : Nat) (L : List Nd) (at_ : Int) (w : World) (hL : L.length ≤ maxLen) (ht : Lies w A (ndCells L)) (hnc : L.length ≤ c) (hA : (A = none ∧ c = 0 ∧ L = []) ∨ ∃ ad, A = some ad) (_ : (Lit.int .i64 at_).wf = true) :
    Calls Try.prog 6 #[.slice A L.length c, .int .i64 at_] w fun e w' => e = .returned (.bool true) ∧ Below w.heap.size w w' := by
  by_cases h7 : 70 < L.length
  · exact great_sizes A _ c at_ w h7
  by_cases hv : checkF L = 0
  rotate_left
  · exact bad_sizes A _ c L at_ w rfl (by omega) ht hv
  by_cases ha : at_ < 0 ∨ (L.length : Int) ≤ at_
  · exact out_sizes A _ c L at_ w rfl (by omega) ht hv ha
  obtain ⟨i, rfl⟩ : ∃ i : Nat, at_ = i := ⟨at_.toNat, by omega⟩
  obtain ⟨E, hg⟩ := checkF_zero hv
  have hi : i < L.length := by omega
  obtain ⟨ad, rfl⟩ : ∃ ad, A = some ad := by
    rcases hA with ⟨_, _, h⟩ | h
    · subst h; simp at hi
    · exact h
  obtain ⟨x, hx⟩ : ∃ x, L[i]? = some x := ⟨_, List.getElem?_eq_getElem hi⟩
  obtain ⟨y, hy, y1, y2, y3, y4, y5, y6⟩ := hg.at_ hi
  obtain ⟨s1, s2, s3⟩ := hg.size hi
  obtain ⟨cg, cd⟩ := cut_good hg hy
  obtain ⟨hw, hwn⟩ := cut_whole hg
  obtain ⟨hok, _, hf⟩ := node_facts hg.ext hx
  obtain ⟨e, he, e1, e2, e3, e4, _, _⟩ := hg.at_ (i := L.length - 1) (by omega)
  have hde := depF_of hg.ext he
  have h60 := hg.2.1
  have hes : e.s = L.length := by rw [← sizF_of hg.ext he]; exact hwn
  have hat : ∀ w1, Bl w w1 → NdAt w1 ad i x := by
    intro w1 hb
    obtain ⟨ad', h1, _, h2⟩ := (hb.lies ht).nd hx
    injection h1 with h1
    subst h1
    exact h2
  obtain ⟨k, xn, xa, xb, xp⟩ := x
  simp only at hok hf
  rcases hf with ⟨hk, hs, _⟩ | ⟨hk, hk2, i1, s1', hi1, ha1, _, hs1, hp1, hp2, hs⟩ | ⟨hk, i1, s1', s2', hi1, ha1, hb1, hs1, hs2, hp1, hp2, hp3, hs⟩
  · exact sizes_0 ad _ c L i _ k xn xa xb xp _ _ w rfl hnc h60 ht hv hi rfl hwn hw rfl (by omega) (by omega) hok (by rcases cnt_vals k with h | h | h <;> omega) s3 (checkF_ok cg) cd (by omega) hat hs
  · subst ha1
    exact sizes_1 ad _ c L i _ k xn 0 xb xp _ _ w rfl hnc h60 ht hv hi rfl hwn hw rfl (by omega) (by omega) hok (by rcases cnt_vals k with h | h | h <;> omega) s3 (checkF_ok cg) cd (by omega) i1 s1' (by omega) hs1 (by omega) hs hat
  · subst ha1
    obtain rfl : xb = ((i1 + s2' : Nat) : Int) := by omega
    exact sizes_2 ad _ c L i _ k xn 0 0 xp _ _ w rfl hnc h60 ht hv hi rfl hwn hw rfl (by omega) (by omega) hok (by rcases cnt_vals k with h | h | h <;> omega) s3 (checkF_ok cg) cd (by omega) i1 s1' (i1 + s2') s2' (by omega) hs1 (by omega) (by omega) hs2 (by omega) (by omega) hat
end Go.Proofs.Ytakpbpabblgobaa
