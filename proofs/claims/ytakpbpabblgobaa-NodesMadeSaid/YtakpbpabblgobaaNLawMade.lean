/- NodesMade walks to true. -/
import Derived.Test.YtakpbpabblgobaaNLMade
import Derived.Test.YtakpbpabblgobaaNOpen
namespace Go.Proofs.Ytakpbpabblgobaa
open Go.ChangeShapes Go.WideShapes Go.ChangeAt Go.RowKit
set_option linter.unusedVariables false

theorem NodesMade_walk (A : Option Addr) (c : Nat) (L : List Nd) (at_ : Int) (w : World) (hL : L.length ≤ maxLen) (ht : Lies w A (ndCells L)) (hnc : L.length ≤ c) (hA : (A = none ∧ c = 0 ∧ L = []) ∨ ∃ ad, A = some ad) (_ : (Lit.int .i64 at_).wf = true) :
    Calls Try.prog 5 #[.slice A L.length c, .int .i64 at_] w fun e w' => e = .returned (.bool true) ∧ Below w.heap.size w w' := by
  by_cases h7 : 70 < L.length
  · exact great_nmade A _ c at_ w h7
  by_cases hv : checkF L = 0
  rotate_left
  · exact bad_nmade A _ c L at_ w rfl (by omega) ht hv
  by_cases ha : at_ < 0 ∨ (L.length : Int) ≤ at_
  · exact out_nmade A _ c L at_ w rfl (by omega) ht hv ha
  obtain ⟨i, rfl⟩ : ∃ i : Nat, at_ = i := ⟨at_.toNat, by omega⟩
  obtain ⟨E, hg⟩ := checkF_zero hv
  have hi : i < L.length := by omega
  obtain ⟨ad, rfl⟩ : ∃ ad, A = some ad := by
    rcases hA with ⟨_, _, h⟩ | h
    · subst h; simp at hi
    · exact h
  obtain ⟨x, hx⟩ : ∃ x, L[i]? = some x := ⟨_, List.getElem?_eq_getElem hi⟩
  obtain ⟨y, hy, y1, y2, y3, y4, y5, y6⟩ := hg.at_ hi
  obtain ⟨s1, s2, s3⟩ := hg.size hi
  obtain ⟨cg, cd⟩ := cut_good hg hy
  obtain ⟨hok, hft, hf⟩ := node_facts hg.ext hx
  obtain ⟨hm0, hm1, hm2⟩ := cut_made hg.ext hx
  have h60 := hg.2.1
  have cc : ∀ j, j < L.length → (cutF L j).length = sizF L j ∧ checkF (cutF L j) = 0 := by
    intro j hj
    obtain ⟨z, hz, _⟩ := hg.at_ hj
    exact ⟨(hg.size hj).2.2, checkF_ok (cut_good hg hz).1⟩
  have hat : ∀ w1, Bl w w1 → NdAt w1 ad i x := by
    intro w1 hb
    obtain ⟨ad', h1, _, h2⟩ := (hb.lies ht).nd hx
    injection h1 with h1
    subst h1
    exact h2
  obtain ⟨k, xn, xa, xb, xp⟩ := x
  simp only at hok hft hf hm0 hm1 hm2
  rcases hf with ⟨hk, hs, _⟩ | ⟨hk, hk2, i1, s1', hi1, ha1, _, hs1, hp1, hp2, hs⟩ | ⟨hk, i1, s1', s2', hi1, ha1, hb1, hs1, hs2, hp1, hp2, hp3, hs⟩
  · exact made_0 ad _ c L i _ k xn xa xb xp w rfl hnc h60 ht hv hi rfl hok hft (by rcases cnt_vals k with h | h | h <;> omega) s3 (checkF_ok cg) (hm0 hk) hat
  · have hm := hm1 i1 hk hk2 ha1
    subst ha1
    exact made_1 ad _ c L i _ k xn 0 xb xp w rfl hnc h60 ht hv hi rfl hok hft (by rcases cnt_vals k with h | h | h <;> omega) s3 (checkF_ok cg) i1 s1' (by omega) hs1 ((cc i1 (by omega)).1.trans hs1) (cc i1 (by omega)).2 hm hat
  · have hb2 : xb = ((i1 + s2' : Nat) : Int) := by omega
    have hm := hm2 i1 (i1 + s2') hk ha1 hb2
    subst ha1 hb2
    exact made_2 ad _ c L i _ k xn 0 0 xp w rfl hnc h60 ht hv hi rfl hok hft (by rcases cnt_vals k with h | h | h <;> omega) s3 (checkF_ok cg) i1 s1' (i1 + s2') s2' (by omega) hs1 ((cc i1 (by omega)).1.trans hs1) (cc i1 (by omega)).2 (by omega) hs2 ((cc (i1 + s2') (by omega)).1.trans hs2) (cc (i1 + s2') (by omega)).2 hm hat
end Go.Proofs.Ytakpbpabblgobaa
