/- NodesOther walks to true. -/
import Derived.Test.YtakpbpabblgobaaNLOther
namespace Go.Proofs.Ytakpbpabblgobaa
open Go.ChangeShapes Go.WideShapes Go.ChangeAt Go.RowKit
set_option linter.unusedVariables false

theorem u8_ne {k b : Int} (hz : ¬ b = 0) (h3 : -100 ≤ b) (h4 : b ≤ 100) : IntKind.u8.wrap (k + IntKind.u8.wrap b) ≠ k := by
  simp only [IntKind.wrap, IntKind.bits, IntKind.signed]
  simp
  omega
theorem i64_ne {n b : Int} (hz : ¬ b = 0) (h3 : -100 ≤ b) (h4 : b ≤ 100) : wrap64 (n + b) ≠ n := by
  unfold wrap64
  omega
theorem NodesOther_walk (A : Option Addr) (c : Nat) (L : List Nd) (at_ wh by_ : Int) (w : World) (hL : L.length ≤ maxLen) (ht : Lies w A (ndCells L)) (hnc : L.length ≤ c) (hA : (A = none ∧ c = 0 ∧ L = []) ∨ ∃ ad, A = some ad) (_ : (Lit.int .i64 at_).wf = true) (_ : (Lit.int .i64 wh).wf = true) (_ : (Lit.int .i64 by_).wf = true) :
    Calls Try.prog 8 #[.slice A L.length c, .int .i64 at_, .int .i64 wh, .int .i64 by_] w fun e w' => e = .returned (.bool true) ∧ Below w.heap.size w w' := by
  by_cases h7 : 70 < L.length
  · exact other_g A _ c L at_ wh by_ w h7
  by_cases hv : checkF L = 0
  rotate_left
  · exact other_b A _ c L at_ wh by_ w rfl (by omega) ht hv
  by_cases ha : at_ < 0 ∨ (L.length : Int) ≤ at_
  · exact other_at A _ c L at_ wh by_ w rfl (by omega) ht hv ha
  by_cases hb : by_ = 0 ∨ by_ < -100 ∨ 100 < by_
  · exact other_by A _ c L at_ wh by_ w rfl (by omega) ht hv (by omega) (by omega) hb
  obtain ⟨i, rfl⟩ : ∃ i : Nat, at_ = i := ⟨at_.toNat, by omega⟩
  obtain ⟨E, hg⟩ := checkF_zero hv
  have h60 := hg.2.1
  have hi : i < L.length := by omega
  obtain ⟨ad, rfl⟩ : ∃ ad, A = some ad := by
    rcases hA with ⟨_, _, h⟩ | h
    · subst h; simp at hi
    · exact h
  obtain ⟨x, hx⟩ : ∃ x, L[i]? = some x := ⟨_, List.getElem?_eq_getElem hi⟩
  obtain ⟨hok, hft, hf⟩ := node_facts hg.ext hx
  have hz : ¬ by_ = 0 := by omega
  have hy1 : -100 ≤ by_ := by omega
  have hy2 : by_ ≤ 100 := by omega
  have hab : 0 ≤ x.a ∧ x.a ≤ 60 ∧ 0 ≤ x.b ∧ x.b ≤ 60 := by
    rcases hf with ⟨_, _, h1, h2⟩ | ⟨_, _, i1, _, hi1, h1, h2, _⟩ | ⟨_, i1, s1, s2, hi1, h1, h2, _⟩ <;> omega
  obtain ⟨k, xn, xa, xb, xp⟩ := x
  obtain ⟨ha1, ha2, hb1, hb2⟩ := hab
  simp only at hok hft ha1 ha2 hb1 hb2
  have hk : 1 ≤ k ∧ k ≤ 19 := by unfold okK at hok; rw [Bool.and_eq_true, decide_eq_true_eq, decide_eq_true_eq] at hok; exact hok
  by_cases w0 : wh = 0
  · subst w0
    have hne := u8_ne (k := k) hz hy1 hy2
    obtain ⟨B, hB⟩ : ∃ B, IntKind.u8.wrap by_ = B := ⟨_, rfl⟩
    rw [hB] at hne
    obtain ⟨K, hK⟩ : ∃ K, IntKind.u8.wrap (k + B) = K := ⟨_, rfl⟩
    rw [hK] at hne
    by_cases hc : checkF (L.set i ⟨K, xn, xa, xb, xp⟩) = 0
    · exact other_k0 ad _ c L i 0 by_ k xn xa xb xp w rfl h60 ht hv hi hx hok hk.1 hk.2 ha1 ha2 hb1 hb2 hz hy1 hy2 K B hB hK 0 rfl hc (set_other hx (by intro e; injection e with e; exact hne e.symm))
    · exact other_kn ad _ c L i 0 by_ k xn xa xb xp w rfl h60 ht hv hi hx hok hk.1 hk.2 ha1 ha2 hb1 hb2 hz hy1 hy2 K B hB hK _ hc rfl
  by_cases w1 : wh = 1
  · subst w1
    exact other_a ad _ c L i 0 by_ k xn xa xb xp w rfl h60 ht hv hi hx hok hk.1 hk.2 ha1 ha2 hb1 hb2 hz hy1 hy2 8 rfl (set_ab hg hx rfl (by intro e; simp only at e; omega))
  by_cases w2 : wh = 2
  · subst w2
    exact other_b_ ad _ c L i 0 by_ k xn xa xb xp w rfl h60 ht hv hi hx hok hk.1 hk.2 ha1 ha2 hb1 hb2 hz hy1 hy2 8 rfl (set_ab hg hx rfl (by intro e; simp only at e; omega))
  have hne := i64_ne (n := xn) hz hy1 hy2
  obtain ⟨N, hN⟩ : ∃ N, wrap64 (xn + by_) = N := ⟨_, rfl⟩
  rw [hN] at hne
  by_cases hk1 : k = 1
  · subst hk1
    by_cases hc : checkF (L.set i ⟨1, N, xa, xb, xp⟩) = 0
    · exact other_n0 ad _ c L i wh by_ 1 xn xa xb xp w rfl h60 ht hv hi hx hok (by decide) (by decide) ha1 ha2 hb1 hb2 hz hy1 hy2 N hN w0 w1 w2 0 rfl hc (set_other hx (by intro e; injection e with _ e; exact hne e.symm))
    · exact other_nn ad _ c L i wh by_ 1 xn xa xb xp w rfl h60 ht hv hi hx hok (by decide) (by decide) ha1 ha2 hb1 hb2 hz hy1 hy2 N hN w0 w1 w2 _ hc rfl
  · have hn0 : xn = 0 := by
      unfold fitsF at hft
      simp only [Bool.and_eq_true, Bool.or_eq_true, decide_eq_true_eq] at hft
      rcases hft.1.1.2 with h | h
      · exact h
      · exact absurd h hk1
    exact other_n8 ad _ c L i wh by_ k xn xa xb xp w rfl h60 ht hv hi hx hok hk.1 hk.2 ha1 ha2 hb1 hb2 hz hy1 hy2 N hN w0 w1 w2 hk1 8 rfl (set_n hg hx hk1 (by show N ≠ 0; rw [← hn0]; exact hne))
end Go.Proofs.Ytakpbpabblgobaa
