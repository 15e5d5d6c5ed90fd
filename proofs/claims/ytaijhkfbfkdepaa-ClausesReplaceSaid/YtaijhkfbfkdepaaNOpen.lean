
/- What an argument that is a slice of nodes reads as. -/
import Derived.Test.YtaijhkfbfkdepaaNMem
import Derived.Deep.Slices
import Derived.Deep.Fields
import Derived.ChangeSame
import Derived.OpenShut
import Derived.Carry
namespace Go.Proofs.Ytaijhkfbfkdepaa.N4
open Go.ChangeShapes Go.WideShapes Go.ChangeAt Go.RowKit Go.Deep
set_option linter.unusedVariables false

theorem cell_lt {w : World} {p : Addr} {v : Value} (h : w.cell? p = some v) : p.block < w.heap.size := by
  rcases Nat.lt_or_ge p.block w.heap.size with hl | hl
  · exact hl
  · unfold World.cell? at h
    rw [Array.getElem?_eq_none hl] at h
    simp at h

section
variable {H : Type} {enc : TypeId × Value → H} {W : World} {sp : Nat → Bool} {held : Bool}
theorem nd_cells : Try.prog.cellsOf 45 = 5 := by kernel_rfl
theorem u8_cells : Try.prog.cellsOf 5 = 1 := by kernel_rfl
theorem i64_cells : Try.prog.cellsOf 2 = 1 := by kernel_rfl
theorem int_cells : Try.prog.cellsOf 3 = 1 := by kernel_rfl

set_option maxRecDepth 100000 in
theorem open_nd {n : Nat} {cs : List Value} {x : DataW H × List MemPlace} (h : DataW.trod enc Try.prog W 0 sp held n 45 cs = some x) : ∃ x : Nd, cs = ndC x := by
  obtain ⟨xs, n', _, _, hlen, hxl, hf⟩ := DataW.trod_struct Try.underlying45 h
  rw [nd_cells] at hlen
  match cs, hlen with
  | [c0, c1, c2, c3, c4], _ =>
    have h0 : DataW.trod enc Try.prog W 0 sp held n' 5 (([c0, c1, c2, c3, c4].drop 0).take (Try.prog.cellsOf 5)) = xs[0]? := hf 0 _ rfl
    have h1 : DataW.trod enc Try.prog W 0 sp held n' 2 (([c0, c1, c2, c3, c4].drop 1).take (Try.prog.cellsOf 2)) = xs[1]? := hf 1 _ rfl
    have h2 : DataW.trod enc Try.prog W 0 sp held n' 3 (([c0, c1, c2, c3, c4].drop 2).take (Try.prog.cellsOf 3)) = xs[2]? := hf 2 _ rfl
    have h3 : DataW.trod enc Try.prog W 0 sp held n' 3 (([c0, c1, c2, c3, c4].drop 3).take (Try.prog.cellsOf 3)) = xs[3]? := hf 3 _ rfl
    have h4 : DataW.trod enc Try.prog W 0 sp held n' 3 (([c0, c1, c2, c3, c4].drop 4).take (Try.prog.cellsOf 3)) = xs[4]? := hf 4 _ rfl
    simp only [u8_cells, i64_cells, int_cells, List.drop_zero, List.drop_succ_cons, List.take_succ_cons, List.take_zero] at h0 h1 h2 h3 h4
    match xs, hxl with
    | [y0, y1, y2, y3, y4], _ =>
      obtain ⟨k, e0, _⟩ := DataW.trod_int Try.underlying5 h0
      obtain ⟨n, e1, _⟩ := DataW.trod_int Try.underlying2 h1
      obtain ⟨a, e2, _⟩ := DataW.trod_int Try.underlying3 h2
      obtain ⟨b, e3, _⟩ := DataW.trod_int Try.underlying3 h3
      obtain ⟨p, e4, _⟩ := DataW.trod_int Try.underlying3 h4
      simp only [List.cons.injEq, and_true] at e0 e1 e2 e3 e4
      subst e0 e1 e2 e3 e4
      exact ⟨⟨k, n, a, b, p⟩, rfl⟩
theorem nds_of_cells (a : Addr) (len : Nat) (hi : ∀ i, i < len → ∃ x : Nd, ∀ j u, (ndC x)[j]? = some u → W.cell? (a.add (i * 5 + j)) = some u) :
    ∃ L : List Nd, L.length = len ∧ Lies W (some a) (ndCells L) := by
  have key : ∀ m, m ≤ len → ∃ L : List Nd, L.length = m ∧ ∀ j u, (ndCells L)[j]? = some u → W.cell? (a.add j) = some u := by
    intro m
    induction m with
    | zero => intro _; exact ⟨[], rfl, by intro j u h; simp [ndCells] at h⟩
    | succ m ih =>
      intro hm
      obtain ⟨L, hL, hc⟩ := ih (by omega)
      obtain ⟨x, hx⟩ := hi m (by omega)
      refine ⟨L ++ [x], by simp [hL], ?_⟩
      intro j u h
      rw [ndCells_snoc] at h
      have hl := ndCells_length L
      rw [hL] at hl
      rcases Nat.lt_or_ge j (m * 5) with hj | hj
      · rw [List.getElem?_append_left (by omega)] at h
        exact hc j u h
      · rw [List.getElem?_append_right (by omega), hl] at h
        have := hx _ _ h
        rwa [show m * 5 + (j - m * 5) = j by omega] at this
  obtain ⟨L, hL, hc⟩ := key len (Nat.le_refl _)
  refine ⟨L, hL, ?_⟩
  rcases Nat.eq_zero_or_pos len with h0 | h0
  · exact .inl (by rw [List.eq_nil_of_length_eq_zero (show L.length = 0 by omega)]; rfl)
  · obtain ⟨x, hx⟩ := hi 0 h0
    have c0 := hx 0 (.int .u8 x.k) rfl
    refine .inr ⟨a, rfl, ?_, hc⟩
    have := cell_lt c0
    rwa [add_block] at this
set_option maxRecDepth 100000 in
theorem open_nds {r : Reach} {b0 : Nat} {v : Value} {d : DataW H} {ps : List MemPlace} (hval : Value.okWide Try.prog W r b0 22 v) (hd : DataW.Trod enc Try.prog W 0 (fun _ => true) held 22 v d ps) :
    ∃ (A : Option Addr) (c : Nat) (L : List Nd), v = .slice A L.length c ∧ L.length ≤ maxLen ∧ Lies W A (ndCells L) ∧ L.length ≤ c ∧ ((A = none ∧ c = 0 ∧ L = []) ∨ ∃ ad, A = some ad) := by
  obtain ⟨A, n, c, rfl⟩ := okWide_slice Try.underlying22 hval
  obtain ⟨fuel, hf⟩ := hd
  rcases open_slice Try.underlying22 hf with ⟨hc, _⟩ | ⟨a, len, cap, m, nn, D, Pl, hc, hb, hl, hm, hmm, hx, hi⟩
  · simp [Value.cells] at hc
    obtain ⟨rfl, rfl, rfl⟩ := hc
    exact ⟨none, 0, [], rfl, Nat.zero_le _, .inl rfl, Nat.le_refl _, .inl ⟨rfl, rfl, rfl⟩⟩
  · simp [Value.cells] at hc
    obtain ⟨rfl, rfl, rfl⟩ := hc
    simp only [if_true] at hmm
    subst hmm
    obtain ⟨L, hL, ht⟩ := nds_of_cells (W := W) a n (fun i hin => by
      obtain ⟨cs, hcs, htr⟩ := hi i (by omega)
      rw [nd_cells] at hcs
      obtain ⟨x, rfl⟩ := open_nd htr
      obtain ⟨_, _, hat⟩ := World.cells?_some hcs
      refine ⟨x, fun j u hu => ?_⟩
      have hj : j < 5 := (List.getElem?_eq_some_iff.1 hu).1
      have := hat j hj
      rw [add_add'] at this
      rw [this]; exact hu)
    exact ⟨some a, m, L, by rw [hL], by omega, ht, by omega, .inr ⟨a, rfl⟩⟩
end
end Go.Proofs.Ytaijhkfbfkdepaa.N4
