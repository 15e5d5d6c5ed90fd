/- What an argument that is a record reads as. -/
import Derived.Test.YtajchaknfkfljaaDoorEOpen
import Derived.Test.YtajchaknfkfljaaDoorVMath
namespace Go.Proofs.YtajchaknfkfljaaDoor.V7
open Go.ChangeShapes Go.WideShapes Go.ChangeAt Go.RowKit Go.Deep N4
set_option linter.unusedVariables false
set_option linter.unusedSimpArgs false

section
variable {H : Type} {enc : TypeId × Value → H} {W : World} {sp : Nat → Bool} {held : Bool}
theorem i64_in {n : Int} (h : (Lit.int .i64 n).wf = true) : In64 n := by
  have := bounds_i64 h
  exact ⟨this.1, this.2⟩
theorem rec_cells : Tryd.prog.cellsOf 26 = 3 := by kernel_rfl
set_option maxRecDepth 100000 in
theorem open_rec {n : Nat} {cs : List Value} {x : DataW H × List MemPlace} (h : DataW.trod enc Tryd.prog W 0 sp held n 26 cs = some x) : ∃ k t v : Int, cs = [.int .i64 k, .int .i64 t, .int .i64 v] ∧ RcIn ⟨k, t, v⟩ := by
  obtain ⟨xs, n', _, _, hlen, hxl, hf⟩ := DataW.trod_struct Tryd.underlying26 h
  rw [rec_cells] at hlen
  match cs, hlen with
  | [c0, c1, c2], _ =>
    have h0 : DataW.trod enc Tryd.prog W 0 sp held n' 2 (([c0, c1, c2].drop 0).take (Tryd.prog.cellsOf 2)) = xs[0]? := hf 0 _ rfl
    have h1 : DataW.trod enc Tryd.prog W 0 sp held n' 2 (([c0, c1, c2].drop 1).take (Tryd.prog.cellsOf 2)) = xs[1]? := hf 1 _ rfl
    have h2 : DataW.trod enc Tryd.prog W 0 sp held n' 2 (([c0, c1, c2].drop 2).take (Tryd.prog.cellsOf 2)) = xs[2]? := hf 2 _ rfl
    simp only [i64_cells, List.drop_zero, List.drop_succ_cons, List.take_succ_cons, List.take_zero] at h0 h1 h2
    match xs, hxl with
    | [y0, y1, y2], _ =>
      obtain ⟨k, e0, _, w0⟩ := DataW.trod_int Tryd.underlying2 h0
      obtain ⟨t, e1, _, w1⟩ := DataW.trod_int Tryd.underlying2 h1
      obtain ⟨v, e2, _, w2⟩ := DataW.trod_int Tryd.underlying2 h2
      simp only [List.cons.injEq, and_true] at e0 e1 e2
      subst e0 e1 e2
      exact ⟨k, t, v, rfl, i64_in w0, i64_in w1, i64_in w2⟩
set_option maxRecDepth 100000 in
theorem open_recv {r : Reach} {b0 : Nat} {v : Value} {d : DataW H} {ps : List MemPlace} (hval : Value.okWide Tryd.prog W r b0 26 v) (hd : DataW.Trod enc Tryd.prog W 0 sp held 26 v d ps) :
    ∃ k t u : Int, v = .agg #[.int .i64 k, .int .i64 t, .int .i64 u] ∧ RcIn ⟨k, t, u⟩ := by
  obtain ⟨cs, rfl, _⟩ := okWide_struct Tryd.underlying26 hval
  obtain ⟨fuel, hf⟩ := hd
  obtain ⟨k, t, u, h, hs⟩ := open_rec hf
  refine ⟨k, t, u, ?_, hs⟩
  have : cs = #[.int .i64 k, .int .i64 t, .int .i64 u] := Array.toList_inj.1 h
  rw [this]
end
end Go.Proofs.YtajchaknfkfljaaDoor.V7
