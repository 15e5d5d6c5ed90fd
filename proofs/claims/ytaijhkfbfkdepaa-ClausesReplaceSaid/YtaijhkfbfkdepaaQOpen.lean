/- What arguments that are queries, windows, lists of integers read as. -/
import Derived.Test.YtaijhkfbfkdepaaNOpen
import Derived.Test.YtaijhkfbfkdepaaQTwin
namespace Go.Proofs.Ytaijhkfbfkdepaa.Q8
open Go.ChangeShapes Go.WideShapes Go.ChangeAt Go.RowKit Go.Deep N4
set_option linter.unusedVariables false
set_option linter.unusedSimpArgs false

section
variable {H : Type} {enc : TypeId × Value → H} {W : World} {sp : Nat → Bool} {held : Bool}
def In64 (n : Int) : Prop := -9223372036854775808 ≤ n ∧ n ≤ 9223372036854775807
theorem i64_in {n : Int} (h : (Lit.int .i64 n).wf = true) : In64 n := by
  have := bounds_i64 h
  exact ⟨this.1, this.2⟩
theorem win_cells : Try.prog.cellsOf 25 = 3 := by kernel_rfl
theorem qry_cells : Try.prog.cellsOf 27 = 10 := by kernel_rfl
theorem bool_cells : Try.prog.cellsOf 4 = 1 := by kernel_rfl
theorem nds_sl_cells : Try.prog.cellsOf 22 = 1 := by kernel_rfl
theorem ints_sl_cells : Try.prog.cellsOf 23 = 1 := by kernel_rfl
set_option maxRecDepth 100000 in
theorem nds_core {n : Nat} {cs : List Value} {x : DataW H × List MemPlace} (hf : DataW.trod enc Try.prog W 0 (fun _ => true) held n 22 cs = some x) :
    ∃ (A : Option Addr) (c : Nat) (L : List Nd), cs = [.slice A L.length c] ∧ L.length ≤ maxLen ∧ Lies W A (ndCells L) ∧ SlOk A L.length c := by
  rcases open_slice Try.underlying22 hf with ⟨hc, _⟩ | ⟨a, len, cap, m, nn, D, Pl, hc, hb, hl, hm, hmm, hx, hi⟩
  · exact ⟨none, 0, [], hc, Nat.zero_le _, .inl rfl, .inl ⟨rfl, rfl, rfl⟩⟩
  · simp only [if_true] at hmm
    subst hmm
    obtain ⟨L, hL, ht⟩ := nds_of_cells (W := W) a len (fun i hin => by
      obtain ⟨cs, hcs, htr⟩ := hi i (by omega)
      rw [nd_cells] at hcs
      obtain ⟨x, rfl⟩ := open_nd htr
      obtain ⟨_, _, hat⟩ := World.cells?_some hcs
      refine ⟨x, fun j u hu => ?_⟩
      have hj : j < 5 := (List.getElem?_eq_some_iff.1 hu).1
      have := hat j hj
      rw [add_add'] at this
      rw [this]; exact hu)
    exact ⟨some a, _, L, by rw [hc, hL], by omega, ht, .inr ⟨a, rfl⟩⟩
theorem ints_of_cells (a : Addr) (len : Nat) (hi : ∀ i, i < len → ∃ x : Int, In64 x ∧ W.cell? (a.add i) = some (.int .i64 x)) :
    ∃ l : List Int, l.length = len ∧ Lies W (some a) (iC l) ∧ ∀ x ∈ l, In64 x := by
  have key : ∀ m, m ≤ len → ∃ l : List Int, l.length = m ∧ (∀ j u, (iC l)[j]? = some u → W.cell? (a.add j) = some u) ∧ ∀ x ∈ l, In64 x := by
    intro m
    induction m with
    | zero => intro _; exact ⟨[], rfl, by intro j u h; simp [iC] at h, by simp⟩
    | succ m ih =>
      intro hm
      obtain ⟨l, hl, hc, hb⟩ := ih (by omega)
      obtain ⟨x, hxb, hx⟩ := hi m (by omega)
      refine ⟨l ++ [x], by simp [hl], ?_, fun z hz => by rcases List.mem_append.1 hz with hz | hz; exact hb z hz; simp only [List.mem_singleton] at hz; subst hz; exact hxb⟩
      intro j u h
      have hlen : (iC l).length = m := by simp [iC, hl]
      rw [show iC (l ++ [x]) = iC l ++ [.int .i64 x] by simp [iC]] at h
      rcases Nat.lt_or_ge j m with hj | hj
      · rw [List.getElem?_append_left (by omega)] at h
        exact hc j u h
      · rw [List.getElem?_append_right (by omega), hlen] at h
        have hj0 : j - m = 0 := by
          have := (List.getElem?_eq_some_iff.1 h).1
          simp at this
          omega
        rw [hj0] at h
        simp only [List.getElem?_cons_zero, Option.some.injEq] at h
        subst h
        rwa [show j = m by omega]
  obtain ⟨l, hl, hc, hbb⟩ := key len (Nat.le_refl _)
  refine ⟨l, hl, ?_, hbb⟩
  rcases Nat.eq_zero_or_pos len with h0 | h0
  · exact .inl (by rw [List.eq_nil_of_length_eq_zero (show l.length = 0 by omega)]; rfl)
  · obtain ⟨x, _, hx⟩ := hi 0 h0
    refine .inr ⟨a, rfl, ?_, hc⟩
    have := cell_lt hx
    rwa [add_block] at this
set_option maxRecDepth 100000 in
theorem ints_core {n : Nat} {cs : List Value} {x : DataW H × List MemPlace} (hf : DataW.trod enc Try.prog W 0 (fun _ => true) held n 23 cs = some x) :
    ∃ (A : Option Addr) (c : Nat) (l : List Int), cs = [.slice A l.length c] ∧ l.length ≤ maxLen ∧ Lies W A (iC l) ∧ SlOk A l.length c ∧ ∀ x ∈ l, In64 x := by
  rcases Go.Deep.open_slice1 Try.underlying23 int_cells hf with ⟨hc, _⟩ | ⟨a, len, cap, m, nn, V, D, Pl, hc, hb, hl, hm, hmm, hx, hi⟩
  · exact ⟨none, 0, [], hc, Nat.zero_le _, .inl rfl, .inl ⟨rfl, rfl, rfl⟩, by simp⟩
  · simp only [if_true] at hmm
    subst hmm
    obtain ⟨l, hL, ht, hbb⟩ := ints_of_cells (W := W) a len (fun i hin => by
      obtain ⟨b, h1, _, h2⟩ := DataW.trod_int Try.underlying3 (hi i (by omega)).2
      refine ⟨b, i64_in h2, ?_⟩
      rw [(hi i (by omega)).1]
      simpa using h1)
    exact ⟨some a, _, l, by rw [hc, hL], by omega, ht, .inr ⟨a, rfl⟩, hbb⟩
set_option maxRecDepth 100000 in
theorem win_core {n : Nat} {cs : List Value} {x : DataW H × List MemPlace} (h : DataW.trod enc Try.prog W 0 sp held n 25 cs = some x) : ∃ k s v : Int, cs = [.int .u8 k, .int .i64 s, .int .i64 v] ∧ In64 s ∧ In64 v := by
  obtain ⟨xs, n', _, _, hlen, hxl, hf⟩ := DataW.trod_struct Try.underlying25 h
  rw [win_cells] at hlen
  match cs, hlen with
  | [c0, c1, c2], _ =>
    have h0 : DataW.trod enc Try.prog W 0 sp held n' 5 (([c0, c1, c2].drop 0).take (Try.prog.cellsOf 5)) = xs[0]? := hf 0 _ rfl
    have h1 : DataW.trod enc Try.prog W 0 sp held n' 2 (([c0, c1, c2].drop 1).take (Try.prog.cellsOf 2)) = xs[1]? := hf 1 _ rfl
    have h2 : DataW.trod enc Try.prog W 0 sp held n' 2 (([c0, c1, c2].drop 2).take (Try.prog.cellsOf 2)) = xs[2]? := hf 2 _ rfl
    simp only [u8_cells, i64_cells, List.drop_zero, List.drop_succ_cons, List.take_succ_cons, List.take_zero] at h0 h1 h2
    match xs, hxl with
    | [y0, y1, y2], _ =>
      obtain ⟨k, e0, _⟩ := DataW.trod_int Try.underlying5 h0
      obtain ⟨s, e1, _, w1⟩ := DataW.trod_int Try.underlying2 h1
      obtain ⟨v, e2, _, w2⟩ := DataW.trod_int Try.underlying2 h2
      simp only [List.cons.injEq, and_true] at e0 e1 e2
      subst e0 e1 e2
      exact ⟨k, s, v, rfl, i64_in w1, i64_in w2⟩
/-- A query as an argument. -/
def QO (W : World) (A : Option Addr) (c : Nat) (L : List Nd) (S : Option Addr) (d : Nat) (l : List Int) (B : Option Addr) (e : Nat) (M : List Nd) (s v t : Int) : Prop :=
  QA W A L.length S l.length B M.length L M l ∧ SlOk A L.length c ∧ SlOk S l.length d ∧ SlOk B M.length e ∧ In64 s ∧ In64 v ∧ (Lit.int .u8 t).wf = true
set_option maxRecDepth 100000 in
theorem qry_core {n : Nat} {cs : List Value} {x : DataW H × List MemPlace} (h : DataW.trod enc Try.prog W 0 (fun _ => true) held n 27 cs = some x) :
    ∃ (g : Int) (A : Option Addr) (c : Nat) (L : List Nd) (S : Option Addr) (d : Nat) (l : List Int) (j : Bool) (B : Option Addr) (e : Nat) (M : List Nd) (k s v : Int) (y : Bool) (t : Int),
      cs = [.int .u8 g, .slice A L.length c, .slice S l.length d, .bool j, .slice B M.length e, .int .u8 k, .int .i64 s, .int .i64 v, .bool y, .int .u8 t] ∧ QO W A c L S d l B e M s v t := by
  obtain ⟨xs, n', _, _, hlen, hxl, hf⟩ := DataW.trod_struct Try.underlying27 h
  rw [qry_cells] at hlen
  match cs, hlen with
  | [c0, c1, c2, c3, c4, c5, c6, c7, c8, c9], _ =>
    have h0 : DataW.trod enc Try.prog W 0 (fun _ => true) held n' 5 (([c0, c1, c2, c3, c4, c5, c6, c7, c8, c9].drop 0).take (Try.prog.cellsOf 5)) = xs[0]? := hf 0 _ rfl
    have h1 : DataW.trod enc Try.prog W 0 (fun _ => true) held n' 22 (([c0, c1, c2, c3, c4, c5, c6, c7, c8, c9].drop 1).take (Try.prog.cellsOf 22)) = xs[1]? := hf 1 _ rfl
    have h2 : DataW.trod enc Try.prog W 0 (fun _ => true) held n' 23 (([c0, c1, c2, c3, c4, c5, c6, c7, c8, c9].drop 2).take (Try.prog.cellsOf 23)) = xs[2]? := hf 2 _ rfl
    have h3 : DataW.trod enc Try.prog W 0 (fun _ => true) held n' 4 (([c0, c1, c2, c3, c4, c5, c6, c7, c8, c9].drop 3).take (Try.prog.cellsOf 4)) = xs[3]? := hf 3 _ rfl
    have h4 : DataW.trod enc Try.prog W 0 (fun _ => true) held n' 22 (([c0, c1, c2, c3, c4, c5, c6, c7, c8, c9].drop 4).take (Try.prog.cellsOf 22)) = xs[4]? := hf 4 _ rfl
    have h5 : DataW.trod enc Try.prog W 0 (fun _ => true) held n' 25 (([c0, c1, c2, c3, c4, c5, c6, c7, c8, c9].drop 5).take (Try.prog.cellsOf 25)) = xs[5]? := hf 5 _ rfl
    have h6 : DataW.trod enc Try.prog W 0 (fun _ => true) held n' 4 (([c0, c1, c2, c3, c4, c5, c6, c7, c8, c9].drop 8).take (Try.prog.cellsOf 4)) = xs[6]? := hf 6 _ rfl
    have h7 : DataW.trod enc Try.prog W 0 (fun _ => true) held n' 5 (([c0, c1, c2, c3, c4, c5, c6, c7, c8, c9].drop 9).take (Try.prog.cellsOf 5)) = xs[7]? := hf 7 _ rfl
    simp only [u8_cells, bool_cells, win_cells, nds_sl_cells, ints_sl_cells, List.drop_zero, List.drop_succ_cons, List.take_succ_cons, List.take_zero] at h0 h1 h2 h3 h4 h5 h6 h7
    match xs, hxl with
    | [y0, y1, y2, y3, y4, y5, y6, y7], _ =>
      obtain ⟨g, e0, _⟩ := DataW.trod_int Try.underlying5 h0
      obtain ⟨A, c, L, e1, q1, q2, q3⟩ := nds_core h1
      obtain ⟨S, d, l, e2, q4, q5, q6, _⟩ := ints_core h2
      obtain ⟨j, e3, _⟩ := DataW.trod_bool Try.underlying4 h3
      obtain ⟨B, e, M, e4, q7, q8, q9⟩ := nds_core h4
      obtain ⟨k, s, v, e5, i1, i2⟩ := win_core h5
      obtain ⟨y, e6, _⟩ := DataW.trod_bool Try.underlying4 h6
      obtain ⟨t, e7, _, wt⟩ := DataW.trod_int Try.underlying5 h7
      simp only [List.cons.injEq, and_true] at e0 e1 e2 e3 e4 e5 e6 e7
      obtain ⟨e5, e5', e5''⟩ := e5
      subst e0 e1 e2 e3 e4 e5 e5' e5'' e6 e7
      exact ⟨g, A, c, L, S, d, l, j, B, e, M, k, s, v, y, t, rfl, ⟨⟨q2, rfl, q1⟩, ⟨q5, rfl⟩, ⟨q8, rfl, q7⟩⟩, q3, q6, q9, i1, i2, wt⟩
set_option maxRecDepth 100000 in
theorem open_qryv {r : Reach} {b0 : Nat} {v : Value} {d : DataW H} {ps : List MemPlace} (hval : Value.okWide Try.prog W r b0 27 v) (hd : DataW.Trod enc Try.prog W 0 (fun _ => true) held 27 v d ps) :
    ∃ (g : Int) (A : Option Addr) (c : Nat) (L : List Nd) (S : Option Addr) (d : Nat) (l : List Int) (j : Bool) (B : Option Addr) (e : Nat) (M : List Nd) (k s u : Int) (y : Bool) (t : Int),
      v = .agg #[.int .u8 g, .slice A L.length c, .slice S l.length d, .bool j, .slice B M.length e, .int .u8 k, .int .i64 s, .int .i64 u, .bool y, .int .u8 t] ∧ QO W A c L S d l B e M s u t := by
  obtain ⟨cs, rfl, _⟩ := okWide_struct Try.underlying27 hval
  obtain ⟨fuel, hf⟩ := hd
  obtain ⟨g, A, c, L, S, d, l, j, B, e, M, k, s, u, y, t, h, hs⟩ := qry_core hf
  refine ⟨g, A, c, L, S, d, l, j, B, e, M, k, s, u, y, t, ?_, hs⟩
  have : cs = #[.int .u8 g, .slice A L.length c, .slice S l.length d, .bool j, .slice B M.length e, .int .u8 k, .int .i64 s, .int .i64 u, .bool y, .int .u8 t] := Array.toList_inj.1 h
  rw [this]
set_option maxRecDepth 100000 in
theorem open_winv {r : Reach} {b0 : Nat} {v : Value} {d : DataW H} {ps : List MemPlace} (hval : Value.okWide Try.prog W r b0 25 v) (hd : DataW.Trod enc Try.prog W 0 sp held 25 v d ps) :
    ∃ k s u : Int, v = .agg #[.int .u8 k, .int .i64 s, .int .i64 u] ∧ In64 s := by
  obtain ⟨cs, rfl, _⟩ := okWide_struct Try.underlying25 hval
  obtain ⟨fuel, hf⟩ := hd
  obtain ⟨k, s, u, h, hs, _⟩ := win_core hf
  refine ⟨k, s, u, ?_, hs⟩
  have : cs = #[.int .u8 k, .int .i64 s, .int .i64 u] := Array.toList_inj.1 h
  rw [this]
set_option maxRecDepth 100000 in
theorem open_intsl {r : Reach} {b0 : Nat} {v : Value} {d : DataW H} {ps : List MemPlace} (hval : Value.okWide Try.prog W r b0 23 v) (hd : DataW.Trod enc Try.prog W 0 (fun _ => true) held 23 v d ps) :
    ∃ (A : Option Addr) (c : Nat) (l : List Int), v = .slice A l.length c ∧ l.length ≤ maxLen ∧ Lies W A (iC l) ∧ SlOk A l.length c ∧ l.length ≤ c ∧ ∀ x ∈ l, In64 x := by
  obtain ⟨A, n, c, rfl⟩ := okWide_slice Try.underlying23 hval
  obtain ⟨fuel, hf⟩ := hd
  have hf0 := hf
  obtain ⟨A', c', l, h, h1, h2, h3, h5⟩ := ints_core hf
  have hnc : n ≤ c := by
    rcases Go.Deep.open_slice1 Try.underlying23 int_cells hf0 with ⟨hc, _⟩ | ⟨a, len, cap, m, nn, V, D, Pl, hc, hb, hl, hm, hmm, hx, hi⟩
    · simp [Value.cells] at hc; omega
    · simp [Value.cells] at hc; omega
  simp only [Value.cells, List.cons.injEq, and_true, Value.slice.injEq] at h
  obtain ⟨rfl, rfl, rfl⟩ := h
  exact ⟨A, c, l, rfl, h1, h2, h3, hnc, h5⟩
end
end Go.Proofs.Ytaijhkfbfkdepaa.Q8
