/- What an argument that is a slice of tokens, or of bools, reads as. -/
import Derived.Test.YteidhjacnlcddaaDoorLError
import Derived.Deep.Slices
import Derived.Deep.Fields
import Derived.ChangeSame
import Derived.OpenShut
import Derived.Carry
namespace Go.Proofs.YteidhjacnlcddaaDoor
open Go.ChangeShapes Go.WideShapes Go.ChangeAt Go.RowKit Go.Deep
set_option linter.unusedVariables false

theorem cell_lt {w : World} {p : Addr} {v : Value} (h : w.cell? p = some v) : p.block < w.heap.size := by
  rcases Nat.lt_or_ge p.block w.heap.size with hl | hl
  · exact hl
  · unfold World.cell? at h
    rw [Array.getElem?_eq_none hl] at h
    simp at h

section
variable {H : Type} {enc : TypeId × Value → H} {W : World} {sp : Nat → Bool} {held : Bool}

theorem tok_cells : Tryd.prog.cellsOf 30 = 3 := by kernel_rfl
theorem u8_cells : Tryd.prog.cellsOf 5 = 1 := by kernel_rfl
theorem str_cells : Tryd.prog.cellsOf 9 = 1 := by kernel_rfl
theorem int_cells : Tryd.prog.cellsOf 3 = 1 := by kernel_rfl
theorem bool_cells : Tryd.prog.cellsOf 4 = 1 := by kernel_rfl

theorem open_tok {n : Nat} {cs : List Value} {x : DataW H × List MemPlace} (h : DataW.trod enc Tryd.prog W 0 sp held n 30 cs = some x) :
    ∃ (k : Int) (s : ByteArray) (a : Int), cs = [.int .u8 k, .string s, .int .i64 a] ∧ s.size ≤ maxLen := by
  obtain ⟨xs, n', _, _, hlen, hxl, hf⟩ := DataW.trod_struct Tryd.underlying30 h
  rw [tok_cells] at hlen
  match cs, hlen with
  | [c0, c1, c2], _ =>
    have h0 : DataW.trod enc Tryd.prog W 0 sp held n' 5 (([c0, c1, c2].drop 0).take (Tryd.prog.cellsOf 5)) = xs[0]? := hf 0 _ rfl
    have h1 : DataW.trod enc Tryd.prog W 0 sp held n' 9 (([c0, c1, c2].drop 1).take (Tryd.prog.cellsOf 9)) = xs[1]? := hf 1 _ rfl
    have h2 : DataW.trod enc Tryd.prog W 0 sp held n' 3 (([c0, c1, c2].drop 2).take (Tryd.prog.cellsOf 3)) = xs[2]? := hf 2 _ rfl
    simp only [u8_cells, str_cells, int_cells, List.drop_zero, List.drop_succ_cons, List.take_succ_cons, List.take_zero] at h0 h1 h2
    match xs, hxl with
    | [y0, y1, y2], _ =>
      obtain ⟨k, e0, _⟩ := DataW.trod_int Tryd.underlying5 h0
      obtain ⟨s, e1, _, hs⟩ := DataW.trod_string Tryd.underlying9 h1
      obtain ⟨a, e2, _⟩ := DataW.trod_int Tryd.underlying3 h2
      simp only [List.cons.injEq, and_true] at e0 e1 e2
      subst e0 e1 e2
      exact ⟨k, s, a, rfl, hs⟩

theorem toks_of_cells (a : Addr) (len : Nat) (hi : ∀ i, i < len → ∃ (k : Int) (s : ByteArray) (z : Int), s.size ≤ maxLen ∧ W.cell? (a.add (i * 3)) = some (.int .u8 k) ∧ W.cell? (a.add (i * 3 + 1)) = some (.string s) ∧ W.cell? (a.add (i * 3 + 2)) = some (.int .i64 z)) :
    ∃ L : List Tok, L.length = len ∧ Toks W (some a) L ∧ ∀ t ∈ L, t.s.length ≤ maxLen := by
  have key : ∀ m, m ≤ len → ∃ L : List Tok, L.length = m ∧ (∀ j u, (tokCells L)[j]? = some u → W.cell? (a.add j) = some u) ∧ ∀ t ∈ L, t.s.length ≤ maxLen := by
    intro m
    induction m with
    | zero => intro _; exact ⟨[], rfl, by intro j u h; simp [tokCells] at h, by simp⟩
    | succ m ih =>
      intro hm
      obtain ⟨L, hL, hc, hs⟩ := ih (by omega)
      obtain ⟨k, s, z, hsz, c0, c1, c2⟩ := hi m (by omega)
      refine ⟨L ++ [⟨k, s.data.toList, z⟩], by simp [hL], ?_, ?_⟩
      · intro j u h
        rw [tokCells_snoc] at h
        have hl := tokCells_length L
        rw [hL] at hl
        rcases Nat.lt_or_ge j (m * 3) with hj | hj
        · rw [List.getElem?_append_left (by omega)] at h
          exact hc j u h
        · rw [List.getElem?_append_right (by omega), hl] at h
          have hb : bytesOf s.data.toList = s := by apply ByteArray.ext; apply Array.toList_inj.1; rw [bytesOf_list]
          have hj3 : j < m * 3 + 3 := by
            obtain ⟨hx, _⟩ := List.getElem?_eq_some_iff.1 h
            have : (tokC ⟨k, s.data.toList, z⟩).length = 3 := rfl
            omega
          rcases (by omega : j = m * 3 ∨ j = m * 3 + 1 ∨ j = m * 3 + 2) with rfl | rfl | rfl
          · rw [Nat.sub_self] at h
            rw [c0]; exact h
          · rw [show m * 3 + 1 - m * 3 = 1 by omega] at h
            rw [c1, ← hb]; exact h
          · rw [show m * 3 + 2 - m * 3 = 2 by omega] at h
            rw [c2]; exact h
      · intro t ht
        rcases List.mem_append.1 ht with ht | ht
        · exact hs t ht
        · simp only [List.mem_singleton] at ht
          subst ht
          show s.data.toList.length ≤ maxLen
          have : s.data.toList.length = s.size := by simp
          omega
  obtain ⟨L, hL, hc, hs⟩ := key len (Nat.le_refl _)
  refine ⟨L, hL, ?_, hs⟩
  rcases Nat.eq_zero_or_pos len with h0 | h0
  · exact .inl (List.eq_nil_of_length_eq_zero (by omega))
  · obtain ⟨k, s, z, _, c0, _, _⟩ := hi 0 h0
    refine .inr ⟨a, rfl, ?_, hc⟩
    have := cell_lt c0
    rwa [show (a.add (0 * 3)).block = a.block by unfold Addr.add; split <;> rfl] at this

theorem open_toks {r : Reach} {b0 : Nat} {v : Value} {d : DataW H} {ps : List MemPlace} (hval : Value.okWide Tryd.prog W r b0 28 v) (hd : DataW.Trod enc Tryd.prog W 0 (fun _ => true) held 28 v d ps) :
    ∃ (A : Option Addr) (c : Nat) (L : List Tok), v = .slice A L.length c ∧ L.length ≤ maxLen ∧ Toks W A L ∧ ∀ t ∈ L, t.s.length ≤ maxLen := by
  obtain ⟨A, n, c, rfl⟩ := okWide_slice Tryd.underlying28 hval
  obtain ⟨fuel, hf⟩ := hd
  rcases open_slice Tryd.underlying28 hf with ⟨hc, _⟩ | ⟨a, len, cap, m, nn, D, Pl, hc, hb, hl, hm, hmm, hx, hi⟩
  · simp [Value.cells] at hc
    obtain ⟨rfl, rfl, rfl⟩ := hc
    exact ⟨none, 0, [], rfl, Nat.zero_le _, .inl rfl, by simp⟩
  · simp [Value.cells] at hc
    obtain ⟨rfl, rfl, rfl⟩ := hc
    simp only [if_true] at hmm
    subst hmm
    obtain ⟨L, hL, ht, hs⟩ := toks_of_cells (W := W) a n (fun i hin => by
      obtain ⟨cs, hcs, htr⟩ := hi i (by omega)
      rw [tok_cells] at hcs
      obtain ⟨k, s, z, rfl, hsz⟩ := open_tok htr
      obtain ⟨_, _, hat⟩ := World.cells?_some hcs
      have aa : ∀ x y : Nat, (a.add x).add y = a.add (x + y) := fun x y => by unfold Addr.add; by_cases hx : x = 0 <;> by_cases hy : y = 0 <;> simp [hx, hy, Nat.add_assoc]
      have h0 := hat 0 (by decide)
      have h1 := hat 1 (by decide)
      have h2 := hat 2 (by decide)
      rw [aa] at h0 h1 h2
      exact ⟨k, s, z, hsz, h0, h1, h2⟩)
    exact ⟨some a, m, L, by rw [hL], by omega, ht, hs⟩
end
end Go.Proofs.YteidhjacnlcddaaDoor
