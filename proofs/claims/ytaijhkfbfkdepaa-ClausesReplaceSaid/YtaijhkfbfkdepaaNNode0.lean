
/- What holds in the midst of Node. -/
import Derived.Test.YtaijhkfbfkdepaaNSame
import Derived.OneCell
import Derived.LoopN
namespace Go.Proofs.Ytaijhkfbfkdepaa.N4
open Go.ChangeShapes Go.WideShapes Go.ChangeAt Go.RowKit
set_option linter.unusedVariables false
set_option maxRecDepth 100000

def NSt (w : World) (B : Nat) (W : World) (l : Value) (n : Nat) (M : List Nd) (e0 e1 : Int) : Prop :=
  W.ownsRow w.heap.size 45 5 l n (ndCells M) ∧ l.ownBlock ≠ some (B + 1) ∧ B + 1 < W.heap.size ∧ W.cell? ⟨B + 1, 0, none⟩ = some (.int .i64 e0) ∧ W.cell? ⟨B + 1, 1, none⟩ = some (.int .i64 e1) ∧
  W.frozen? ⟨B + 1, 0, none⟩ = false ∧ W.frozen? ⟨B + 1, 1, none⟩ = false ∧ Below w.heap.size w W ∧ w.heap.size ≤ B
theorem NSt.start {w w1 : World} (hb : Below w.heap.size w w1) (B : Nat) (hB : w1.heap.size = B) :
    NSt w B ((w1.alloc (.cells #[] 45)).alloc (.cells #[.int .i64 0, .int .i64 0] 81)) (.slice (some ⟨B, 0, none⟩) 0 0) 0 [] 0 0 := by
  subst hB
  refine ⟨?_, by simp [Value.ownBlock], by simp, by go_simp, by go_simp, by go_simp, by go_simp, (hb.alloc hb.size _).alloc (by have := hb.size; simp; omega) _, hb.size⟩
  exact (World.ownsRow_lit (base := w.heap.size) (e := 45) (size := 5) w1 #[] 0 hb.size (Nat.zero_le _) rfl).alloc _
theorem NSt.below {w W W' : World} {B n : Nat} {l : Value} {M : List Nd} {e0 e1 : Int} (h : NSt w B W l n M e0 e1) (hb : Below W.heap.size W W') : NSt w B W' l n M e0 e1 := by
  obtain ⟨h1, h2, h3, h4, h5, h6, h7, h8, h9⟩ := h
  refine ⟨own_below h1 hb, h2, Nat.lt_of_lt_of_le h3 hb.size, ?_, ?_, ?_, ?_, h8.trans (hb.mono h8.size), h9⟩
  · rw [hb.cell (p := ⟨B + 1, 0, none⟩) h3]; exact h4
  · rw [hb.cell (p := ⟨B + 1, 1, none⟩) h3]; exact h5
  · rw [hb.frozen (p := ⟨B + 1, 0, none⟩) h3]; exact h6
  · rw [hb.frozen (p := ⟨B + 1, 1, none⟩) h3]; exact h7
theorem NSt.grown {w W W' : World} {B n N g cap : Nat} {l : Value} {M M' : List Nd} {e0 e1 : Int} (h : NSt w B W l n M e0 e1)
    (ho : W'.ownsRow w.heap.size 45 5 (.slice (some ⟨g, 0, none⟩) N cap) N (ndCells M ++ ndCells M')) (hg : W.grownBy W' l.ownBlock) (hat : l.ownBlock = some g ∨ g = W.heap.size) :
    NSt w B W' (.slice (some ⟨g, 0, none⟩) N cap) N (M ++ M') e0 e1 := by
  obtain ⟨h1, h2, h3, h4, h5, h6, h7, h8, h9⟩ := h
  refine ⟨by rw [ndCells_append]; exact ho, ?_, Nat.lt_of_lt_of_le h3 hg.size, hg.cell h4 (Ne.symm h2), hg.cell h5 (Ne.symm h2), ?_, ?_, ?_, h9⟩
  · show (some g : Option Nat) ≠ some (B + 1)
    rcases hat with hat | hat
    · rw [← hat]; exact h2
    · intro e; injection e with e; omega
  · rw [hg.frozen_far ⟨B + 1, 0, none⟩ h3 (Ne.symm h2)]; exact h6
  · rw [hg.frozen_far ⟨B + 1, 1, none⟩ h3 (Ne.symm h2)]; exact h7
  · exact h8.grown hg h8.size (fun j hj => (h1.lt j hj).1)
theorem NSt.set0 {w W : World} {B n : Nat} {l : Value} {M : List Nd} {e0 e1 : Int} (h : NSt w B W l n M e0 e1) (v : Int) : NSt w B (W.setCell ⟨B + 1, 0, none⟩ (.int .i64 v)) l n M v e1 := by
  obtain ⟨h1, h2, h3, h4, h5, h6, h7, h8, h9⟩ := h
  refine ⟨ownsRow_setCell_other h1 h2 _, h2, by simpa using h3, by go_simp, by go_simp, by go_simp, by go_simp, h8.setCell (by show w.heap.size ≤ B + 1; omega) _, h9⟩
theorem NSt.set1 {w W : World} {B n : Nat} {l : Value} {M : List Nd} {e0 e1 : Int} (h : NSt w B W l n M e0 e1) (v : Int) : NSt w B (W.setCell ⟨B + 1, 1, none⟩ (.int .i64 v)) l n M e0 v := by
  obtain ⟨h1, h2, h3, h4, h5, h6, h7, h8, h9⟩ := h
  refine ⟨ownsRow_setCell_other h1 h2 _, h2, by simpa using h3, by go_simp, by go_simp, by go_simp, by go_simp, h8.setCell (by show w.heap.size ≤ B + 1; omega) _, h9⟩
theorem nd_one (L : List Nd) : ∀ u ∈ ndCells L, u.oneCell' = true := by
  intro u hu
  rw [ndCells, List.mem_flatMap] at hu
  obtain ⟨x, _, hx⟩ := hu
  simp only [ndC, List.mem_cons, List.not_mem_nil, or_false] at hx
  rcases hx with rfl | rfl | rfl | rfl | rfl <;> rfl
theorem cells_new5 (w : World) (B : Nat) (hB : w.heap.size = B) (x : Nd) (t : TypeId) : ∀ j u, (ndCells [x])[j]? = some u → (w.alloc (.cells #[.int .u8 x.k, .int .i64 x.n, .int .i64 x.a, .int .i64 x.b, .int .i64 x.p] t)).cell? ((⟨B, 0, none⟩ : Addr).add j) = some u := by
  subst hB
  intro j u hj
  have h := World.news_of_block (w := w.alloc (.cells #[.int .u8 x.k, .int .i64 x.n, .int .i64 x.a, .int .i64 x.b, .int .i64 x.p] t)) (B := w.heap.size) (cs := #[.int .u8 x.k, .int .i64 x.n, .int .i64 x.a, .int .i64 x.b, .int .i64 x.p]) (t := t) (fr := (0, 0)) (heap_alloc_new w _) j u
  exact h (by simpa [ndCells, ndC] using hj)
theorem Lies.cells {w : World} {ad : Addr} {cs : List Value} (h : Lies w (some ad) cs) : ∀ j u, cs[j]? = some u → w.cell? (ad.add j) = some u := by
  rcases h with rfl | ⟨ad', h1, _, h3⟩
  · intro j u hu; simp at hu
  · injection h1 with h1; subst h1; exact h3
def NPost (M : List Nd) (w : World) (e : Ending) (w' : World) : Prop :=
  Below w.heap.size w w' ∧ ((checkF M ≠ 0 ∧ e = .returned (.tuple #[.slice none 0 0, .int .i64 (checkF M)])) ∨ (checkF M = 0 ∧ ∃ A c, e = .returned (.tuple #[.slice A M.length c, .int .i64 0]) ∧ Lies w' A (ndCells M) ∧ M.length ≤ c))
end Go.Proofs.Ytaijhkfbfkdepaa.N4
