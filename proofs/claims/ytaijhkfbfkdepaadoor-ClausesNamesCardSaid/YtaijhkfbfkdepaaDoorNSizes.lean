
/- The contract of the reference's Sizes. -/
import Derived.Test.YtaijhkfbfkdepaaDoorNRight
import Derived.LoopTactic
namespace Go.Proofs.YtaijhkfbfkdepaaDoor.N4
open Go.ChangeShapes Go.WideShapes Go.ChangeAt Go.RowKit
set_option linter.unusedVariables false
set_option linter.unusedSimpArgs false

theorem int_info : (Tryd.prog.info? 3).map (fun i => (i.zero, i.size, i.bytes)) = some (some (.int .i64 0), 1, 8) := by kernel_rfl
theorem cells_new1 (w : World) (B : Nat) (hB : w.heap.size = B) (x : Value) (t : TypeId) : ∀ j u, [x][j]? = some u → (w.alloc (.cells #[x] t)).cell? ((⟨B, 0, none⟩ : Addr).add j) = some u := by
  subst hB
  intro j u hj
  have h := World.news_of_block (w := w.alloc (.cells #[x] t)) (B := w.heap.size) (cs := #[x]) (t := t) (fr := (0, 0)) (heap_alloc_new w _) j u
  exact h hj
theorem two_first {W W' : World} {B k : Nat} {e : TypeId} {l1 l2 : Value} {xs : List Value} {o : Obj} {g : Nat} (h2 : W.ownsRow B e 1 l2 k xs) (hne : l1.ownBlock = none ∨ l1.ownBlock ≠ l2.ownBlock)
    (hg : (W.alloc o).grownBy W' l1.ownBlock) (hat : l1.ownBlock = some g ∨ g = W.heap.size + 1) : W'.ownsRow B e 1 l2 k xs ∧ some g ≠ l2.ownBlock := by
  refine ⟨(h2.alloc o).kept hg ?_, ?_⟩
  · rcases hne with h | h
    · rw [h]; cases l2.ownBlock <;> simp
    · exact .inr (Ne.symm h)
  · rcases hat with h | h
    · rcases hne with h' | h'
      · rw [h] at h'; cases h'
      · rw [← h]; exact h'
    · intro e2
      have := (h2.lt g e2.symm).2
      omega
theorem two_second {W W' : World} {B k n : Nat} {e : TypeId} {l2 : Value} {xs : List Value} {o : Obj} {g cap g' : Nat} (h1 : W.ownsRow B e 1 (.slice (some ⟨g, 0, none⟩) k cap) n xs) (hne : some g ≠ l2.ownBlock)
    (hg : (W.alloc o).grownBy W' l2.ownBlock) (hat : l2.ownBlock = some g' ∨ g' = W.heap.size + 1) : W'.ownsRow B e 1 (.slice (some ⟨g, 0, none⟩) k cap) n xs ∧ (some g : Option Nat) ≠ some g' := by
  have hb : (Value.slice (some ⟨g, 0, none⟩) k cap).ownBlock = some g := rfl
  refine ⟨(h1.alloc o).kept hg (.inr (by rw [hb]; exact hne)), ?_⟩
  rcases hat with h | h
  · rw [← h]; exact hne
  · intro e2
    injection e2 with e2
    have := (h1.lt g hb).2
    omega
theorem nextF_true {E : List Ex} {x : Nd} {y : Ex} {a b : Int} (h : need E x.k = some (y, a, b)) (hr : (okK x.k && fitsF x.k x.n x.p && decide (x.a = a ∧ x.b = b)) = true) : nextF E x = some y := by
  rw [Bool.and_eq_true, Bool.and_eq_true, decide_eq_true_eq] at hr
  obtain ⟨⟨h1, h2⟩, h3, h4⟩ := hr
  subst h3 h4
  exact nextF_mk h1 h2 h
theorem nextF_false {E : List Ex} {x : Nd} {y : Ex} {a b : Int} (h : need E x.k = some (y, a, b)) (hr : (okK x.k && fitsF x.k x.n x.p && decide (x.a = a ∧ x.b = b)) = false) : nextF E x = none := by
  rw [Bool.and_eq_false_iff] at hr
  rcases hr with hr | hr
  · exact nextF_bad hr
  · rw [decide_eq_false_iff_not] at hr
    exact nextF_no h hr
def RPost (L : List Nd) (n : Nat) (w : World) (e : Ending) (w' : World) : Prop :=
  Below w.heap.size w w' ∧ ((extF L = none ∧ e = .returned (.tuple #[.slice none 0 0, .slice none 0 0, .bool false])) ∨
    ∃ E A1 c1 A2 c2, extF L = some E ∧ e = .returned (.tuple #[.slice A1 n c1, .slice A2 n c2, .bool (decide (∃ y, E[n - 1]? = some y ∧ y.s = n))]) ∧ Lies w' A1 (sCells E) ∧ Lies w' A2 (dCells E))
def RRel (L : List Nd) (w : World) (l1 l2 : Value) (k : Nat) (wr : World) : Prop :=
  ∃ E, extF (L.take k) = some E ∧ wr.ownsRow w.heap.size 3 1 l1 k (sCells E) ∧ wr.ownsRow w.heap.size 3 1 l2 k (dCells E) ∧ (l1.ownBlock = none ∨ l1.ownBlock ≠ l2.ownBlock) ∧ Below w.heap.size w wr
end Go.Proofs.YtaijhkfbfkdepaaDoor.N4
