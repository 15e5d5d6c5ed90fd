
/- The contract of All. -/
import Derived.Test.YtajchaknfkfljaaDoorKOf
namespace Go.Proofs.YtajchaknfkfljaaDoor.K6
open Go.ChangeShapes Go.WideShapes Go.ChangeAt Go.RowKit N4
set_option linter.unusedVariables false
set_option maxRecDepth 100000

def bCells (B : List Bool) : List Value := B.map fun b => .bool b
def truF (L : List Nd) : List Bool := L.map fun x => gvK x.k
theorem bool_info : (Tryd.prog.info? 4).map (fun i => (i.zero, i.size, i.bytes)) = some (some (.bool false), 1, 1) := by kernel_rfl
theorem bCells_length (B : List Bool) : (bCells B).length = B.length := by simp [bCells]
theorem bCells_snoc (B : List Bool) (b : Bool) : bCells (B ++ [b]) = bCells B ++ [.bool b] := by simp [bCells]
theorem set1_take (xs : List Value) (k : Nat) (v : Value) (h : k < xs.length) : (xs.set k v).take (k + 1) = xs.take k ++ [v] := by
  rw [List.take_succ_eq_append_getElem (by simpa using h), List.take_set_of_le (Nat.le_refl _), List.getElem_set_self]
def BRel (w : World) (M : List Bool) (n k : Nat) (wr : World) : Prop :=
  ∃ xs, wr.ownsRow w.heap.size 4 1 (.slice (some ⟨w.heap.size, 0, none⟩) n n) n xs ∧ xs.take k = bCells (M.take k) ∧ Below w.heap.size w wr
theorem own_one {w : World} {base g n cap : Nat} {e : TypeId} {xs : List Value} (h : w.ownsRow base e 1 (.slice (some ⟨g, 0, none⟩) n cap) n xs) (k : Nat) (hk : k < n) :
    (∃ v0, w.cell? ⟨g, k, none⟩ = some v0) ∧ w.frozen? ⟨g, k, none⟩ = false := by
  have hl : xs.length = n * 1 := h.1
  exact ⟨⟨_, (h.cellAt k (by omega)).trans (List.getElem?_eq_getElem (by omega))⟩, h.frozenAt _⟩
theorem brel_step {w : World} {M : List Bool} {n k : Nat} {wr : World} {xs : List Value} {y : Bool} (ho : wr.ownsRow w.heap.size 4 1 (.slice (some ⟨w.heap.size, 0, none⟩) n n) n xs) (hx : xs.take k = bCells (M.take k)) (hb : Below w.heap.size w wr) (hy : M[k]? = some y) (hk : k < n) :
    BRel w M n (k + 1) (wr.setCell ⟨w.heap.size, k, none⟩ (.bool y)) := by
  refine ⟨_, (ho.stored k (.bool y)).1, ?_, hb.setCell (Nat.le_refl _) _⟩
  have hl : xs.length = n * 1 := ho.1
  obtain ⟨hlt, e⟩ := List.getElem?_eq_some_iff.1 hy
  rw [set1_take xs k _ (by omega), hx, List.take_succ_eq_append_getElem hlt, e, bCells_snoc]
def APost (w : World) (L : List Nd) (n : Nat) (e : Ending) (w' : World) : Prop :=
  ∃ ad, e = .returned (.tuple #[.slice (some ad) n n, .int .i64 0]) ∧ Lies w' (some ad) (bCells (truF L)) ∧ Below w.heap.size w w'
end Go.Proofs.YtajchaknfkfljaaDoor.K6
