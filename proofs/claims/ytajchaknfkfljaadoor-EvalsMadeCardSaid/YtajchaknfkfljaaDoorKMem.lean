
/- The table of package kinds, as the laws' walks meet it, and from the row's premise on the laid tables. -/
import Derived.Test.YtajchaknfkfljaaDoorKMath
import Derived.Test.YtajchaknfkfljaaDoorNB
import Derived.Test.YtajchaknfkfljaaDoorRows
import Derived.LaidMore
import Derived.Stop.Joined
import Derived.Stop.LaidErr
import Derived.Lib.LaidTab
import Derived.OpenShut
namespace Go.Proofs.YtajchaknfkfljaaDoor.K6
open Go.Lib Go.RowKit Go.ChangeShapes Go.WideShapes Go.ChangeAt N4
set_option linter.unusedVariables false

def sigL : List (Int × Int) := (List.range 20).map fun k => (takeB (k : Nat), giveB (k : Nat))
def sigC (p : Int × Int) : List Value := [.int .u8 p.1, .int .u8 p.2]
def sigCells (L : List (Int × Int)) : List Value := L.flatMap sigC
def sigData {H : Type} (L : List (Int × Int)) : DataW H := .agg (L.map fun p => .agg [.lit (.int .u8 p.1), .lit (.int .u8 p.2)])
theorem sigCells_length (L : List (Int × Int)) : (sigCells L).length = L.length * 2 := by
  induction L with
  | nil => rfl
  | cons t r ih => rw [sigCells, List.flatMap_cons, List.length_append]; show 2 + (sigCells r).length = _; rw [ih, List.length_cons]; omega
theorem sigCells_at (E : List (Int × Int)) : ∀ (i : Nat) (y : Int × Int), E[i]? = some y → ∀ j, j < 2 → (sigCells E)[i * 2 + j]? = (sigC y)[j]? := by
  induction E with
  | nil => intro i x h; simp at h
  | cons t r ih =>
    intro i x h j hj
    have e : sigCells (t :: r) = sigC t ++ sigCells r := rfl
    have l5 : (sigC t).length = 2 := rfl
    rw [e]
    cases i with
    | zero =>
      rw [List.getElem?_cons_zero] at h
      injection h with h
      subst h
      rw [Nat.zero_mul, Nat.zero_add, List.getElem?_append_left (by omega)]
    | succ i =>
      rw [List.getElem?_cons_succ] at h
      rw [List.getElem?_append_right (by omega), show (i + 1) * 2 + j - (sigC t).length = i * 2 + j by omega]
      exact ih i x h j hj
/-- The table stands. -/
def SigT (w : World) : Prop := ∃ t fr, w.heap[(0 : Nat)]? = some (.cells (sigCells sigL).toArray t fr)
theorem SigT.stays {w w' : World} (h : SigT w) (hb : Below w.heap.size w w') : SigT w' := by
  obtain ⟨t, fr, h⟩ := h
  refine ⟨t, fr, ?_⟩
  rw [hb.block _ ?_, h]
  exact (Array.getElem?_eq_some_iff.1 h).1
theorem SigT.lt {w : World} (h : SigT w) : (0 : Nat) < w.heap.size := by
  obtain ⟨t, fr, h⟩ := h
  exact (Array.getElem?_eq_some_iff.1 h).1
theorem sigL_at : ∀ k : Nat, k < 20 → sigL[k]? = some (takeB k, giveB k) := by
  intro k hk
  unfold sigL
  rw [List.getElem?_map, List.getElem?_range hk]
  rfl
theorem SigT.cells {w : World} (h : SigT w) {k : Nat} (hk : k < 20) : w.cell? ⟨0, k * 2, none⟩ = some (.int .u8 (takeB k)) ∧ w.cell? ⟨0, k * 2 + 1, none⟩ = some (.int .u8 (giveB k)) := by
  obtain ⟨t, fr, h⟩ := h
  have c0 := sigCells_at sigL k _ (sigL_at k hk) 0 (by decide)
  have c1 := sigCells_at sigL k _ (sigL_at k hk) 1 (by decide)
  constructor
  · unfold World.cell?
    rw [h]
    simpa [sigC] using c0
  · unfold World.cell?
    rw [h]
    simpa [sigC] using c1

section
variable {H : Type} {enc : TypeId × Value → H} {W : World} {sp : Nat → Bool} {held : Bool}
theorem sig_cells : Tryd.prog.cellsOf 105 = 2 := by kernel_rfl
theorem tab_cells : Tryd.prog.cellsOf 106 = 40 := by kernel_rfl
theorem su8_cells : Tryd.prog.cellsOf 5 = 1 := by kernel_rfl
set_option maxRecDepth 100000 in
theorem open_sig {n : Nat} {base : Nat} {cs : List Value} {p : Int × Int} {q : List MemPlace} (h : DataW.trod enc Tryd.prog W base sp held n 105 cs = some (.agg [.lit (.int .u8 p.1), .lit (.int .u8 p.2)], q)) : cs = sigC p := by
  obtain ⟨xs, n', _, hx, hlen, hxl, hf⟩ := DataW.trod_struct Tryd.underlying105 h
  rw [sig_cells] at hlen
  match cs, hlen with
  | [c0, c1], _ =>
    have h0 : DataW.trod enc Tryd.prog W base sp held n' 5 (([c0, c1].drop 0).take (Tryd.prog.cellsOf 5)) = xs[0]? := hf 0 _ rfl
    have h1 : DataW.trod enc Tryd.prog W base sp held n' 5 (([c0, c1].drop 1).take (Tryd.prog.cellsOf 5)) = xs[1]? := hf 1 _ rfl
    simp only [su8_cells, List.drop_zero, List.drop_succ_cons, List.take_succ_cons, List.take_zero] at h0 h1
    match xs, hxl with
    | [y0, y1], _ =>
      obtain ⟨k, e0, rfl, _⟩ := DataW.trod_int Tryd.underlying5 h0
      obtain ⟨n, e1, rfl, _⟩ := DataW.trod_int Tryd.underlying5 h1
      simp only [List.cons.injEq, and_true] at e0 e1
      subst e0 e1
      have := congrArg Prod.fst hx
      simp at this
      obtain ⟨h2, h3⟩ := this
      simp [sigC, h2, h3]
set_option maxRecDepth 100000 in
theorem open_sigs {n : Nat} {base : Nat} {cs : List Value} {L : List (Int × Int)} {q : List MemPlace} (h : DataW.trod enc Tryd.prog W base sp held n 106 cs = some (sigData L, q)) : cs = sigCells L := by
  obtain ⟨xs, m, _, hx, hlen, hxl, hf⟩ := DataW.trod_array Tryd.underlying106 h
  rw [tab_cells] at hlen
  have hxs : xs.map (·.1) = L.map fun p => (.agg [.lit (.int .u8 p.1), .lit (.int .u8 p.2)] : DataW H) := by
    have := congrArg Prod.fst hx
    simpa [sigData] using this.symm
  have hL : L.length = 20 := by
    have := congrArg List.length hxs
    simp at this
    omega
  rw [sig_cells] at hf
  have key : ∀ i, i < 20 → (cs.drop (i * 2)).take 2 = sigC (L[i]?.getD (0, 0)) := by
    intro i hi
    have h1 := hf i hi
    obtain ⟨x, hx'⟩ : ∃ x, xs[i]? = some x := ⟨_, List.getElem?_eq_getElem (by omega)⟩
    obtain ⟨p, hp⟩ : ∃ p, L[i]? = some p := ⟨_, List.getElem?_eq_getElem (by omega)⟩
    rw [hx'] at h1
    have h2 : (xs.map (·.1))[i]? = some x.1 := by rw [List.getElem?_map, hx']; rfl
    rw [hxs, List.getElem?_map, hp] at h2
    injection h2 with h2
    obtain ⟨x1, x2⟩ := x
    simp only at h2
    subst h2
    rw [hp]
    exact open_sig h1
  apply List.ext_getElem?
  intro j
  by_cases hj : j < 40
  · have h1 := key (j / 2) (by omega)
    obtain ⟨p, hp⟩ : ∃ p, L[j / 2]? = some p := ⟨_, List.getElem?_eq_getElem (by omega)⟩
    rw [hp] at h1
    have h2 := sigCells_at L (j / 2) p hp (j % 2) (by omega)
    rw [show j / 2 * 2 + j % 2 = j by omega] at h2
    rw [h2]
    have h3 : ((cs.drop (j / 2 * 2)).take 2)[j % 2]? = (sigC p)[j % 2]? := by rw [h1]; rfl
    rw [List.getElem?_take, if_pos (by omega), List.getElem?_drop, show j / 2 * 2 + j % 2 = j by omega] at h3
    exact h3
  · rw [List.getElem?_eq_none (by omega), List.getElem?_eq_none (by rw [sigCells_length]; omega)]
end
theorem sigs_of_head {W : World} {rest : List (String × DataW Unit)} (h : laidMet Tryd.prog (("tailwater/kinds.signatures", sigData sigL) :: rest) W) : SigT W := by
  obtain ⟨ps, ⟨g', t', cs, fuel, p, q, hg', ht', hvar, hd, _, _⟩, _⟩ := h
  have hg : Tryd.prog.globalNamed "tailwater/kinds.signatures" = some 0 := by kernel_rfl
  have hty : (Tryd.prog.globals[(0 : Nat)]?).map (·.type) = some 106 := by kernel_rfl
  obtain rfl := Option.some.inj (hg.symm.trans hg')
  obtain rfl := Option.some.inj (hty.symm.trans ht')
  have hc := open_sigs hd
  unfold World.var? at hvar
  rw [hg] at hvar
  simp only [Option.bind_some] at hvar
  split at hvar
  · rename_i cs' t2 fr hh
    simp only [Option.some.injEq] at hvar
    subst hvar
    refine ⟨t2, fr, ?_⟩
    rw [hh, ← hc]
  · cases hvar
theorem sigs_of_laid {W : World} (h : laidMet Tryd.prog [("tailwater/kinds.signatures", Rows.laid_tailwater_kinds_signatures)] W) : SigT W := by
  have h' : laidMet Tryd.prog (("tailwater/kinds.signatures", sigData sigL) :: []) W := h
  exact sigs_of_head h'
end Go.Proofs.YtajchaknfkfljaaDoor.K6
