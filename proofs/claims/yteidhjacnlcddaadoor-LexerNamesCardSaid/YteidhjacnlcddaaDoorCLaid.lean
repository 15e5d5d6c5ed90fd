/- From the row's premise on the laid tables of package chars to the fact that the walks take. -/
import Derived.Test.YteidhjacnlcddaaDoorCTab
import Derived.Test.YteidhjacnlcddaaDoorRows
import Derived.LaidMore
import Derived.Stop.Joined
import Derived.Stop.LaidErr
import Derived.Lib.LaidTab
namespace Go.Proofs.YteidhjacnlcddaaDoor
open Go.Lib Go.RowKit
set_option linter.unusedVariables false

def strData {H : Type} (L : List (List UInt8)) : DataW H := .agg (L.map fun b => .lit (.string b))

theorem cells_of_strs {H : Type} {enc : TypeId × Value → H} {P : Program} {w : World} {base : Nat} {sp : Nat → Bool} {held : Bool} {fuel : Nat} {t e : TypeId} {n : Nat} {cs : List Value} {L : List (List UInt8)} {p : List MemPlace}
    (ht : P.underlying t = some (.array n e)) (he : P.underlying e = some .string) (hce : P.cellsOf e = 1) (hct : P.cellsOf t = n)
    (h : DataW.trod enc P w base sp held fuel t cs = some (strData L, p)) : cs.toArray = strsOf L := by
  cases fuel with
  | zero => simp [DataW.trod] at h
  | succ fuel =>
    simp only [DataW.trod, ht, hce, hct, Nat.mul_one] at h
    split at h
    · rename_i hl
      obtain ⟨xs, hm, hx⟩ := Option.map_eq_some_iff.1 h
      have hxs : xs.map (·.1) = L.map fun b => (DataW.lit (.string b) : DataW H) := by
        have := congrArg Prod.fst hx
        simpa [strData] using this
      have hxl : xs.length = n := by simpa using mapM_length hm
      have hzl : L.length = n := by
        have := congrArg List.length hxs
        simp at this
        omega
      have : cs = L.map fun b => Value.string (bytesOf b) := by
        apply List.ext_getElem?
        intro i
        by_cases hi : i < n
        · obtain ⟨b, hb, hf⟩ := mapM_at hm i i (by simp [hi])
          obtain ⟨z, hc, rfl, _⟩ := DataW.trod_string he hf
          have h1 : cs[i]? = some (.string z) := by
            have := congrArg (·[0]?) hc
            simpa [List.getElem?_take, List.getElem?_drop] using this
          have h2 : (xs.map (·.1))[i]? = some (DataW.lit (.string z.data.toList) : DataW H) := by simp [hb]
          rw [hxs] at h2
          simp only [List.getElem?_map, Option.map_eq_some_iff, DataW.lit.injEq, Lit.string.injEq] at h2
          obtain ⟨z', hz', rfl⟩ := h2
          simp [h1, hz', bytesOf]
        · rw [List.getElem?_eq_none (by omega), List.getElem?_eq_none (by simp; omega)]
      rw [this]; rfl
    · cases h

theorem strs_of_head {P : Program} {W : World} {name : String} {L : List (List UInt8)} {rest : List (String × DataW Unit)} {g : Nat} {t e : TypeId} {n : Nat}
    (hg : P.globalNamed name = some g) (hty : (P.globals[g]?).map (·.type) = some t) (ht : P.underlying t = some (.array n e)) (he : P.underlying e = some .string) (hce : P.cellsOf e = 1) (hct : P.cellsOf t = n)
    (h : laidMet P ((name, strData L) :: rest) W) : Tab W g L := by
  obtain ⟨ps, ⟨g', t', cs, fuel, p, q, hg', ht', hvar, hd, _, _⟩, _⟩ := h
  obtain rfl := Option.some.inj (hg.symm.trans hg')
  obtain rfl := Option.some.inj (hty.symm.trans ht')
  have hc := cells_of_strs ht he hce hct hd
  unfold World.var? at hvar
  rw [hg] at hvar
  simp only [Option.bind_some] at hvar
  split at hvar
  · rename_i cs' t2 fr hh
    simp only [Option.some.injEq] at hvar
    subst hvar
    rw [Array.toArray_toList] at hc
    subst hc
    exact ⟨t2, fr, hh⟩
  · cases hvar

theorem tabs_of_laid {W : World} (h : laidMet Tryd.prog [("tailwater/chars.symbols", Rows.laid_tailwater_chars_symbols), ("tailwater/chars.words", Rows.laid_tailwater_chars_words)] W) : Tabs W := by
  refine ⟨?_, ?_⟩
  · have h' : laidMet Tryd.prog (("tailwater/chars.symbols", strData symL) :: [("tailwater/chars.words", Rows.laid_tailwater_chars_words)]) W := h
    exact strs_of_head (by kernel_rfl) (by kernel_rfl) Tryd.underlying80 Tryd.underlying9 (by kernel_rfl) (by kernel_rfl) h'
  · have h' : laidMet Tryd.prog (("tailwater/chars.words", strData wordL) :: []) W := h.tail
    exact strs_of_head (by kernel_rfl) (by kernel_rfl) Tryd.underlying75 Tryd.underlying9 (by kernel_rfl) (by kernel_rfl) h'
end Go.Proofs.YteidhjacnlcddaaDoor
