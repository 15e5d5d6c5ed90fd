/- From the row's premise on the laid tables to the facts that the walks take. -/
import Derived.Test.YtlmamidodahgmaaGreatDoorPParse
import Derived.Test.YtlmamidodahgmaaGreatDoorRows
namespace Go.Proofs.YtlmamidodahgmaaGreatDoor.P9
open Go.Lib Go.RowKit N4 Q8
set_option linter.unusedVariables false
set_option maxRecDepth 100000

theorem t9_of_laid {W : World} (h : laidMet Tryz.prog [("math/bits.deBruijn32tab", Rows.laid_math_bits_deBruijn32tab), ("math/bits.deBruijn64tab", Rows.laid_math_bits_deBruijn64tab), ("internal/strconv.uint64pow10", Rows.laid_internal_strconv_uint64pow10), ("tailwater/chars.symbols", Rows.laid_tailwater_chars_symbols), ("tailwater/chars.words", Rows.laid_tailwater_chars_words), ("tailwater/clauses.names", Rows.laid_tailwater_clauses_names), ("tailwater/exprs.fields", Rows.laid_tailwater_exprs_fields), ("tailwater/exprs.operators", Rows.laid_tailwater_exprs_operators)] W) : T9 W := by
  have h0 := h.tail.tail.tail
  have h1 := h0.tail
  have h2 := h1.tail
  have h3 := h2.tail
  have h4 := h3.tail
  refine ⟨⟨?_, ?_⟩, ⟨?_, ?_⟩, ?_⟩
  · have h' : laidMet Tryz.prog (("tailwater/chars.symbols", strData symL) :: [("tailwater/chars.words", Rows.laid_tailwater_chars_words), ("tailwater/clauses.names", Rows.laid_tailwater_clauses_names), ("tailwater/exprs.fields", Rows.laid_tailwater_exprs_fields), ("tailwater/exprs.operators", Rows.laid_tailwater_exprs_operators)]) W := h0
    exact strs_of_head (by kernel_rfl) (by kernel_rfl) Tryz.underlying122 Tryz.underlying9 (by kernel_rfl) (by kernel_rfl) h'
  · have h' : laidMet Tryz.prog (("tailwater/chars.words", strData wordL) :: [("tailwater/clauses.names", Rows.laid_tailwater_clauses_names), ("tailwater/exprs.fields", Rows.laid_tailwater_exprs_fields), ("tailwater/exprs.operators", Rows.laid_tailwater_exprs_operators)]) W := h1
    exact strs_of_head (by kernel_rfl) (by kernel_rfl) Tryz.underlying127 Tryz.underlying9 (by kernel_rfl) (by kernel_rfl) h'
  · have h' : laidMet Tryz.prog (("tailwater/exprs.operators", strData opT) :: []) W := h4
    exact strs_of_head (by kernel_rfl) (by kernel_rfl) Tryz.underlying122 Tryz.underlying9 (by kernel_rfl) (by kernel_rfl) h'
  · have h' : laidMet Tryz.prog (("tailwater/exprs.fields", strData fldT) :: [("tailwater/exprs.operators", Rows.laid_tailwater_exprs_operators)]) W := h3
    exact strs_of_head (by kernel_rfl) (by kernel_rfl) Tryz.underlying121 Tryz.underlying9 (by kernel_rfl) (by kernel_rfl) h'
  · have h' : laidMet Tryz.prog (("tailwater/clauses.names", strData namL) :: [("tailwater/exprs.fields", Rows.laid_tailwater_exprs_fields), ("tailwater/exprs.operators", Rows.laid_tailwater_exprs_operators)]) W := h2
    exact strs_of_head (by kernel_rfl) (by kernel_rfl) Tryz.underlying98 Tryz.underlying9 (by kernel_rfl) (by kernel_rfl) h'
end Go.Proofs.YtlmamidodahgmaaGreatDoor.P9
