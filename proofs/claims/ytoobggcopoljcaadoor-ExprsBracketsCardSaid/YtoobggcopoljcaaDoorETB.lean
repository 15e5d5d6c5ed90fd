/- From the row's premise on the laid tables to the facts that the walks take. -/
import Derived.Test.YtoobggcopoljcaaDoorEAlive
import Derived.Test.YtoobggcopoljcaaDoorCA
namespace Go.Proofs.YtoobggcopoljcaaDoor
open Go.Lib Go.RowKit
set_option linter.unusedVariables false
set_option maxRecDepth 100000

theorem tb_of_laid {W : World} (h : laidMet Tryd.prog [("math/bits.deBruijn32tab", Rows.laid_math_bits_deBruijn32tab), ("math/bits.deBruijn64tab", Rows.laid_math_bits_deBruijn64tab), ("internal/strconv.uint64pow10", Rows.laid_internal_strconv_uint64pow10), ("tailwater/chars.symbols", Rows.laid_tailwater_chars_symbols), ("tailwater/chars.words", Rows.laid_tailwater_chars_words), ("tailwater/exprs.fields", Rows.laid_tailwater_exprs_fields), ("tailwater/exprs.operators", Rows.laid_tailwater_exprs_operators)] W) : TB W := by
  have hp := h.tail.tail
  have hs := hp.tail
  have hw := hs.tail
  have hf := hw.tail
  have ho := hf.tail
  refine ⟨⟨?_, ?_⟩, ⟨?_, ?_⟩, ?_⟩
  · have h' : laidMet Tryd.prog (("tailwater/chars.symbols", strData symL) :: [("tailwater/chars.words", Rows.laid_tailwater_chars_words), ("tailwater/exprs.fields", Rows.laid_tailwater_exprs_fields), ("tailwater/exprs.operators", Rows.laid_tailwater_exprs_operators)]) W := hs
    exact strs_of_head (by kernel_rfl) (by kernel_rfl) Tryd.underlying92 Tryd.underlying9 (by kernel_rfl) (by kernel_rfl) h'
  · have h' : laidMet Tryd.prog (("tailwater/chars.words", strData wordL) :: [("tailwater/exprs.fields", Rows.laid_tailwater_exprs_fields), ("tailwater/exprs.operators", Rows.laid_tailwater_exprs_operators)]) W := hw
    exact strs_of_head (by kernel_rfl) (by kernel_rfl) Tryd.underlying104 Tryd.underlying9 (by kernel_rfl) (by kernel_rfl) h'
  · have h' : laidMet Tryd.prog (("tailwater/exprs.operators", strData opT) :: []) W := ho
    exact strs_of_head (by kernel_rfl) (by kernel_rfl) Tryd.underlying92 Tryd.underlying9 (by kernel_rfl) (by kernel_rfl) h'
  · have h' : laidMet Tryd.prog (("tailwater/exprs.fields", strData fldT) :: [("tailwater/exprs.operators", Rows.laid_tailwater_exprs_operators)]) W := hf
    exact strs_of_head (by kernel_rfl) (by kernel_rfl) Tryd.underlying91 Tryd.underlying9 (by kernel_rfl) (by kernel_rfl) h'
  · have h' : laidMet Tryd.prog (("internal/strconv.uint64pow10", Lib.tabData .u64 Lib.pow10Tab) :: [("tailwater/chars.symbols", Rows.laid_tailwater_chars_symbols), ("tailwater/chars.words", Rows.laid_tailwater_chars_words), ("tailwater/exprs.fields", Rows.laid_tailwater_exprs_fields), ("tailwater/exprs.operators", Rows.laid_tailwater_exprs_operators)]) W := hp
    exact Lib.tabIs_of_head (g := 4) (by kernel_rfl) (by kernel_rfl) Tryd.underlying134 Tryd.underlying127 (by kernel_rfl) (by kernel_rfl) h'
end Go.Proofs.YtoobggcopoljcaaDoor
