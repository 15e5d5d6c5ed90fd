/- TopText walks to true; from the row's premise on the laid tables to what the walk takes. -/
import Derived.Test.YtfnkofcgjbakeaaDoorTTop
import Derived.Test.YtfnkofcgjbakeaaDoorCA
import Derived.Test.YtfnkofcgjbakeaaDoorKMem
namespace Go.Proofs.YtfnkofcgjbakeaaDoor.T6
open Go.Lib Go.ChangeShapes Go.WideShapes Go.ChangeAt Go.RowKit N4
set_option linter.unusedVariables false
set_option maxRecDepth 100000

theorem TopText_walk (S : ByteArray) (w : World) (hs : S.size ≤ maxLen) (ht : TB w) (hsg : K6.SigT w) :
    Calls Tryd.prog 9 #[.string S] w fun e w' => e = .returned (.bool true) ∧ Below w.heap.size w w' := by
  obtain ⟨T, rfl⟩ : ∃ T, S = bytesOf T := ⟨S.data.toList, by cases S; simp [bytesOf]⟩
  rw [bytesOf_size] at hs
  have hg : G6 w w := G6.start ht hsg
  obtain ⟨⟨L, q, er⟩, hA⟩ : ∃ r, allF T = r := ⟨_, rfl⟩
  have HA : ∀ W, G6 w W → Calls Tryd.prog 29 #[.string (bytesOf T)] W fun e w' => ∃ A c, e = .returned (.tuple #[.slice A L.length c, .int .i64 q, .int .i64 er]) ∧ Toks w' A L ∧ G6 w w' := fun W hW => all6 T hs L q er hA w W hW
  have hL : (allF T).1 = L := by rw [hA]
  have hck := allF_chk T
  rw [hL] at hck
  obtain ⟨h200, hok, hat⟩ := chk_zero hck
  by_cases h4 : 400 < (bytesOf T).size
  · exact top_big (bytesOf T) L L.length q er w hg HA h4
  by_cases he : er ≠ 0
  · exact top_err (bytesOf T) L L.length q er w hg HA (by omega) he
  obtain rfl : er = 0 := by omega
  by_cases h0 : L.length = 0
  · exact top_nil (bytesOf T) L L.length q 0 w hg HA (by omega) rfl h0
  have hv : ∀ t ∈ L, checkE t.k t.s = 0 := fun t ht => by simpa using (List.all_eq_true.1 hok) t ht
  have hsm : ∀ t ∈ L, t.s.length ≤ 400 := by
    rw [bytesOf_size] at h4
    obtain ⟨ts, q', e, hl, h2⟩ := allF_lex T (by omega)
    rw [hA] at h2
    injection h2 with h2 h3
    injection h3 with _ h3
    subst h3
    rw [if_pos rfl] at h2
    subst h2
    intro t ht
    have := hl.small t ht
    omega
  have hsx : ∀ t ∈ L, t.s.length ≤ maxLen := fun t ht => by have := hsm t ht; unfold maxLen; omega
  obtain ⟨r, hr⟩ := rd_ex L
  have HP := fun A c W (hW : G6 w W) (hT : Toks W A L) => parse6 A c L.length L r rfl hsx hck hr w W hW hT
  cases r with
  | er v q2 =>
    refine top_e (bytesOf T) L L.length q w hg HA (by omega) rfl (by omega) h200 hv hsm (L.length - q2.length) v (fun A c W hW hT => (HP A c W hW hT).mono ?_) (hr.er_ne rfl)
    rintro e w' ⟨⟨_, rfl⟩, hg'⟩
    exact ⟨none, 0, 0, rfl, hg'⟩
  | ok t q2 =>
    have hgd := hr.good hat trivial rfl
    have hbg := hr.big trivial rfl
    by_cases hq : q2 = []
    · subst hq
      refine top_ok (bytesOf T) L L.length q w hg HA (by omega) rfl (by omega) h200 hv hsm t hr hgd.1 hgd.2 hbg (fun A c W hW hT => (HP A c W hW hT).mono ?_)
      rintro e w' ⟨⟨hb, A3, c3, rfl, hl3⟩, hg'⟩
      exact ⟨A3, c3, rfl, hl3, hb⟩
    · have hql := List.length_pos_iff.2 hq
      have hsf : q2.length ≤ L.length := by
        have := (hr.suf).length_le
        exact this
      refine top_n (bytesOf T) L L.length q w hg HA (by omega) rfl (by omega) h200 hv hsm (L.length - q2.length) 0 (fun A c W hW hT => (HP A c W hW hT).mono ?_) rfl (by omega)
      rintro e w' ⟨⟨_, A3, c3, rfl, hl3⟩, hg'⟩
      exact ⟨A3, _, _, rfl, hg'⟩

theorem top_of_laid {W : World} (h : laidMet Tryd.prog [("math/bits.deBruijn32tab", Rows.laid_math_bits_deBruijn32tab), ("math/bits.deBruijn64tab", Rows.laid_math_bits_deBruijn64tab), ("internal/strconv.uint64pow10", Rows.laid_internal_strconv_uint64pow10), ("tailwater/chars.symbols", Rows.laid_tailwater_chars_symbols), ("tailwater/chars.words", Rows.laid_tailwater_chars_words), ("tailwater/kinds.signatures", Rows.laid_tailwater_kinds_signatures), ("tailwater/exprs.fields", Rows.laid_tailwater_exprs_fields), ("tailwater/exprs.operators", Rows.laid_tailwater_exprs_operators)] W) : TB W ∧ K6.SigT W := by
  have hp := h.tail.tail
  have hs := hp.tail
  have hw := hs.tail
  have hk := hw.tail
  have hf := hk.tail
  have ho := hf.tail
  refine ⟨⟨⟨?_, ?_⟩, ⟨?_, ?_⟩, ?_⟩, ?_⟩
  · have h' : laidMet Tryd.prog (("tailwater/chars.symbols", strData symL) :: [("tailwater/chars.words", Rows.laid_tailwater_chars_words), ("tailwater/kinds.signatures", Rows.laid_tailwater_kinds_signatures), ("tailwater/exprs.fields", Rows.laid_tailwater_exprs_fields), ("tailwater/exprs.operators", Rows.laid_tailwater_exprs_operators)]) W := hs
    exact strs_of_head (by kernel_rfl) (by kernel_rfl) Tryd.underlying115 Tryd.underlying9 (by kernel_rfl) (by kernel_rfl) h'
  · have h' : laidMet Tryd.prog (("tailwater/chars.words", strData wordL) :: [("tailwater/kinds.signatures", Rows.laid_tailwater_kinds_signatures), ("tailwater/exprs.fields", Rows.laid_tailwater_exprs_fields), ("tailwater/exprs.operators", Rows.laid_tailwater_exprs_operators)]) W := hw
    exact strs_of_head (by kernel_rfl) (by kernel_rfl) Tryd.underlying119 Tryd.underlying9 (by kernel_rfl) (by kernel_rfl) h'
  · have h' : laidMet Tryd.prog (("tailwater/exprs.operators", strData opT) :: []) W := ho
    exact strs_of_head (by kernel_rfl) (by kernel_rfl) Tryd.underlying115 Tryd.underlying9 (by kernel_rfl) (by kernel_rfl) h'
  · have h' : laidMet Tryd.prog (("tailwater/exprs.fields", strData fldT) :: [("tailwater/exprs.operators", Rows.laid_tailwater_exprs_operators)]) W := hf
    exact strs_of_head (by kernel_rfl) (by kernel_rfl) Tryd.underlying114 Tryd.underlying9 (by kernel_rfl) (by kernel_rfl) h'
  · have h' : laidMet Tryd.prog (("internal/strconv.uint64pow10", Lib.tabData .u64 Lib.pow10Tab) :: [("tailwater/chars.symbols", Rows.laid_tailwater_chars_symbols), ("tailwater/chars.words", Rows.laid_tailwater_chars_words), ("tailwater/kinds.signatures", Rows.laid_tailwater_kinds_signatures), ("tailwater/exprs.fields", Rows.laid_tailwater_exprs_fields), ("tailwater/exprs.operators", Rows.laid_tailwater_exprs_operators)]) W := hp
    exact Lib.tabIs_of_head (g := 5) (by kernel_rfl) (by kernel_rfl) Tryd.underlying149 Tryd.underlying142 (by kernel_rfl) (by kernel_rfl) h'
  · have h' : laidMet Tryd.prog (("tailwater/kinds.signatures", K6.sigData K6.sigL) :: [("tailwater/exprs.fields", Rows.laid_tailwater_exprs_fields), ("tailwater/exprs.operators", Rows.laid_tailwater_exprs_operators)]) W := hk
    exact K6.sigs_of_head h'
end Go.Proofs.YtfnkofcgjbakeaaDoor.T6
