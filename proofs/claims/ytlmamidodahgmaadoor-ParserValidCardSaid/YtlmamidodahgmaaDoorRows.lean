/-
  NARROWER THAN 'FOR EVERY INPUT', by the rows' own cells (each row's printed sentence says how): ParserNames: laid · ParserValid: laid · ParserBlanks: laid.
  DERIVED. THE GIVEN ROWS OF THIS SEAT. 3 by the template 'for every input the law returns true; each argument reads behind the call as it read before'; 0 by the template 'total and deterministic' (their statements: YtlmamidodahgmaaDoorTotals.lean).
  GIVEN WITH THE SEED: the statements are not yours to turn. If you find one false, say at which input.
  Laid BY PROGRAM, IN A SANDBOX (cutbox-rows.mjs): the forced cells as the released guide's own fill.sh prints them over the translation eaac34d9ba1276e7… (all of the seat's roots in one cut). By AI agents, Wed Nov 11 2026. No macro, syntax, notation, axiom, sorry.
-/
import Derived.Test.YtlmamidodahgmaaDoorChecked
import GoSem.Claim
import GoSem.ClaimJoined
import GoSem.ClaimMapViews
import Derived.JoinedTies
import Derived.KernelRfl
namespace Go.Proofs.YtlmamidodahgmaaDoor
/- THE CELL 'sum', in the pinned program and in every row, IS THE sha256 OF THE DUMP (.gsa) THAT YtlmamidodahgmaaDoorProg.lean LOADS. Nothing in Lean hashes anything: it is a label: what it is worth is what the hold of that sum in a sandbox is worth. -/
noncomputable def Tryd.pinned : Pinned := { name := "ytlmamidodahgmaadoor", sum := "eaac34d9ba1276e7223eb3ee819acff977b43c6658e01e61cc15669b4befa850", checked := Tryd.checked }
namespace Rows
def none {H : Type} : Left H := { results := [], args := [] }

/- WHAT THE LISTED PACKAGE-LEVEL VARIABLES READ AS WHEN THE CALL BEGINS. Each datum BY PROGRAM (the guide's laid-datum.mjs) off the statement by which the dump's own 'gosem.cut.vars' lays the variable. In a bare row this is a premise. The card (YtlmamidodahgmaaDoorCards.lean) ties it to the program's text. -/
def laid_tailwater_chars_symbols {H : Type} : DataW H := .agg [.lit (.string [60, 61]), .lit (.string [60, 60]), .lit (.string [62, 61]), .lit (.string [62, 62]), .lit (.string [33, 61]), .lit (.string [40]), .lit (.string [41]), .lit (.string [42]), .lit (.string [43]), .lit (.string [45]), .lit (.string [60]), .lit (.string [62]), .lit (.string [61])]
def laid_tailwater_chars_words {H : Type} : DataW H := .agg [.lit (.string [115, 101, 108, 101, 99, 116]), .lit (.string [99, 111, 117, 110, 116]), .lit (.string [115, 117, 109]), .lit (.string [109, 105, 110]), .lit (.string [109, 97, 120]), .lit (.string [102, 114, 111, 109]), .lit (.string [117, 110, 105, 111, 110]), .lit (.string [106, 111, 105, 110]), .lit (.string [119, 104, 101, 114, 101]), .lit (.string [119, 105, 110, 100, 111, 119]), .lit (.string [116, 117, 109, 98, 108, 101]), .lit (.string [115, 108, 105, 100, 101]), .lit (.string [101, 118, 101, 114, 121]), .lit (.string [115, 101, 115, 115, 105, 111, 110]), .lit (.string [98, 121]), .lit (.string [107, 101, 121]), .lit (.string [108, 97, 116, 101]), .lit (.string [100, 114, 111, 112]), .lit (.string [115, 105, 100, 101]), .lit (.string [97, 110, 100]), .lit (.string [111, 114]), .lit (.string [110, 111, 116]), .lit (.string [97]), .lit (.string [98]), .lit (.string [99]), .lit (.string [100]), .lit (.string [107]), .lit (.string [116]), .lit (.string [118])]
def laid_tailwater_clauses_names {H : Type} : DataW H := .agg [.lit (.string [97]), .lit (.string [98]), .lit (.string [99]), .lit (.string [100])]
def laid_tailwater_exprs_fields {H : Type} : DataW H := .agg [.lit (.string [107]), .lit (.string [116]), .lit (.string [118])]
def laid_tailwater_exprs_operators {H : Type} : DataW H := .agg [.lit (.string [42]), .lit (.string [43]), .lit (.string [45]), .lit (.string [60, 60]), .lit (.string [62, 62]), .lit (.string [60]), .lit (.string [60, 61]), .lit (.string [62]), .lit (.string [62, 61]), .lit (.string [61]), .lit (.string [33, 61]), .lit (.string [97, 110, 100]), .lit (.string [111, 114])]

/-- 'tailwaterlaw09.ParserNames': WHATEVER THE INPUT: true; the input reads as it did. -/
def parserNamesSpec : ChangeSpec := { name := "parserNames", fn := fun _ => fun
  | [] => { results := [.lit (.bool true)], args := [] }
  | _ => none }
def parserNamesRow : OpenClaim := { program := "ytlmamidodahgmaadoor", sum := "eaac34d9ba1276e7223eb3ee819acff977b43c6658e01e61cc15669b4befa850", func := "tailwater/tailwaterlaw09.ParserNames", spec := "parserNames", inPlace := ["internal/abi.NoEscape"], unfollowed := true, recurses := true, named := ["tailwater/chars.symbols", "tailwater/chars.words", "tailwater/exprs.fields", "tailwater/exprs.operators", "tailwater/clauses.names"], apart := false, laid := [("tailwater/chars.symbols", laid_tailwater_chars_symbols), ("tailwater/chars.words", laid_tailwater_chars_words), ("tailwater/clauses.names", laid_tailwater_clauses_names), ("tailwater/exprs.fields", laid_tailwater_exprs_fields), ("tailwater/exprs.operators", laid_tailwater_exprs_operators)] }
def ParserNamesSaid : Prop := parserNamesRow.holds Tryd.pinned (OpenSpec.ofChange parserNamesSpec)

/-- ITS FALSE NEIGHBOUR: 'it returns false'. Refute it at one input. -/
def parserNamesWrong : ChangeSpec := { name := "parserNames", fn := fun _ => fun
  | [] => { results := [.lit (.bool false)], args := [] }
  | _ => none }
def ParserNamesWrongFalsely : Prop := parserNamesRow.holds Tryd.pinned (OpenSpec.ofChange parserNamesWrong)

/-- 'tailwaterlaw09.ParserValid': WHATEVER THE INPUT: true; the input reads as it did. -/
def parserValidSpec : ChangeSpec := { name := "parserValid", fn := fun _ => fun
  | [d] => { results := [.lit (.bool true)], args := [d] }
  | _ => none }
def parserValidRow : OpenClaim := { program := "ytlmamidodahgmaadoor", sum := "eaac34d9ba1276e7223eb3ee819acff977b43c6658e01e61cc15669b4befa850", func := "tailwater/tailwaterlaw09.ParserValid", spec := "parserValid", inPlace := ["internal/abi.NoEscape"], unfollowed := true, recurses := true, named := ["tailwater/chars.symbols", "tailwater/chars.words", "tailwater/exprs.fields", "tailwater/exprs.operators", "tailwater/clauses.names"], apart := false, laid := [("tailwater/chars.symbols", laid_tailwater_chars_symbols), ("tailwater/chars.words", laid_tailwater_chars_words), ("tailwater/clauses.names", laid_tailwater_clauses_names), ("tailwater/exprs.fields", laid_tailwater_exprs_fields), ("tailwater/exprs.operators", laid_tailwater_exprs_operators)] }
def ParserValidSaid : Prop := parserValidRow.holds Tryd.pinned (OpenSpec.ofChange parserValidSpec)

/-- ITS FALSE NEIGHBOUR: 'it returns false'. Refute it at one input. -/
def parserValidWrong : ChangeSpec := { name := "parserValid", fn := fun _ => fun
  | [d] => { results := [.lit (.bool false)], args := [d] }
  | _ => none }
def ParserValidWrongFalsely : Prop := parserValidRow.holds Tryd.pinned (OpenSpec.ofChange parserValidWrong)

/-- 'tailwaterlaw09.ParserBlanks': WHATEVER THE INPUT: true; the input reads as it did. -/
def parserBlanksSpec : ChangeSpec := { name := "parserBlanks", fn := fun _ => fun
  | [d] => { results := [.lit (.bool true)], args := [d] }
  | _ => none }
def parserBlanksRow : OpenClaim := { program := "ytlmamidodahgmaadoor", sum := "eaac34d9ba1276e7223eb3ee819acff977b43c6658e01e61cc15669b4befa850", func := "tailwater/tailwaterlaw09.ParserBlanks", spec := "parserBlanks", inPlace := ["internal/abi.NoEscape"], unfollowed := true, recurses := true, named := ["tailwater/chars.symbols", "tailwater/chars.words", "tailwater/exprs.fields", "tailwater/exprs.operators", "tailwater/clauses.names"], apart := false, laid := [("tailwater/chars.symbols", laid_tailwater_chars_symbols), ("tailwater/chars.words", laid_tailwater_chars_words), ("tailwater/clauses.names", laid_tailwater_clauses_names), ("tailwater/exprs.fields", laid_tailwater_exprs_fields), ("tailwater/exprs.operators", laid_tailwater_exprs_operators)] }
def ParserBlanksSaid : Prop := parserBlanksRow.holds Tryd.pinned (OpenSpec.ofChange parserBlanksSpec)

/-- ITS FALSE NEIGHBOUR: 'it returns false'. Refute it at one input. -/
def parserBlanksWrong : ChangeSpec := { name := "parserBlanks", fn := fun _ => fun
  | [d] => { results := [.lit (.bool false)], args := [d] }
  | _ => none }
def ParserBlanksWrongFalsely : Prop := parserBlanksRow.holds Tryd.pinned (OpenSpec.ofChange parserBlanksWrong)

/- THE SECOND FORM. 'bulk': how many values and letters a reading holds, each counted each time it is reached (what is shared counts as often as it is met; a slice's spare places count too). A statement '..UptoSaid' is the law's where the arguments, and the package variables that the reading takes, are together of bulk at most 1048576: NARROWER than '..Said'. Prove '..Said' where nothing that the law and all that it calls make is longer than what came in: it says more and counts as full. Else prove '..UptoSaid'. A law counts once. -/
mutual
def uptoBulk {H : Type} : DataW H → Nat
  | .lit (.string bytes) => bytes.length + 1
  | .lit _ => 1
  | .nil => 1
  | .ptr d => uptoBulk d + 1
  | .slice elems spare => uptoBulkAll elems + uptoBulkAll spare + 1
  | .agg parts => uptoBulkAll parts + 1
  | .iface _ d => uptoBulk d + 1
  | .map entries => uptoBulkEntries entries + 1
  | .held _ => 1
def uptoBulkAll {H : Type} : List (DataW H) → Nat
  | [] => 0
  | d :: r => uptoBulk d + uptoBulkAll r
def uptoBulkEntries {H : Type} : List (Lit × DataW H) → Nat
  | [] => 0
  | x :: r => uptoBulkEntry x + uptoBulkEntries r
def uptoBulkEntry {H : Type} : Lit × DataW H → Nat
  | (.string bytes, d) => bytes.length + uptoBulk d + 1
  | (_, d) => uptoBulk d + 1
 end
def uptoSmall : (H : Type) → List (DataW H) → Bool := fun _ ds => decide (uptoBulkAll ds ≤ 1048576)
def OpenSpec.upto (s : _root_.Go.ChangeSpec) : _root_.Go.OpenSpec := { _root_.Go.OpenSpec.ofChange s with cond := some uptoSmall }

/-- 'tailwaterlaw09.ParserNames', WHERE WHAT IT READS IS OF BULK AT MOST 1048576: true; the input reads as it did. -/
def parserNamesUptoRow : OpenClaim := { program := "ytlmamidodahgmaadoor", sum := "eaac34d9ba1276e7223eb3ee819acff977b43c6658e01e61cc15669b4befa850", func := "tailwater/tailwaterlaw09.ParserNames", spec := "parserNames", inPlace := ["internal/abi.NoEscape"], unfollowed := true, recurses := true, named := ["tailwater/chars.symbols", "tailwater/chars.words", "tailwater/exprs.fields", "tailwater/exprs.operators", "tailwater/clauses.names"], apart := false, laid := [("tailwater/chars.symbols", laid_tailwater_chars_symbols), ("tailwater/chars.words", laid_tailwater_chars_words), ("tailwater/clauses.names", laid_tailwater_clauses_names), ("tailwater/exprs.fields", laid_tailwater_exprs_fields), ("tailwater/exprs.operators", laid_tailwater_exprs_operators)], narrowed := true }
def ParserNamesUptoSaid : Prop := parserNamesUptoRow.holds Tryd.pinned (OpenSpec.upto parserNamesSpec)

/-- 'tailwaterlaw09.ParserValid', WHERE WHAT IT READS IS OF BULK AT MOST 1048576: true; the input reads as it did. -/
def parserValidUptoRow : OpenClaim := { program := "ytlmamidodahgmaadoor", sum := "eaac34d9ba1276e7223eb3ee819acff977b43c6658e01e61cc15669b4befa850", func := "tailwater/tailwaterlaw09.ParserValid", spec := "parserValid", inPlace := ["internal/abi.NoEscape"], unfollowed := true, recurses := true, named := ["tailwater/chars.symbols", "tailwater/chars.words", "tailwater/exprs.fields", "tailwater/exprs.operators", "tailwater/clauses.names"], apart := false, laid := [("tailwater/chars.symbols", laid_tailwater_chars_symbols), ("tailwater/chars.words", laid_tailwater_chars_words), ("tailwater/clauses.names", laid_tailwater_clauses_names), ("tailwater/exprs.fields", laid_tailwater_exprs_fields), ("tailwater/exprs.operators", laid_tailwater_exprs_operators)], narrowed := true }
def ParserValidUptoSaid : Prop := parserValidUptoRow.holds Tryd.pinned (OpenSpec.upto parserValidSpec)

/-- 'tailwaterlaw09.ParserBlanks', WHERE WHAT IT READS IS OF BULK AT MOST 1048576: true; the input reads as it did. -/
def parserBlanksUptoRow : OpenClaim := { program := "ytlmamidodahgmaadoor", sum := "eaac34d9ba1276e7223eb3ee819acff977b43c6658e01e61cc15669b4befa850", func := "tailwater/tailwaterlaw09.ParserBlanks", spec := "parserBlanks", inPlace := ["internal/abi.NoEscape"], unfollowed := true, recurses := true, named := ["tailwater/chars.symbols", "tailwater/chars.words", "tailwater/exprs.fields", "tailwater/exprs.operators", "tailwater/clauses.names"], apart := false, laid := [("tailwater/chars.symbols", laid_tailwater_chars_symbols), ("tailwater/chars.words", laid_tailwater_chars_words), ("tailwater/clauses.names", laid_tailwater_clauses_names), ("tailwater/exprs.fields", laid_tailwater_exprs_fields), ("tailwater/exprs.operators", laid_tailwater_exprs_operators)], narrowed := true }
def ParserBlanksUptoSaid : Prop := parserBlanksUptoRow.holds Tryd.pinned (OpenSpec.upto parserBlanksSpec)

end Rows
end Go.Proofs.YtlmamidodahgmaaDoor
