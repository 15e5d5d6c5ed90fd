/-
  NARROWER THAN 'FOR EVERY INPUT', by the rows' own cells (each row's printed sentence says how): LexerNames: laid · LexerFinds: laid · LexerJoin: laid · LexerBlanks: laid · LexerCovers: laid · LexerError: laid.
  DERIVED. THE GIVEN ROWS OF THIS SEAT. 6 by the template 'for every input the law returns true; each argument reads behind the call as it read before'; 0 by the template 'total and deterministic' (their statements: YteidhjacnlcddaaDoorTotals.lean).
  GIVEN WITH THE SEED: the statements are not yours to turn. If you find one false, say at which input.
  Laid BY PROGRAM, IN A SANDBOX (cutbox-rows.mjs): the forced cells as the released guide's own fill.sh prints them over the translation 3935b64f56912e78… (all of the seat's roots in one cut). By AI agents, Wed Nov 11 2026. No macro, syntax, notation, axiom, sorry.
-/
import Derived.Test.YteidhjacnlcddaaDoorChecked
import GoSem.Claim
import GoSem.ClaimJoined
import GoSem.ClaimMapViews
import Derived.JoinedTies
import Derived.KernelRfl
namespace Go.Proofs.YteidhjacnlcddaaDoor
/- THE CELL 'sum', in the pinned program and in every row, IS THE sha256 OF THE DUMP (.gsa) THAT YteidhjacnlcddaaDoorProg.lean LOADS. Nothing in Lean hashes anything: it is a label: what it is worth is what the hold of that sum in a sandbox is worth. -/
noncomputable def Tryd.pinned : Pinned := { name := "yteidhjacnlcddaadoor", sum := "3935b64f56912e787141a27fe9bf354dbcb79ffe2602948589670c9c1fe1a809", checked := Tryd.checked }
namespace Rows
def none {H : Type} : Left H := { results := [], args := [] }

/- WHAT THE LISTED PACKAGE-LEVEL VARIABLES READ AS WHEN THE CALL BEGINS. Each datum BY PROGRAM (the guide's laid-datum.mjs) off the statement by which the dump's own 'gosem.cut.vars' lays the variable. In a bare row this is a premise. The card (YteidhjacnlcddaaDoorCards.lean) ties it to the program's text. -/
def laid_tailwater_chars_symbols {H : Type} : DataW H := .agg [.lit (.string [60, 61]), .lit (.string [60, 60]), .lit (.string [62, 61]), .lit (.string [62, 62]), .lit (.string [33, 61]), .lit (.string [40]), .lit (.string [41]), .lit (.string [42]), .lit (.string [43]), .lit (.string [45]), .lit (.string [60]), .lit (.string [62]), .lit (.string [61])]
def laid_tailwater_chars_words {H : Type} : DataW H := .agg [.lit (.string [115, 101, 108, 101, 99, 116]), .lit (.string [99, 111, 117, 110, 116]), .lit (.string [115, 117, 109]), .lit (.string [109, 105, 110]), .lit (.string [109, 97, 120]), .lit (.string [102, 114, 111, 109]), .lit (.string [117, 110, 105, 111, 110]), .lit (.string [106, 111, 105, 110]), .lit (.string [119, 104, 101, 114, 101]), .lit (.string [119, 105, 110, 100, 111, 119]), .lit (.string [116, 117, 109, 98, 108, 101]), .lit (.string [115, 108, 105, 100, 101]), .lit (.string [101, 118, 101, 114, 121]), .lit (.string [115, 101, 115, 115, 105, 111, 110]), .lit (.string [98, 121]), .lit (.string [107, 101, 121]), .lit (.string [108, 97, 116, 101]), .lit (.string [100, 114, 111, 112]), .lit (.string [115, 105, 100, 101]), .lit (.string [97, 110, 100]), .lit (.string [111, 114]), .lit (.string [110, 111, 116]), .lit (.string [97]), .lit (.string [98]), .lit (.string [99]), .lit (.string [100]), .lit (.string [107]), .lit (.string [116]), .lit (.string [118])]

/-- 'tailwaterlaw03.LexerNames': WHATEVER THE INPUT: true; the input reads as it did. -/
def lexerNamesSpec : ChangeSpec := { name := "lexerNames", fn := fun _ => fun
  | [] => { results := [.lit (.bool true)], args := [] }
  | _ => none }
def lexerNamesRow : OpenClaim := { program := "yteidhjacnlcddaadoor", sum := "3935b64f56912e787141a27fe9bf354dbcb79ffe2602948589670c9c1fe1a809", func := "tailwater/tailwaterlaw03.LexerNames", spec := "lexerNames", inPlace := ["internal/abi.NoEscape"], unfollowed := true, recurses := true, named := ["tailwater/chars.symbols", "tailwater/chars.words"], apart := false, laid := [("tailwater/chars.symbols", laid_tailwater_chars_symbols), ("tailwater/chars.words", laid_tailwater_chars_words)] }
def LexerNamesSaid : Prop := lexerNamesRow.holds Tryd.pinned (OpenSpec.ofChange lexerNamesSpec)

/-- ITS FALSE NEIGHBOUR: 'it returns false'. Refute it at one input. -/
def lexerNamesWrong : ChangeSpec := { name := "lexerNames", fn := fun _ => fun
  | [] => { results := [.lit (.bool false)], args := [] }
  | _ => none }
def LexerNamesWrongFalsely : Prop := lexerNamesRow.holds Tryd.pinned (OpenSpec.ofChange lexerNamesWrong)

/-- 'tailwaterlaw03.LexerFinds': WHATEVER THE INPUT: true; the input reads as it did. -/
def lexerFindsSpec : ChangeSpec := { name := "lexerFinds", fn := fun _ => fun
  | [d1, d2] => { results := [.lit (.bool true)], args := [d1, d2] }
  | _ => none }
def lexerFindsRow : OpenClaim := { program := "yteidhjacnlcddaadoor", sum := "3935b64f56912e787141a27fe9bf354dbcb79ffe2602948589670c9c1fe1a809", func := "tailwater/tailwaterlaw03.LexerFinds", spec := "lexerFinds", inPlace := ["internal/abi.NoEscape"], unfollowed := true, recurses := true, named := ["tailwater/chars.symbols", "tailwater/chars.words"], apart := false, laid := [("tailwater/chars.symbols", laid_tailwater_chars_symbols), ("tailwater/chars.words", laid_tailwater_chars_words)] }
def LexerFindsSaid : Prop := lexerFindsRow.holds Tryd.pinned (OpenSpec.ofChange lexerFindsSpec)

/-- ITS FALSE NEIGHBOUR: 'it returns false'. Refute it at one input. -/
def lexerFindsWrong : ChangeSpec := { name := "lexerFinds", fn := fun _ => fun
  | [d1, d2] => { results := [.lit (.bool false)], args := [d1, d2] }
  | _ => none }
def LexerFindsWrongFalsely : Prop := lexerFindsRow.holds Tryd.pinned (OpenSpec.ofChange lexerFindsWrong)

/-- 'tailwaterlaw03.LexerJoin': WHATEVER THE INPUT: true; the input reads as it did. -/
def lexerJoinSpec : ChangeSpec := { name := "lexerJoin", fn := fun _ => fun
  | [d] => { results := [.lit (.bool true)], args := [d] }
  | _ => none }
def lexerJoinRow : OpenClaim := { program := "yteidhjacnlcddaadoor", sum := "3935b64f56912e787141a27fe9bf354dbcb79ffe2602948589670c9c1fe1a809", func := "tailwater/tailwaterlaw03.LexerJoin", spec := "lexerJoin", inPlace := ["internal/abi.NoEscape"], unfollowed := true, recurses := true, named := ["tailwater/chars.symbols", "tailwater/chars.words"], apart := false, laid := [("tailwater/chars.symbols", laid_tailwater_chars_symbols), ("tailwater/chars.words", laid_tailwater_chars_words)] }
def LexerJoinSaid : Prop := lexerJoinRow.holds Tryd.pinned (OpenSpec.ofChange lexerJoinSpec)

/-- ITS FALSE NEIGHBOUR: 'it returns false'. Refute it at one input. -/
def lexerJoinWrong : ChangeSpec := { name := "lexerJoin", fn := fun _ => fun
  | [d] => { results := [.lit (.bool false)], args := [d] }
  | _ => none }
def LexerJoinWrongFalsely : Prop := lexerJoinRow.holds Tryd.pinned (OpenSpec.ofChange lexerJoinWrong)

/-- 'tailwaterlaw03.LexerBlanks': WHATEVER THE INPUT: true; the input reads as it did. -/
def lexerBlanksSpec : ChangeSpec := { name := "lexerBlanks", fn := fun _ => fun
  | [d1, d2, d3] => { results := [.lit (.bool true)], args := [d1, d2, d3] }
  | _ => none }
def lexerBlanksRow : OpenClaim := { program := "yteidhjacnlcddaadoor", sum := "3935b64f56912e787141a27fe9bf354dbcb79ffe2602948589670c9c1fe1a809", func := "tailwater/tailwaterlaw03.LexerBlanks", spec := "lexerBlanks", inPlace := ["internal/abi.NoEscape"], unfollowed := true, recurses := true, named := ["tailwater/chars.symbols", "tailwater/chars.words"], apart := false, laid := [("tailwater/chars.symbols", laid_tailwater_chars_symbols), ("tailwater/chars.words", laid_tailwater_chars_words)] }
def LexerBlanksSaid : Prop := lexerBlanksRow.holds Tryd.pinned (OpenSpec.ofChange lexerBlanksSpec)

/-- ITS FALSE NEIGHBOUR: 'it returns false'. Refute it at one input. -/
def lexerBlanksWrong : ChangeSpec := { name := "lexerBlanks", fn := fun _ => fun
  | [d1, d2, d3] => { results := [.lit (.bool false)], args := [d1, d2, d3] }
  | _ => none }
def LexerBlanksWrongFalsely : Prop := lexerBlanksRow.holds Tryd.pinned (OpenSpec.ofChange lexerBlanksWrong)

/-- 'tailwaterlaw03.LexerCovers': WHATEVER THE INPUT: true; the input reads as it did. -/
def lexerCoversSpec : ChangeSpec := { name := "lexerCovers", fn := fun _ => fun
  | [d] => { results := [.lit (.bool true)], args := [d] }
  | _ => none }
def lexerCoversRow : OpenClaim := { program := "yteidhjacnlcddaadoor", sum := "3935b64f56912e787141a27fe9bf354dbcb79ffe2602948589670c9c1fe1a809", func := "tailwater/tailwaterlaw03.LexerCovers", spec := "lexerCovers", inPlace := ["internal/abi.NoEscape"], unfollowed := true, recurses := true, named := ["tailwater/chars.symbols", "tailwater/chars.words"], apart := false, laid := [("tailwater/chars.symbols", laid_tailwater_chars_symbols), ("tailwater/chars.words", laid_tailwater_chars_words)] }
def LexerCoversSaid : Prop := lexerCoversRow.holds Tryd.pinned (OpenSpec.ofChange lexerCoversSpec)

/-- ITS FALSE NEIGHBOUR: 'it returns false'. Refute it at one input. -/
def lexerCoversWrong : ChangeSpec := { name := "lexerCovers", fn := fun _ => fun
  | [d] => { results := [.lit (.bool false)], args := [d] }
  | _ => none }
def LexerCoversWrongFalsely : Prop := lexerCoversRow.holds Tryd.pinned (OpenSpec.ofChange lexerCoversWrong)

/-- 'tailwaterlaw03.LexerError': WHATEVER THE INPUT: true; the input reads as it did. -/
def lexerErrorSpec : ChangeSpec := { name := "lexerError", fn := fun _ => fun
  | [d] => { results := [.lit (.bool true)], args := [d] }
  | _ => none }
def lexerErrorRow : OpenClaim := { program := "yteidhjacnlcddaadoor", sum := "3935b64f56912e787141a27fe9bf354dbcb79ffe2602948589670c9c1fe1a809", func := "tailwater/tailwaterlaw03.LexerError", spec := "lexerError", inPlace := ["internal/abi.NoEscape"], unfollowed := true, recurses := true, named := ["tailwater/chars.symbols", "tailwater/chars.words"], apart := false, laid := [("tailwater/chars.symbols", laid_tailwater_chars_symbols), ("tailwater/chars.words", laid_tailwater_chars_words)] }
def LexerErrorSaid : Prop := lexerErrorRow.holds Tryd.pinned (OpenSpec.ofChange lexerErrorSpec)

/-- ITS FALSE NEIGHBOUR: 'it returns false'. Refute it at one input. -/
def lexerErrorWrong : ChangeSpec := { name := "lexerError", fn := fun _ => fun
  | [d] => { results := [.lit (.bool false)], args := [d] }
  | _ => none }
def LexerErrorWrongFalsely : Prop := lexerErrorRow.holds Tryd.pinned (OpenSpec.ofChange lexerErrorWrong)

/- THE SECOND FORM. 'bulk': how many values and letters a reading holds, each counted each time it is reached (what is shared counts as often as it is met; a slice's spare places count too). A statement '..UptoSaid' is the law's where the arguments, and the package variables that the reading takes, are together of bulk at most 1048576: NARROWER than '..Said'. Prove '..Said' where nothing that the law and all that it calls make is longer than what came in: it says more and counts as full. Else prove '..UptoSaid'. A law counts once. -/
mutual
def uptoBulk {H : Type} : DataW H → Nat
  | .lit (.string bytes) => bytes.length + 1
  | .lit _ => 1
  | .nil => 1
  | .ptr d => uptoBulk d + 1
  | .slice elems spare => uptoBulkAll elems + uptoBulkAll spare + 1
  | .agg parts => uptoBulkAll parts + 1
  | .iface _ d => uptoBulk d + 1
  | .map entries => uptoBulkEntries entries + 1
  | .held _ => 1
def uptoBulkAll {H : Type} : List (DataW H) → Nat
  | [] => 0
  | d :: r => uptoBulk d + uptoBulkAll r
def uptoBulkEntries {H : Type} : List (Lit × DataW H) → Nat
  | [] => 0
  | x :: r => uptoBulkEntry x + uptoBulkEntries r
def uptoBulkEntry {H : Type} : Lit × DataW H → Nat
  | (.string bytes, d) => bytes.length + uptoBulk d + 1
  | (_, d) => uptoBulk d + 1
 end
def uptoSmall : (H : Type) → List (DataW H) → Bool := fun _ ds => decide (uptoBulkAll ds ≤ 1048576)
def OpenSpec.upto (s : _root_.Go.ChangeSpec) : _root_.Go.OpenSpec := { _root_.Go.OpenSpec.ofChange s with cond := some uptoSmall }

/-- 'tailwaterlaw03.LexerNames', WHERE WHAT IT READS IS OF BULK AT MOST 1048576: true; the input reads as it did. -/
def lexerNamesUptoRow : OpenClaim := { program := "yteidhjacnlcddaadoor", sum := "3935b64f56912e787141a27fe9bf354dbcb79ffe2602948589670c9c1fe1a809", func := "tailwater/tailwaterlaw03.LexerNames", spec := "lexerNames", inPlace := ["internal/abi.NoEscape"], unfollowed := true, recurses := true, named := ["tailwater/chars.symbols", "tailwater/chars.words"], apart := false, laid := [("tailwater/chars.symbols", laid_tailwater_chars_symbols), ("tailwater/chars.words", laid_tailwater_chars_words)], narrowed := true }
def LexerNamesUptoSaid : Prop := lexerNamesUptoRow.holds Tryd.pinned (OpenSpec.upto lexerNamesSpec)

/-- 'tailwaterlaw03.LexerFinds', WHERE WHAT IT READS IS OF BULK AT MOST 1048576: true; the input reads as it did. -/
def lexerFindsUptoRow : OpenClaim := { program := "yteidhjacnlcddaadoor", sum := "3935b64f56912e787141a27fe9bf354dbcb79ffe2602948589670c9c1fe1a809", func := "tailwater/tailwaterlaw03.LexerFinds", spec := "lexerFinds", inPlace := ["internal/abi.NoEscape"], unfollowed := true, recurses := true, named := ["tailwater/chars.symbols", "tailwater/chars.words"], apart := false, laid := [("tailwater/chars.symbols", laid_tailwater_chars_symbols), ("tailwater/chars.words", laid_tailwater_chars_words)], narrowed := true }
def LexerFindsUptoSaid : Prop := lexerFindsUptoRow.holds Tryd.pinned (OpenSpec.upto lexerFindsSpec)

/-- 'tailwaterlaw03.LexerJoin', WHERE WHAT IT READS IS OF BULK AT MOST 1048576: true; the input reads as it did. -/
def lexerJoinUptoRow : OpenClaim := { program := "yteidhjacnlcddaadoor", sum := "3935b64f56912e787141a27fe9bf354dbcb79ffe2602948589670c9c1fe1a809", func := "tailwater/tailwaterlaw03.LexerJoin", spec := "lexerJoin", inPlace := ["internal/abi.NoEscape"], unfollowed := true, recurses := true, named := ["tailwater/chars.symbols", "tailwater/chars.words"], apart := false, laid := [("tailwater/chars.symbols", laid_tailwater_chars_symbols), ("tailwater/chars.words", laid_tailwater_chars_words)], narrowed := true }
def LexerJoinUptoSaid : Prop := lexerJoinUptoRow.holds Tryd.pinned (OpenSpec.upto lexerJoinSpec)

/-- 'tailwaterlaw03.LexerBlanks', WHERE WHAT IT READS IS OF BULK AT MOST 1048576: true; the input reads as it did. -/
def lexerBlanksUptoRow : OpenClaim := { program := "yteidhjacnlcddaadoor", sum := "3935b64f56912e787141a27fe9bf354dbcb79ffe2602948589670c9c1fe1a809", func := "tailwater/tailwaterlaw03.LexerBlanks", spec := "lexerBlanks", inPlace := ["internal/abi.NoEscape"], unfollowed := true, recurses := true, named := ["tailwater/chars.symbols", "tailwater/chars.words"], apart := false, laid := [("tailwater/chars.symbols", laid_tailwater_chars_symbols), ("tailwater/chars.words", laid_tailwater_chars_words)], narrowed := true }
def LexerBlanksUptoSaid : Prop := lexerBlanksUptoRow.holds Tryd.pinned (OpenSpec.upto lexerBlanksSpec)

/-- 'tailwaterlaw03.LexerCovers', WHERE WHAT IT READS IS OF BULK AT MOST 1048576: true; the input reads as it did. -/
def lexerCoversUptoRow : OpenClaim := { program := "yteidhjacnlcddaadoor", sum := "3935b64f56912e787141a27fe9bf354dbcb79ffe2602948589670c9c1fe1a809", func := "tailwater/tailwaterlaw03.LexerCovers", spec := "lexerCovers", inPlace := ["internal/abi.NoEscape"], unfollowed := true, recurses := true, named := ["tailwater/chars.symbols", "tailwater/chars.words"], apart := false, laid := [("tailwater/chars.symbols", laid_tailwater_chars_symbols), ("tailwater/chars.words", laid_tailwater_chars_words)], narrowed := true }
def LexerCoversUptoSaid : Prop := lexerCoversUptoRow.holds Tryd.pinned (OpenSpec.upto lexerCoversSpec)

/-- 'tailwaterlaw03.LexerError', WHERE WHAT IT READS IS OF BULK AT MOST 1048576: true; the input reads as it did. -/
def lexerErrorUptoRow : OpenClaim := { program := "yteidhjacnlcddaadoor", sum := "3935b64f56912e787141a27fe9bf354dbcb79ffe2602948589670c9c1fe1a809", func := "tailwater/tailwaterlaw03.LexerError", spec := "lexerError", inPlace := ["internal/abi.NoEscape"], unfollowed := true, recurses := true, named := ["tailwater/chars.symbols", "tailwater/chars.words"], apart := false, laid := [("tailwater/chars.symbols", laid_tailwater_chars_symbols), ("tailwater/chars.words", laid_tailwater_chars_words)], narrowed := true }
def LexerErrorUptoSaid : Prop := lexerErrorUptoRow.holds Tryd.pinned (OpenSpec.upto lexerErrorSpec)

end Rows
end Go.Proofs.YteidhjacnlcddaaDoor
