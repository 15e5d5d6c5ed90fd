/-
  NARROWER THAN 'FOR EVERY INPUT', by the rows' own cells (each row's printed sentence says how): CharsNames: laid · CharsTells: laid · CharsKinds: laid · CharsLongest: laid · CharsPlace: laid · CharsWords: laid.
  DERIVED. THE GIVEN ROWS OF THIS SEAT. 6 by the template 'for every input the law returns true; each argument reads behind the call as it read before'; 0 by the template 'total and deterministic' (their statements: YtbiaogkemglkcaaDoorTotals.lean).
  GIVEN WITH THE SEED: the statements are not yours to turn. If you find one false, say at which input.
  Laid BY PROGRAM, IN A SANDBOX (cutbox-rows.mjs): the forced cells as the released guide's own fill.sh prints them over the translation 1849dab5b72b84ec… (all of the seat's roots in one cut). By AI agents, Wed Nov 11 2026. No macro, syntax, notation, axiom, sorry.
-/
import Derived.Test.YtbiaogkemglkcaaDoorChecked
import GoSem.Claim
import GoSem.ClaimJoined
import GoSem.ClaimMapViews
import Derived.JoinedTies
import Derived.KernelRfl
namespace Go.Proofs.YtbiaogkemglkcaaDoor
/- THE CELL 'sum', in the pinned program and in every row, IS THE sha256 OF THE DUMP (.gsa) THAT YtbiaogkemglkcaaDoorProg.lean LOADS. Nothing in Lean hashes anything: it is a label: what it is worth is what the hold of that sum in a sandbox is worth. -/
noncomputable def Tryd.pinned : Pinned := { name := "ytbiaogkemglkcaadoor", sum := "1849dab5b72b84ec91f66611ab2b3c2e98fb38c2da5f7fa22d3d2eacc23e91b5", checked := Tryd.checked }
namespace Rows
def none {H : Type} : Left H := { results := [], args := [] }

/- WHAT THE LISTED PACKAGE-LEVEL VARIABLES READ AS WHEN THE CALL BEGINS. Each datum BY PROGRAM (the guide's laid-datum.mjs) off the statement by which the dump's own 'gosem.cut.vars' lays the variable. In a bare row this is a premise. The card (YtbiaogkemglkcaaDoorCards.lean) ties it to the program's text. -/
def laid_tailwater_chars_symbols {H : Type} : DataW H := .agg [.lit (.string [60, 61]), .lit (.string [60, 60]), .lit (.string [62, 61]), .lit (.string [62, 62]), .lit (.string [33, 61]), .lit (.string [40]), .lit (.string [41]), .lit (.string [42]), .lit (.string [43]), .lit (.string [45]), .lit (.string [60]), .lit (.string [62]), .lit (.string [61])]
def laid_tailwater_chars_words {H : Type} : DataW H := .agg [.lit (.string [115, 101, 108, 101, 99, 116]), .lit (.string [99, 111, 117, 110, 116]), .lit (.string [115, 117, 109]), .lit (.string [109, 105, 110]), .lit (.string [109, 97, 120]), .lit (.string [102, 114, 111, 109]), .lit (.string [117, 110, 105, 111, 110]), .lit (.string [106, 111, 105, 110]), .lit (.string [119, 104, 101, 114, 101]), .lit (.string [119, 105, 110, 100, 111, 119]), .lit (.string [116, 117, 109, 98, 108, 101]), .lit (.string [115, 108, 105, 100, 101]), .lit (.string [101, 118, 101, 114, 121]), .lit (.string [115, 101, 115, 115, 105, 111, 110]), .lit (.string [98, 121]), .lit (.string [107, 101, 121]), .lit (.string [108, 97, 116, 101]), .lit (.string [100, 114, 111, 112]), .lit (.string [115, 105, 100, 101]), .lit (.string [97, 110, 100]), .lit (.string [111, 114]), .lit (.string [110, 111, 116]), .lit (.string [97]), .lit (.string [98]), .lit (.string [99]), .lit (.string [100]), .lit (.string [107]), .lit (.string [116]), .lit (.string [118])]

/-- 'tailwaterlaw02.CharsNames': WHATEVER THE INPUT: true; the input reads as it did. -/
def charsNamesSpec : ChangeSpec := { name := "charsNames", fn := fun _ => fun
  | [] => { results := [.lit (.bool true)], args := [] }
  | _ => none }
def charsNamesRow : OpenClaim := { program := "ytbiaogkemglkcaadoor", sum := "1849dab5b72b84ec91f66611ab2b3c2e98fb38c2da5f7fa22d3d2eacc23e91b5", func := "tailwater/tailwaterlaw02.CharsNames", spec := "charsNames", unfollowed := true, recurses := true, named := ["tailwater/chars.symbols", "tailwater/chars.words"], apart := false, laid := [("tailwater/chars.symbols", laid_tailwater_chars_symbols), ("tailwater/chars.words", laid_tailwater_chars_words)] }
def CharsNamesSaid : Prop := charsNamesRow.holds Tryd.pinned (OpenSpec.ofChange charsNamesSpec)

/-- ITS FALSE NEIGHBOUR: 'it returns false'. Refute it at one input. -/
def charsNamesWrong : ChangeSpec := { name := "charsNames", fn := fun _ => fun
  | [] => { results := [.lit (.bool false)], args := [] }
  | _ => none }
def CharsNamesWrongFalsely : Prop := charsNamesRow.holds Tryd.pinned (OpenSpec.ofChange charsNamesWrong)

/-- 'tailwaterlaw02.CharsTells': WHATEVER THE INPUT: true; the input reads as it did. -/
def charsTellsSpec : ChangeSpec := { name := "charsTells", fn := fun _ => fun
  | [d1, d2, d3, d4] => { results := [.lit (.bool true)], args := [d1, d2, d3, d4] }
  | _ => none }
def charsTellsRow : OpenClaim := { program := "ytbiaogkemglkcaadoor", sum := "1849dab5b72b84ec91f66611ab2b3c2e98fb38c2da5f7fa22d3d2eacc23e91b5", func := "tailwater/tailwaterlaw02.CharsTells", spec := "charsTells", unfollowed := true, recurses := true, named := ["tailwater/chars.symbols", "tailwater/chars.words"], apart := false, laid := [("tailwater/chars.symbols", laid_tailwater_chars_symbols), ("tailwater/chars.words", laid_tailwater_chars_words)] }
def CharsTellsSaid : Prop := charsTellsRow.holds Tryd.pinned (OpenSpec.ofChange charsTellsSpec)

/-- ITS FALSE NEIGHBOUR: 'it returns false'. Refute it at one input. -/
def charsTellsWrong : ChangeSpec := { name := "charsTells", fn := fun _ => fun
  | [d1, d2, d3, d4] => { results := [.lit (.bool false)], args := [d1, d2, d3, d4] }
  | _ => none }
def CharsTellsWrongFalsely : Prop := charsTellsRow.holds Tryd.pinned (OpenSpec.ofChange charsTellsWrong)

/-- 'tailwaterlaw02.CharsKinds': WHATEVER THE INPUT: true; the input reads as it did. -/
def charsKindsSpec : ChangeSpec := { name := "charsKinds", fn := fun _ => fun
  | [] => { results := [.lit (.bool true)], args := [] }
  | _ => none }
def charsKindsRow : OpenClaim := { program := "ytbiaogkemglkcaadoor", sum := "1849dab5b72b84ec91f66611ab2b3c2e98fb38c2da5f7fa22d3d2eacc23e91b5", func := "tailwater/tailwaterlaw02.CharsKinds", spec := "charsKinds", unfollowed := true, recurses := true, named := ["tailwater/chars.symbols", "tailwater/chars.words"], apart := false, laid := [("tailwater/chars.symbols", laid_tailwater_chars_symbols), ("tailwater/chars.words", laid_tailwater_chars_words)] }
def CharsKindsSaid : Prop := charsKindsRow.holds Tryd.pinned (OpenSpec.ofChange charsKindsSpec)

/-- ITS FALSE NEIGHBOUR: 'it returns false'. Refute it at one input. -/
def charsKindsWrong : ChangeSpec := { name := "charsKinds", fn := fun _ => fun
  | [] => { results := [.lit (.bool false)], args := [] }
  | _ => none }
def CharsKindsWrongFalsely : Prop := charsKindsRow.holds Tryd.pinned (OpenSpec.ofChange charsKindsWrong)

/-- 'tailwaterlaw02.CharsLongest': WHATEVER THE INPUT: true; the input reads as it did. -/
def charsLongestSpec : ChangeSpec := { name := "charsLongest", fn := fun _ => fun
  | [d1, d2, d3] => { results := [.lit (.bool true)], args := [d1, d2, d3] }
  | _ => none }
def charsLongestRow : OpenClaim := { program := "ytbiaogkemglkcaadoor", sum := "1849dab5b72b84ec91f66611ab2b3c2e98fb38c2da5f7fa22d3d2eacc23e91b5", func := "tailwater/tailwaterlaw02.CharsLongest", spec := "charsLongest", unfollowed := true, recurses := true, named := ["tailwater/chars.symbols", "tailwater/chars.words"], apart := false, laid := [("tailwater/chars.symbols", laid_tailwater_chars_symbols), ("tailwater/chars.words", laid_tailwater_chars_words)] }
def CharsLongestSaid : Prop := charsLongestRow.holds Tryd.pinned (OpenSpec.ofChange charsLongestSpec)

/-- ITS FALSE NEIGHBOUR: 'it returns false'. Refute it at one input. -/
def charsLongestWrong : ChangeSpec := { name := "charsLongest", fn := fun _ => fun
  | [d1, d2, d3] => { results := [.lit (.bool false)], args := [d1, d2, d3] }
  | _ => none }
def CharsLongestWrongFalsely : Prop := charsLongestRow.holds Tryd.pinned (OpenSpec.ofChange charsLongestWrong)

/-- 'tailwaterlaw02.CharsPlace': WHATEVER THE INPUT: true; the input reads as it did. -/
def charsPlaceSpec : ChangeSpec := { name := "charsPlace", fn := fun _ => fun
  | [d1, d2] => { results := [.lit (.bool true)], args := [d1, d2] }
  | _ => none }
def charsPlaceRow : OpenClaim := { program := "ytbiaogkemglkcaadoor", sum := "1849dab5b72b84ec91f66611ab2b3c2e98fb38c2da5f7fa22d3d2eacc23e91b5", func := "tailwater/tailwaterlaw02.CharsPlace", spec := "charsPlace", unfollowed := true, recurses := true, named := ["tailwater/chars.symbols", "tailwater/chars.words"], apart := false, laid := [("tailwater/chars.symbols", laid_tailwater_chars_symbols), ("tailwater/chars.words", laid_tailwater_chars_words)] }
def CharsPlaceSaid : Prop := charsPlaceRow.holds Tryd.pinned (OpenSpec.ofChange charsPlaceSpec)

/-- ITS FALSE NEIGHBOUR: 'it returns false'. Refute it at one input. -/
def charsPlaceWrong : ChangeSpec := { name := "charsPlace", fn := fun _ => fun
  | [d1, d2] => { results := [.lit (.bool false)], args := [d1, d2] }
  | _ => none }
def CharsPlaceWrongFalsely : Prop := charsPlaceRow.holds Tryd.pinned (OpenSpec.ofChange charsPlaceWrong)

/-- 'tailwaterlaw02.CharsWords': WHATEVER THE INPUT: true; the input reads as it did. -/
def charsWordsSpec : ChangeSpec := { name := "charsWords", fn := fun _ => fun
  | [d] => { results := [.lit (.bool true)], args := [d] }
  | _ => none }
def charsWordsRow : OpenClaim := { program := "ytbiaogkemglkcaadoor", sum := "1849dab5b72b84ec91f66611ab2b3c2e98fb38c2da5f7fa22d3d2eacc23e91b5", func := "tailwater/tailwaterlaw02.CharsWords", spec := "charsWords", unfollowed := true, recurses := true, named := ["tailwater/chars.words", "tailwater/chars.symbols"], apart := false, laid := [("tailwater/chars.symbols", laid_tailwater_chars_symbols), ("tailwater/chars.words", laid_tailwater_chars_words)] }
def CharsWordsSaid : Prop := charsWordsRow.holds Tryd.pinned (OpenSpec.ofChange charsWordsSpec)

/-- ITS FALSE NEIGHBOUR: 'it returns false'. Refute it at one input. -/
def charsWordsWrong : ChangeSpec := { name := "charsWords", fn := fun _ => fun
  | [d] => { results := [.lit (.bool false)], args := [d] }
  | _ => none }
def CharsWordsWrongFalsely : Prop := charsWordsRow.holds Tryd.pinned (OpenSpec.ofChange charsWordsWrong)

/- THE SECOND FORM. 'bulk': how many values and letters a reading holds, each counted each time it is reached (what is shared counts as often as it is met; a slice's spare places count too). A statement '..UptoSaid' is the law's where the arguments, and the package variables that the reading takes, are together of bulk at most 1048576: NARROWER than '..Said'. Prove '..Said' where nothing that the law and all that it calls make is longer than what came in: it says more and counts as full. Else prove '..UptoSaid'. A law counts once. -/
mutual
def uptoBulk {H : Type} : DataW H → Nat
  | .lit (.string bytes) => bytes.length + 1
  | .lit _ => 1
  | .nil => 1
  | .ptr d => uptoBulk d + 1
  | .slice elems spare => uptoBulkAll elems + uptoBulkAll spare + 1
  | .agg parts => uptoBulkAll parts + 1
  | .iface _ d => uptoBulk d + 1
  | .map entries => uptoBulkEntries entries + 1
  | .held _ => 1
def uptoBulkAll {H : Type} : List (DataW H) → Nat
  | [] => 0
  | d :: r => uptoBulk d + uptoBulkAll r
def uptoBulkEntries {H : Type} : List (Lit × DataW H) → Nat
  | [] => 0
  | x :: r => uptoBulkEntry x + uptoBulkEntries r
def uptoBulkEntry {H : Type} : Lit × DataW H → Nat
  | (.string bytes, d) => bytes.length + uptoBulk d + 1
  | (_, d) => uptoBulk d + 1
 end
def uptoSmall : (H : Type) → List (DataW H) → Bool := fun _ ds => decide (uptoBulkAll ds ≤ 1048576)
def OpenSpec.upto (s : _root_.Go.ChangeSpec) : _root_.Go.OpenSpec := { _root_.Go.OpenSpec.ofChange s with cond := some uptoSmall }

/-- 'tailwaterlaw02.CharsNames', WHERE WHAT IT READS IS OF BULK AT MOST 1048576: true; the input reads as it did. -/
def charsNamesUptoRow : OpenClaim := { program := "ytbiaogkemglkcaadoor", sum := "1849dab5b72b84ec91f66611ab2b3c2e98fb38c2da5f7fa22d3d2eacc23e91b5", func := "tailwater/tailwaterlaw02.CharsNames", spec := "charsNames", unfollowed := true, recurses := true, named := ["tailwater/chars.symbols", "tailwater/chars.words"], apart := false, laid := [("tailwater/chars.symbols", laid_tailwater_chars_symbols), ("tailwater/chars.words", laid_tailwater_chars_words)], narrowed := true }
def CharsNamesUptoSaid : Prop := charsNamesUptoRow.holds Tryd.pinned (OpenSpec.upto charsNamesSpec)

/-- 'tailwaterlaw02.CharsTells', WHERE WHAT IT READS IS OF BULK AT MOST 1048576: true; the input reads as it did. -/
def charsTellsUptoRow : OpenClaim := { program := "ytbiaogkemglkcaadoor", sum := "1849dab5b72b84ec91f66611ab2b3c2e98fb38c2da5f7fa22d3d2eacc23e91b5", func := "tailwater/tailwaterlaw02.CharsTells", spec := "charsTells", unfollowed := true, recurses := true, named := ["tailwater/chars.symbols", "tailwater/chars.words"], apart := false, laid := [("tailwater/chars.symbols", laid_tailwater_chars_symbols), ("tailwater/chars.words", laid_tailwater_chars_words)], narrowed := true }
def CharsTellsUptoSaid : Prop := charsTellsUptoRow.holds Tryd.pinned (OpenSpec.upto charsTellsSpec)

/-- 'tailwaterlaw02.CharsKinds', WHERE WHAT IT READS IS OF BULK AT MOST 1048576: true; the input reads as it did. -/
def charsKindsUptoRow : OpenClaim := { program := "ytbiaogkemglkcaadoor", sum := "1849dab5b72b84ec91f66611ab2b3c2e98fb38c2da5f7fa22d3d2eacc23e91b5", func := "tailwater/tailwaterlaw02.CharsKinds", spec := "charsKinds", unfollowed := true, recurses := true, named := ["tailwater/chars.symbols", "tailwater/chars.words"], apart := false, laid := [("tailwater/chars.symbols", laid_tailwater_chars_symbols), ("tailwater/chars.words", laid_tailwater_chars_words)], narrowed := true }
def CharsKindsUptoSaid : Prop := charsKindsUptoRow.holds Tryd.pinned (OpenSpec.upto charsKindsSpec)

/-- 'tailwaterlaw02.CharsLongest', WHERE WHAT IT READS IS OF BULK AT MOST 1048576: true; the input reads as it did. -/
def charsLongestUptoRow : OpenClaim := { program := "ytbiaogkemglkcaadoor", sum := "1849dab5b72b84ec91f66611ab2b3c2e98fb38c2da5f7fa22d3d2eacc23e91b5", func := "tailwater/tailwaterlaw02.CharsLongest", spec := "charsLongest", unfollowed := true, recurses := true, named := ["tailwater/chars.symbols", "tailwater/chars.words"], apart := false, laid := [("tailwater/chars.symbols", laid_tailwater_chars_symbols), ("tailwater/chars.words", laid_tailwater_chars_words)], narrowed := true }
def CharsLongestUptoSaid : Prop := charsLongestUptoRow.holds Tryd.pinned (OpenSpec.upto charsLongestSpec)

/-- 'tailwaterlaw02.CharsPlace', WHERE WHAT IT READS IS OF BULK AT MOST 1048576: true; the input reads as it did. -/
def charsPlaceUptoRow : OpenClaim := { program := "ytbiaogkemglkcaadoor", sum := "1849dab5b72b84ec91f66611ab2b3c2e98fb38c2da5f7fa22d3d2eacc23e91b5", func := "tailwater/tailwaterlaw02.CharsPlace", spec := "charsPlace", unfollowed := true, recurses := true, named := ["tailwater/chars.symbols", "tailwater/chars.words"], apart := false, laid := [("tailwater/chars.symbols", laid_tailwater_chars_symbols), ("tailwater/chars.words", laid_tailwater_chars_words)], narrowed := true }
def CharsPlaceUptoSaid : Prop := charsPlaceUptoRow.holds Tryd.pinned (OpenSpec.upto charsPlaceSpec)

/-- 'tailwaterlaw02.CharsWords', WHERE WHAT IT READS IS OF BULK AT MOST 1048576: true; the input reads as it did. -/
def charsWordsUptoRow : OpenClaim := { program := "ytbiaogkemglkcaadoor", sum := "1849dab5b72b84ec91f66611ab2b3c2e98fb38c2da5f7fa22d3d2eacc23e91b5", func := "tailwater/tailwaterlaw02.CharsWords", spec := "charsWords", unfollowed := true, recurses := true, named := ["tailwater/chars.words", "tailwater/chars.symbols"], apart := false, laid := [("tailwater/chars.symbols", laid_tailwater_chars_symbols), ("tailwater/chars.words", laid_tailwater_chars_words)], narrowed := true }
def CharsWordsUptoSaid : Prop := charsWordsUptoRow.holds Tryd.pinned (OpenSpec.upto charsWordsSpec)

end Rows
end Go.Proofs.YtbiaogkemglkcaaDoor
