/-
  DERIVED. GIVEN WITH THE SEED: THE CARDS: each row of YtlmamidodahgmaaDoorRows.lean that lists a variable, with what it lists TIED to the program's text (the seventh form; the later family's looks); each row that meets fmt, with fmt's text TOLD by the authors' own Lean function (tested against real Go, not proved from fmt's source: count such statements apart). THE CARD IS WHAT COUNTS. Prove the row's statement (the work); the ties are given (YtlmamidodahgmaaDoorTie.lean); close each card by the builder's one call (the guide's Derived/Test/ToyasCard.lean, 'card_holds'). Laid BY PROGRAM, IN A SANDBOX (cutbox-door.mjs). By AI agents, Wed Nov 11 2026. No macro, syntax, notation, axiom, sorry.
-/
import Derived.Test.YtlmamidodahgmaaDoorRows
import GoSem.ClaimSeven
namespace Go.Proofs.YtlmamidodahgmaaDoor
namespace Rows

/-- THE TIED CARD OF 'tailwaterlaw09.ParserNames'. -/
def parserNamesCard : Claim7 := { stood := { row := parserNamesRow, standIns := [], harness := (true, "6b19ba4da0a401faf24cc0ca72af452302f387cff0ea74768d856558b2dd2b82"), looks := false }, kinds := [], alts := [], laidByText := true, laidKinds := [.data, .data, .data, .widerDeep, .data], laidTests := true, laidLooks := .later }
def ParserNamesCardSaid : Prop := Claim7.holds Tryd.pinned (.plain (OpenSpec.ofChange parserNamesSpec)) parserNamesCard

/-- THE TIED CARD OF 'tailwaterlaw09.ParserValid'. -/
def parserValidCard : Claim7 := { stood := { row := parserValidRow, standIns := [], harness := (true, "6b19ba4da0a401faf24cc0ca72af452302f387cff0ea74768d856558b2dd2b82"), looks := false }, kinds := [], alts := [], laidByText := true, laidKinds := [.data, .data, .data, .widerDeep, .data], laidTests := true, laidLooks := .later }
def ParserValidCardSaid : Prop := Claim7.holds Tryd.pinned (.plain (OpenSpec.ofChange parserValidSpec)) parserValidCard

/-- THE TIED CARD OF 'tailwaterlaw09.ParserBlanks'. -/
def parserBlanksCard : Claim7 := { stood := { row := parserBlanksRow, standIns := [], harness := (true, "6b19ba4da0a401faf24cc0ca72af452302f387cff0ea74768d856558b2dd2b82"), looks := false }, kinds := [], alts := [], laidByText := true, laidKinds := [.data, .data, .data, .widerDeep, .data], laidTests := true, laidLooks := .later }
def ParserBlanksCardSaid : Prop := Claim7.holds Tryd.pinned (.plain (OpenSpec.ofChange parserBlanksSpec)) parserBlanksCard

/-- THE SECOND FORM's CARD OF 'tailwaterlaw09.ParserNames'. -/
def parserNamesUptoCard : Claim7 := { stood := { row := parserNamesUptoRow, standIns := [], harness := (true, "6b19ba4da0a401faf24cc0ca72af452302f387cff0ea74768d856558b2dd2b82"), looks := false }, kinds := [], alts := [], laidByText := true, laidKinds := [.data, .data, .data, .widerDeep, .data], laidTests := true, laidLooks := .later }
def ParserNamesUptoCardSaid : Prop := Claim7.holds Tryd.pinned (.plain (OpenSpec.upto parserNamesSpec)) parserNamesUptoCard

/-- THE SECOND FORM's CARD OF 'tailwaterlaw09.ParserValid'. -/
def parserValidUptoCard : Claim7 := { stood := { row := parserValidUptoRow, standIns := [], harness := (true, "6b19ba4da0a401faf24cc0ca72af452302f387cff0ea74768d856558b2dd2b82"), looks := false }, kinds := [], alts := [], laidByText := true, laidKinds := [.data, .data, .data, .widerDeep, .data], laidTests := true, laidLooks := .later }
def ParserValidUptoCardSaid : Prop := Claim7.holds Tryd.pinned (.plain (OpenSpec.upto parserValidSpec)) parserValidUptoCard

/-- THE SECOND FORM's CARD OF 'tailwaterlaw09.ParserBlanks'. -/
def parserBlanksUptoCard : Claim7 := { stood := { row := parserBlanksUptoRow, standIns := [], harness := (true, "6b19ba4da0a401faf24cc0ca72af452302f387cff0ea74768d856558b2dd2b82"), looks := false }, kinds := [], alts := [], laidByText := true, laidKinds := [.data, .data, .data, .widerDeep, .data], laidTests := true, laidLooks := .later }
def ParserBlanksUptoCardSaid : Prop := Claim7.holds Tryd.pinned (.plain (OpenSpec.upto parserBlanksSpec)) parserBlanksUptoCard
end Rows
end Go.Proofs.YtlmamidodahgmaaDoor
