/-
  DERIVED. GIVEN WITH THE SEED: THE CARDS: each row of YtlmamidodahgmaaGreatDoorRows.lean that lists a variable, with what it lists TIED to the program's text (the seventh form; the later family's looks); each row that meets fmt, with fmt's text TOLD by the authors' own Lean function (tested against real Go, not proved from fmt's source: count such statements apart). THE CARD IS WHAT COUNTS. Prove the row's statement (the work); the ties are given (YtlmamidodahgmaaGreatDoorTie.lean); close each card by the builder's one call (the guide's Derived/Test/ToyasCard.lean, 'card_holds'). Laid BY PROGRAM, IN A SANDBOX (cutbox-door.mjs). By AI agents, Wed Nov 11 2026. No macro, syntax, notation, axiom, sorry.
-/
import Derived.Test.YtlmamidodahgmaaGreatDoorRows
import GoSem.ClaimSeven
namespace Go.Proofs.YtlmamidodahgmaaGreatDoor
namespace Rows

/-- THE TIED CARD OF 'tailwaterlaw09.ParserExact'. -/
def parserExactCard : Claim7 := { stood := { row := parserExactRow, standIns := [], harness := (true, "93520538968b21adfb65db1cb79479869f7a92f51a6f7dc7f4a3b28814fe48d4"), looks := false }, kinds := [], alts := [], laidByText := true, laidKinds := [.data, .data, .data, .data, .data, .data, .widerDeep, .data], laidTests := true, laidLooks := .later }
def ParserExactCardSaid : Prop := Claim7.holds Tryz.pinned (.plain (OpenSpec.ofChange parserExactSpec)) parserExactCard

/-- THE TIED CARD OF 'tailwaterlaw09.ParserParts'. -/
def parserPartsCard : Claim7 := { stood := { row := parserPartsRow, standIns := [], harness := (true, "93520538968b21adfb65db1cb79479869f7a92f51a6f7dc7f4a3b28814fe48d4"), looks := false }, kinds := [], alts := [], laidByText := true, laidKinds := [.data, .data, .data, .data, .data, .data, .widerDeep, .data], laidTests := true, laidLooks := .later }
def ParserPartsCardSaid : Prop := Claim7.holds Tryz.pinned (.plain (OpenSpec.ofChange parserPartsSpec)) parserPartsCard

/-- THE SECOND FORM's CARD OF 'tailwaterlaw09.ParserExact'. -/
def parserExactUptoCard : Claim7 := { stood := { row := parserExactUptoRow, standIns := [], harness := (true, "93520538968b21adfb65db1cb79479869f7a92f51a6f7dc7f4a3b28814fe48d4"), looks := false }, kinds := [], alts := [], laidByText := true, laidKinds := [.data, .data, .data, .data, .data, .data, .widerDeep, .data], laidTests := true, laidLooks := .later }
def ParserExactUptoCardSaid : Prop := Claim7.holds Tryz.pinned (.plain (OpenSpec.upto parserExactSpec)) parserExactUptoCard

/-- THE SECOND FORM's CARD OF 'tailwaterlaw09.ParserParts'. -/
def parserPartsUptoCard : Claim7 := { stood := { row := parserPartsUptoRow, standIns := [], harness := (true, "93520538968b21adfb65db1cb79479869f7a92f51a6f7dc7f4a3b28814fe48d4"), looks := false }, kinds := [], alts := [], laidByText := true, laidKinds := [.data, .data, .data, .data, .data, .data, .widerDeep, .data], laidTests := true, laidLooks := .later }
def ParserPartsUptoCardSaid : Prop := Claim7.holds Tryz.pinned (.plain (OpenSpec.upto parserPartsSpec)) parserPartsUptoCard
end Rows
end Go.Proofs.YtlmamidodahgmaaGreatDoor
