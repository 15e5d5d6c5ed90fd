/-
  DERIVED. GIVEN WITH THE SEED: THE CARDS: each row of YtaijhkfbfkdepaaDoorRows.lean that lists a variable, with what it lists TIED to the program's text (the seventh form; the later family's looks); each row that meets fmt, with fmt's text TOLD by the authors' own Lean function (tested against real Go, not proved from fmt's source: count such statements apart). THE CARD IS WHAT COUNTS. Prove the row's statement (the work); the ties are given (YtaijhkfbfkdepaaDoorTie.lean); close each card by the builder's one call (the guide's Derived/Test/ToyasCard.lean, 'card_holds'). Laid BY PROGRAM, IN A SANDBOX (cutbox-door.mjs). By AI agents, Wed Nov 11 2026. No macro, syntax, notation, axiom, sorry.
-/
import Derived.Test.YtaijhkfbfkdepaaDoorRows
import GoSem.ClaimSeven
namespace Go.Proofs.YtaijhkfbfkdepaaDoor
namespace Rows

/-- THE TIED CARD OF 'tailwaterlaw08.ClausesNames'. -/
def clausesNamesCard : Claim7 := { stood := { row := clausesNamesRow, standIns := [], harness := (true, "be9093e6aceae68e9157e4c5c4c1600fcb120454878061aa90c17abe01c6c52d"), looks := false }, kinds := [], alts := [], laidByText := true, laidKinds := [.data], laidTests := true, laidLooks := .later }
def ClausesNamesCardSaid : Prop := Claim7.holds Tryd.pinned (.plain (OpenSpec.ofChange clausesNamesSpec)) clausesNamesCard

/-- THE TIED CARD OF 'tailwaterlaw08.ClausesParts'. -/
def clausesPartsCard : Claim7 := { stood := { row := clausesPartsRow, standIns := [], harness := (true, "be9093e6aceae68e9157e4c5c4c1600fcb120454878061aa90c17abe01c6c52d"), looks := false }, kinds := [], alts := [], laidByText := true, laidKinds := [.data], laidTests := true, laidLooks := .later }
def ClausesPartsCardSaid : Prop := Claim7.holds Tryd.pinned (.plain (OpenSpec.ofChange clausesPartsSpec)) clausesPartsCard

/-- THE TIED CARD OF 'tailwaterlaw08.ClausesOrder'. -/
def clausesOrderCard : Claim7 := { stood := { row := clausesOrderRow, standIns := [], harness := (true, "be9093e6aceae68e9157e4c5c4c1600fcb120454878061aa90c17abe01c6c52d"), looks := false }, kinds := [], alts := [], laidByText := true, laidKinds := [.data], laidTests := true, laidLooks := .later }
def ClausesOrderCardSaid : Prop := Claim7.holds Tryd.pinned (.plain (OpenSpec.ofChange clausesOrderSpec)) clausesOrderCard

/-- THE SECOND FORM's CARD OF 'tailwaterlaw08.ClausesNames'. -/
def clausesNamesUptoCard : Claim7 := { stood := { row := clausesNamesUptoRow, standIns := [], harness := (true, "be9093e6aceae68e9157e4c5c4c1600fcb120454878061aa90c17abe01c6c52d"), looks := false }, kinds := [], alts := [], laidByText := true, laidKinds := [.data], laidTests := true, laidLooks := .later }
def ClausesNamesUptoCardSaid : Prop := Claim7.holds Tryd.pinned (.plain (OpenSpec.upto clausesNamesSpec)) clausesNamesUptoCard

/-- THE SECOND FORM's CARD OF 'tailwaterlaw08.ClausesParts'. -/
def clausesPartsUptoCard : Claim7 := { stood := { row := clausesPartsUptoRow, standIns := [], harness := (true, "be9093e6aceae68e9157e4c5c4c1600fcb120454878061aa90c17abe01c6c52d"), looks := false }, kinds := [], alts := [], laidByText := true, laidKinds := [.data], laidTests := true, laidLooks := .later }
def ClausesPartsUptoCardSaid : Prop := Claim7.holds Tryd.pinned (.plain (OpenSpec.upto clausesPartsSpec)) clausesPartsUptoCard

/-- THE SECOND FORM's CARD OF 'tailwaterlaw08.ClausesOrder'. -/
def clausesOrderUptoCard : Claim7 := { stood := { row := clausesOrderUptoRow, standIns := [], harness := (true, "be9093e6aceae68e9157e4c5c4c1600fcb120454878061aa90c17abe01c6c52d"), looks := false }, kinds := [], alts := [], laidByText := true, laidKinds := [.data], laidTests := true, laidLooks := .later }
def ClausesOrderUptoCardSaid : Prop := Claim7.holds Tryd.pinned (.plain (OpenSpec.upto clausesOrderSpec)) clausesOrderUptoCard
end Rows
end Go.Proofs.YtaijhkfbfkdepaaDoor
