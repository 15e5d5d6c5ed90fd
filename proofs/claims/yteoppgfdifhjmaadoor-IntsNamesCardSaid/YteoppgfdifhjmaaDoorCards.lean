/-
  DERIVED. GIVEN WITH THE SEED: THE CARDS: each row of YteoppgfdifhjmaaDoorRows.lean that lists a variable, with what it lists TIED to the program's text (the seventh form; the later family's looks); each row that meets fmt, with fmt's text TOLD by the authors' own Lean function (tested against real Go, not proved from fmt's source: count such statements apart). THE CARD IS WHAT COUNTS. Prove the row's statement (the work); the ties are given (YteoppgfdifhjmaaDoorTie.lean); close each card by the builder's one call (the guide's Derived/Test/ToyasCard.lean, 'card_holds'). Laid BY PROGRAM, IN A SANDBOX (cutbox-door.mjs). By AI agents, Wed Nov 11 2026. No macro, syntax, notation, axiom, sorry.
-/
import Derived.Test.YteoppgfdifhjmaaDoorRows
import GoSem.ClaimSeven
namespace Go.Proofs.YteoppgfdifhjmaaDoor
namespace Rows

/-- THE TIED CARD OF 'tailwaterlaw01.IntsNames'. -/
def intsNamesCard : Claim7 := { stood := { row := intsNamesRow, standIns := [], harness := (true, "0fb886dd6f43abbe3f0502808d8939e13a855477a7262757f2745d1c0e9f7181"), looks := false }, kinds := [], alts := [], laidByText := true, laidKinds := [.data, .data, .data], laidTests := true, laidLooks := .later }
def IntsNamesCardSaid : Prop := Claim7.holds Tryd.pinned (.plain (OpenSpec.ofChange intsNamesSpec)) intsNamesCard

/-- THE TIED CARD OF 'tailwaterlaw01.IntsTexts'. -/
def intsTextsCard : Claim7 := { stood := { row := intsTextsRow, standIns := [], harness := (true, "0fb886dd6f43abbe3f0502808d8939e13a855477a7262757f2745d1c0e9f7181"), looks := false }, kinds := [], alts := [], laidByText := true, laidKinds := [.data, .data, .data], laidTests := true, laidLooks := .later }
def IntsTextsCardSaid : Prop := Claim7.holds Tryd.pinned (.plain (OpenSpec.ofChange intsTextsSpec)) intsTextsCard

/-- THE TIED CARD OF 'tailwaterlaw01.IntsWritten'. -/
def intsWrittenCard : Claim7 := { stood := { row := intsWrittenRow, standIns := [], harness := (true, "0fb886dd6f43abbe3f0502808d8939e13a855477a7262757f2745d1c0e9f7181"), looks := false }, kinds := [], alts := [], laidByText := true, laidKinds := [.data, .data, .data], laidTests := true, laidLooks := .later }
def IntsWrittenCardSaid : Prop := Claim7.holds Tryd.pinned (.plain (OpenSpec.ofChange intsWrittenSpec)) intsWrittenCard

/-- THE SECOND FORM's CARD OF 'tailwaterlaw01.IntsNames'. -/
def intsNamesUptoCard : Claim7 := { stood := { row := intsNamesUptoRow, standIns := [], harness := (true, "0fb886dd6f43abbe3f0502808d8939e13a855477a7262757f2745d1c0e9f7181"), looks := false }, kinds := [], alts := [], laidByText := true, laidKinds := [.data, .data, .data], laidTests := true, laidLooks := .later }
def IntsNamesUptoCardSaid : Prop := Claim7.holds Tryd.pinned (.plain (OpenSpec.upto intsNamesSpec)) intsNamesUptoCard

/-- THE SECOND FORM's CARD OF 'tailwaterlaw01.IntsTexts'. -/
def intsTextsUptoCard : Claim7 := { stood := { row := intsTextsUptoRow, standIns := [], harness := (true, "0fb886dd6f43abbe3f0502808d8939e13a855477a7262757f2745d1c0e9f7181"), looks := false }, kinds := [], alts := [], laidByText := true, laidKinds := [.data, .data, .data], laidTests := true, laidLooks := .later }
def IntsTextsUptoCardSaid : Prop := Claim7.holds Tryd.pinned (.plain (OpenSpec.upto intsTextsSpec)) intsTextsUptoCard

/-- THE SECOND FORM's CARD OF 'tailwaterlaw01.IntsWritten'. -/
def intsWrittenUptoCard : Claim7 := { stood := { row := intsWrittenUptoRow, standIns := [], harness := (true, "0fb886dd6f43abbe3f0502808d8939e13a855477a7262757f2745d1c0e9f7181"), looks := false }, kinds := [], alts := [], laidByText := true, laidKinds := [.data, .data, .data], laidTests := true, laidLooks := .later }
def IntsWrittenUptoCardSaid : Prop := Claim7.holds Tryd.pinned (.plain (OpenSpec.upto intsWrittenSpec)) intsWrittenUptoCard
end Rows
end Go.Proofs.YteoppgfdifhjmaaDoor
