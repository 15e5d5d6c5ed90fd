/-
  DERIVED. GIVEN WITH THE SEED: THE CARDS: each row of YtbiaogkemglkcaaDoorRows.lean that lists a variable, with what it lists TIED to the program's text (the seventh form; the later family's looks); each row that meets fmt, with fmt's text TOLD by the authors' own Lean function (tested against real Go, not proved from fmt's source: count such statements apart). THE CARD IS WHAT COUNTS. Prove the row's statement (the work); the ties are given (YtbiaogkemglkcaaDoorTie.lean); close each card by the builder's one call (the guide's Derived/Test/ToyasCard.lean, 'card_holds'). Laid BY PROGRAM, IN A SANDBOX (cutbox-door.mjs). By AI agents, Wed Nov 11 2026. No macro, syntax, notation, axiom, sorry.
-/
import Derived.Test.YtbiaogkemglkcaaDoorRows
import GoSem.ClaimSeven
namespace Go.Proofs.YtbiaogkemglkcaaDoor
namespace Rows

/-- THE TIED CARD OF 'tailwaterlaw02.CharsNames'. -/
def charsNamesCard : Claim7 := { stood := { row := charsNamesRow, standIns := [], harness := (true, "18f144b8a29c49578b7ac01adcbf1df833a0ea0455d4bd9eb62d8436e0095757"), looks := false }, kinds := [], alts := [], laidByText := true, laidKinds := [.data, .data], laidTests := true, laidLooks := .later }
def CharsNamesCardSaid : Prop := Claim7.holds Tryd.pinned (.plain (OpenSpec.ofChange charsNamesSpec)) charsNamesCard

/-- THE TIED CARD OF 'tailwaterlaw02.CharsTells'. -/
def charsTellsCard : Claim7 := { stood := { row := charsTellsRow, standIns := [], harness := (true, "18f144b8a29c49578b7ac01adcbf1df833a0ea0455d4bd9eb62d8436e0095757"), looks := false }, kinds := [], alts := [], laidByText := true, laidKinds := [.data, .data], laidTests := true, laidLooks := .later }
def CharsTellsCardSaid : Prop := Claim7.holds Tryd.pinned (.plain (OpenSpec.ofChange charsTellsSpec)) charsTellsCard

/-- THE TIED CARD OF 'tailwaterlaw02.CharsKinds'. -/
def charsKindsCard : Claim7 := { stood := { row := charsKindsRow, standIns := [], harness := (true, "18f144b8a29c49578b7ac01adcbf1df833a0ea0455d4bd9eb62d8436e0095757"), looks := false }, kinds := [], alts := [], laidByText := true, laidKinds := [.data, .data], laidTests := true, laidLooks := .later }
def CharsKindsCardSaid : Prop := Claim7.holds Tryd.pinned (.plain (OpenSpec.ofChange charsKindsSpec)) charsKindsCard

/-- THE TIED CARD OF 'tailwaterlaw02.CharsLongest'. -/
def charsLongestCard : Claim7 := { stood := { row := charsLongestRow, standIns := [], harness := (true, "18f144b8a29c49578b7ac01adcbf1df833a0ea0455d4bd9eb62d8436e0095757"), looks := false }, kinds := [], alts := [], laidByText := true, laidKinds := [.data, .data], laidTests := true, laidLooks := .later }
def CharsLongestCardSaid : Prop := Claim7.holds Tryd.pinned (.plain (OpenSpec.ofChange charsLongestSpec)) charsLongestCard

/-- THE TIED CARD OF 'tailwaterlaw02.CharsPlace'. -/
def charsPlaceCard : Claim7 := { stood := { row := charsPlaceRow, standIns := [], harness := (true, "18f144b8a29c49578b7ac01adcbf1df833a0ea0455d4bd9eb62d8436e0095757"), looks := false }, kinds := [], alts := [], laidByText := true, laidKinds := [.data, .data], laidTests := true, laidLooks := .later }
def CharsPlaceCardSaid : Prop := Claim7.holds Tryd.pinned (.plain (OpenSpec.ofChange charsPlaceSpec)) charsPlaceCard

/-- THE TIED CARD OF 'tailwaterlaw02.CharsWords'. -/
def charsWordsCard : Claim7 := { stood := { row := charsWordsRow, standIns := [], harness := (true, "18f144b8a29c49578b7ac01adcbf1df833a0ea0455d4bd9eb62d8436e0095757"), looks := false }, kinds := [], alts := [], laidByText := true, laidKinds := [.data, .data], laidTests := true, laidLooks := .later }
def CharsWordsCardSaid : Prop := Claim7.holds Tryd.pinned (.plain (OpenSpec.ofChange charsWordsSpec)) charsWordsCard

/-- THE SECOND FORM's CARD OF 'tailwaterlaw02.CharsNames'. -/
def charsNamesUptoCard : Claim7 := { stood := { row := charsNamesUptoRow, standIns := [], harness := (true, "18f144b8a29c49578b7ac01adcbf1df833a0ea0455d4bd9eb62d8436e0095757"), looks := false }, kinds := [], alts := [], laidByText := true, laidKinds := [.data, .data], laidTests := true, laidLooks := .later }
def CharsNamesUptoCardSaid : Prop := Claim7.holds Tryd.pinned (.plain (OpenSpec.upto charsNamesSpec)) charsNamesUptoCard

/-- THE SECOND FORM's CARD OF 'tailwaterlaw02.CharsTells'. -/
def charsTellsUptoCard : Claim7 := { stood := { row := charsTellsUptoRow, standIns := [], harness := (true, "18f144b8a29c49578b7ac01adcbf1df833a0ea0455d4bd9eb62d8436e0095757"), looks := false }, kinds := [], alts := [], laidByText := true, laidKinds := [.data, .data], laidTests := true, laidLooks := .later }
def CharsTellsUptoCardSaid : Prop := Claim7.holds Tryd.pinned (.plain (OpenSpec.upto charsTellsSpec)) charsTellsUptoCard

/-- THE SECOND FORM's CARD OF 'tailwaterlaw02.CharsKinds'. -/
def charsKindsUptoCard : Claim7 := { stood := { row := charsKindsUptoRow, standIns := [], harness := (true, "18f144b8a29c49578b7ac01adcbf1df833a0ea0455d4bd9eb62d8436e0095757"), looks := false }, kinds := [], alts := [], laidByText := true, laidKinds := [.data, .data], laidTests := true, laidLooks := .later }
def CharsKindsUptoCardSaid : Prop := Claim7.holds Tryd.pinned (.plain (OpenSpec.upto charsKindsSpec)) charsKindsUptoCard

/-- THE SECOND FORM's CARD OF 'tailwaterlaw02.CharsLongest'. -/
def charsLongestUptoCard : Claim7 := { stood := { row := charsLongestUptoRow, standIns := [], harness := (true, "18f144b8a29c49578b7ac01adcbf1df833a0ea0455d4bd9eb62d8436e0095757"), looks := false }, kinds := [], alts := [], laidByText := true, laidKinds := [.data, .data], laidTests := true, laidLooks := .later }
def CharsLongestUptoCardSaid : Prop := Claim7.holds Tryd.pinned (.plain (OpenSpec.upto charsLongestSpec)) charsLongestUptoCard

/-- THE SECOND FORM's CARD OF 'tailwaterlaw02.CharsPlace'. -/
def charsPlaceUptoCard : Claim7 := { stood := { row := charsPlaceUptoRow, standIns := [], harness := (true, "18f144b8a29c49578b7ac01adcbf1df833a0ea0455d4bd9eb62d8436e0095757"), looks := false }, kinds := [], alts := [], laidByText := true, laidKinds := [.data, .data], laidTests := true, laidLooks := .later }
def CharsPlaceUptoCardSaid : Prop := Claim7.holds Tryd.pinned (.plain (OpenSpec.upto charsPlaceSpec)) charsPlaceUptoCard

/-- THE SECOND FORM's CARD OF 'tailwaterlaw02.CharsWords'. -/
def charsWordsUptoCard : Claim7 := { stood := { row := charsWordsUptoRow, standIns := [], harness := (true, "18f144b8a29c49578b7ac01adcbf1df833a0ea0455d4bd9eb62d8436e0095757"), looks := false }, kinds := [], alts := [], laidByText := true, laidKinds := [.data, .data], laidTests := true, laidLooks := .later }
def CharsWordsUptoCardSaid : Prop := Claim7.holds Tryd.pinned (.plain (OpenSpec.upto charsWordsSpec)) charsWordsUptoCard
end Rows
end Go.Proofs.YtbiaogkemglkcaaDoor
