/-
  DERIVED. GIVEN WITH THE SEED: THE CARDS: each row of YtajchaknfkfljaaDoorRows.lean that lists a variable, with what it lists TIED to the program's text (the seventh form; the later family's looks); each row that meets fmt, with fmt's text TOLD by the authors' own Lean function (tested against real Go, not proved from fmt's source: count such statements apart). THE CARD IS WHAT COUNTS. Prove the row's statement (the work); the ties are given (YtajchaknfkfljaaDoorTie.lean); close each card by the builder's one call (the guide's Derived/Test/ToyasCard.lean, 'card_holds'). Laid BY PROGRAM, IN A SANDBOX (cutbox-door.mjs). By AI agents, Wed Nov 11 2026. No macro, syntax, notation, axiom, sorry.
-/
import Derived.Test.YtajchaknfkfljaaDoorRows
import GoSem.ClaimSeven
namespace Go.Proofs.YtajchaknfkfljaaDoor
namespace Rows

/-- THE TIED CARD OF 'tailwaterlaw07.EvalsNames'. -/
def evalsNamesCard : Claim7 := { stood := { row := evalsNamesRow, standIns := [], harness := (true, "a18fa32713a9bf9d427c4f27f76712904817d91181651fbecb2425a31d4b53a9"), looks := false }, kinds := [], alts := [], laidByText := true, laidKinds := [.data], laidTests := true, laidLooks := .later }
def EvalsNamesCardSaid : Prop := Claim7.holds Tryd.pinned (.plain (OpenSpec.ofChange evalsNamesSpec)) evalsNamesCard

/-- THE TIED CARD OF 'tailwaterlaw07.EvalsTells'. -/
def evalsTellsCard : Claim7 := { stood := { row := evalsTellsRow, standIns := [], harness := (true, "a18fa32713a9bf9d427c4f27f76712904817d91181651fbecb2425a31d4b53a9"), looks := false }, kinds := [], alts := [], laidByText := true, laidKinds := [.data], laidTests := true, laidLooks := .later }
def EvalsTellsCardSaid : Prop := Claim7.holds Tryd.pinned (.plain (OpenSpec.ofChange evalsTellsSpec)) evalsTellsCard

/-- THE TIED CARD OF 'tailwaterlaw07.EvalsParts'. -/
def evalsPartsCard : Claim7 := { stood := { row := evalsPartsRow, standIns := [], harness := (true, "a18fa32713a9bf9d427c4f27f76712904817d91181651fbecb2425a31d4b53a9"), looks := false }, kinds := [], alts := [], laidByText := true, laidKinds := [.data], laidTests := true, laidLooks := .later }
def EvalsPartsCardSaid : Prop := Claim7.holds Tryd.pinned (.plain (OpenSpec.ofChange evalsPartsSpec)) evalsPartsCard

/-- THE TIED CARD OF 'tailwaterlaw07.EvalsTruth'. -/
def evalsTruthCard : Claim7 := { stood := { row := evalsTruthRow, standIns := [], harness := (true, "a18fa32713a9bf9d427c4f27f76712904817d91181651fbecb2425a31d4b53a9"), looks := false }, kinds := [], alts := [], laidByText := true, laidKinds := [.data], laidTests := true, laidLooks := .later }
def EvalsTruthCardSaid : Prop := Claim7.holds Tryd.pinned (.plain (OpenSpec.ofChange evalsTruthSpec)) evalsTruthCard

/-- THE TIED CARD OF 'tailwaterlaw07.EvalsUses'. -/
def evalsUsesCard : Claim7 := { stood := { row := evalsUsesRow, standIns := [], harness := (true, "a18fa32713a9bf9d427c4f27f76712904817d91181651fbecb2425a31d4b53a9"), looks := false }, kinds := [], alts := [], laidByText := true, laidKinds := [.data], laidTests := true, laidLooks := .later }
def EvalsUsesCardSaid : Prop := Claim7.holds Tryd.pinned (.plain (OpenSpec.ofChange evalsUsesSpec)) evalsUsesCard

/-- THE TIED CARD OF 'tailwaterlaw07.EvalsMade'. -/
def evalsMadeCard : Claim7 := { stood := { row := evalsMadeRow, standIns := [], harness := (true, "a18fa32713a9bf9d427c4f27f76712904817d91181651fbecb2425a31d4b53a9"), looks := false }, kinds := [], alts := [], laidByText := true, laidKinds := [.data], laidTests := true, laidLooks := .later }
def EvalsMadeCardSaid : Prop := Claim7.holds Tryd.pinned (.plain (OpenSpec.ofChange evalsMadeSpec)) evalsMadeCard

/-- THE SECOND FORM's CARD OF 'tailwaterlaw07.EvalsNames'. -/
def evalsNamesUptoCard : Claim7 := { stood := { row := evalsNamesUptoRow, standIns := [], harness := (true, "a18fa32713a9bf9d427c4f27f76712904817d91181651fbecb2425a31d4b53a9"), looks := false }, kinds := [], alts := [], laidByText := true, laidKinds := [.data], laidTests := true, laidLooks := .later }
def EvalsNamesUptoCardSaid : Prop := Claim7.holds Tryd.pinned (.plain (OpenSpec.upto evalsNamesSpec)) evalsNamesUptoCard

/-- THE SECOND FORM's CARD OF 'tailwaterlaw07.EvalsTells'. -/
def evalsTellsUptoCard : Claim7 := { stood := { row := evalsTellsUptoRow, standIns := [], harness := (true, "a18fa32713a9bf9d427c4f27f76712904817d91181651fbecb2425a31d4b53a9"), looks := false }, kinds := [], alts := [], laidByText := true, laidKinds := [.data], laidTests := true, laidLooks := .later }
def EvalsTellsUptoCardSaid : Prop := Claim7.holds Tryd.pinned (.plain (OpenSpec.upto evalsTellsSpec)) evalsTellsUptoCard

/-- THE SECOND FORM's CARD OF 'tailwaterlaw07.EvalsParts'. -/
def evalsPartsUptoCard : Claim7 := { stood := { row := evalsPartsUptoRow, standIns := [], harness := (true, "a18fa32713a9bf9d427c4f27f76712904817d91181651fbecb2425a31d4b53a9"), looks := false }, kinds := [], alts := [], laidByText := true, laidKinds := [.data], laidTests := true, laidLooks := .later }
def EvalsPartsUptoCardSaid : Prop := Claim7.holds Tryd.pinned (.plain (OpenSpec.upto evalsPartsSpec)) evalsPartsUptoCard

/-- THE SECOND FORM's CARD OF 'tailwaterlaw07.EvalsTruth'. -/
def evalsTruthUptoCard : Claim7 := { stood := { row := evalsTruthUptoRow, standIns := [], harness := (true, "a18fa32713a9bf9d427c4f27f76712904817d91181651fbecb2425a31d4b53a9"), looks := false }, kinds := [], alts := [], laidByText := true, laidKinds := [.data], laidTests := true, laidLooks := .later }
def EvalsTruthUptoCardSaid : Prop := Claim7.holds Tryd.pinned (.plain (OpenSpec.upto evalsTruthSpec)) evalsTruthUptoCard

/-- THE SECOND FORM's CARD OF 'tailwaterlaw07.EvalsUses'. -/
def evalsUsesUptoCard : Claim7 := { stood := { row := evalsUsesUptoRow, standIns := [], harness := (true, "a18fa32713a9bf9d427c4f27f76712904817d91181651fbecb2425a31d4b53a9"), looks := false }, kinds := [], alts := [], laidByText := true, laidKinds := [.data], laidTests := true, laidLooks := .later }
def EvalsUsesUptoCardSaid : Prop := Claim7.holds Tryd.pinned (.plain (OpenSpec.upto evalsUsesSpec)) evalsUsesUptoCard

/-- THE SECOND FORM's CARD OF 'tailwaterlaw07.EvalsMade'. -/
def evalsMadeUptoCard : Claim7 := { stood := { row := evalsMadeUptoRow, standIns := [], harness := (true, "a18fa32713a9bf9d427c4f27f76712904817d91181651fbecb2425a31d4b53a9"), looks := false }, kinds := [], alts := [], laidByText := true, laidKinds := [.data], laidTests := true, laidLooks := .later }
def EvalsMadeUptoCardSaid : Prop := Claim7.holds Tryd.pinned (.plain (OpenSpec.upto evalsMadeSpec)) evalsMadeUptoCard
end Rows
end Go.Proofs.YtajchaknfkfljaaDoor
