/-
  NARROWER THAN 'FOR EVERY INPUT', by the rows' own cells (each row's printed sentence says how): ClausesNames: laid · ClausesParts: laid · ClausesOrder: laid.
  DERIVED. THE GIVEN ROWS OF THIS SEAT. 3 by the template 'for every input the law returns true; each argument reads behind the call as it read before'; 0 by the template 'total and deterministic' (their statements: YtaijhkfbfkdepaaDoorTotals.lean).
  GIVEN WITH THE SEED: the statements are not yours to turn. If you find one false, say at which input.
  Laid BY PROGRAM, IN A SANDBOX (cutbox-rows.mjs): the forced cells as the released guide's own fill.sh prints them over the translation d1ccd82790c859c5… (all of the seat's roots in one cut). By AI agents, Wed Nov 11 2026. No macro, syntax, notation, axiom, sorry.
-/
import Derived.Test.YtaijhkfbfkdepaaDoorChecked
import GoSem.Claim
import GoSem.ClaimJoined
import GoSem.ClaimMapViews
import Derived.JoinedTies
import Derived.KernelRfl
namespace Go.Proofs.YtaijhkfbfkdepaaDoor
/- THE CELL 'sum', in the pinned program and in every row, IS THE sha256 OF THE DUMP (.gsa) THAT YtaijhkfbfkdepaaDoorProg.lean LOADS. Nothing in Lean hashes anything: it is a label: what it is worth is what the hold of that sum in a sandbox is worth. -/
noncomputable def Tryd.pinned : Pinned := { name := "ytaijhkfbfkdepaadoor", sum := "d1ccd82790c859c53dc5e9b9e97f262662ea68088af6f9ee307def980ea3cb5f", checked := Tryd.checked }
namespace Rows
def none {H : Type} : Left H := { results := [], args := [] }

/- WHAT THE LISTED PACKAGE-LEVEL VARIABLES READ AS WHEN THE CALL BEGINS. Each datum BY PROGRAM (the guide's laid-datum.mjs) off the statement by which the dump's own 'gosem.cut.vars' lays the variable. In a bare row this is a premise. The card (YtaijhkfbfkdepaaDoorCards.lean) ties it to the program's text. -/
def laid_tailwater_clauses_names {H : Type} : DataW H := .agg [.lit (.string [97]), .lit (.string [98]), .lit (.string [99]), .lit (.string [100])]

/-- 'tailwaterlaw08.ClausesNames': WHATEVER THE INPUT: true; the input reads as it did. -/
def clausesNamesSpec : ChangeSpec := { name := "clausesNames", fn := fun _ => fun
  | [] => { results := [.lit (.bool true)], args := [] }
  | _ => none }
def clausesNamesRow : OpenClaim := { program := "ytaijhkfbfkdepaadoor", sum := "d1ccd82790c859c53dc5e9b9e97f262662ea68088af6f9ee307def980ea3cb5f", func := "tailwater/tailwaterlaw08.ClausesNames", spec := "clausesNames", unfollowed := true, recurses := true, named := ["tailwater/clauses.names"], apart := false, laid := [("tailwater/clauses.names", laid_tailwater_clauses_names)] }
def ClausesNamesSaid : Prop := clausesNamesRow.holds Tryd.pinned (OpenSpec.ofChange clausesNamesSpec)

/-- ITS FALSE NEIGHBOUR: 'it returns false'. Refute it at one input. -/
def clausesNamesWrong : ChangeSpec := { name := "clausesNames", fn := fun _ => fun
  | [] => { results := [.lit (.bool false)], args := [] }
  | _ => none }
def ClausesNamesWrongFalsely : Prop := clausesNamesRow.holds Tryd.pinned (OpenSpec.ofChange clausesNamesWrong)

/-- 'tailwaterlaw08.ClausesParts': WHATEVER THE INPUT: true; the input reads as it did. -/
def clausesPartsSpec : ChangeSpec := { name := "clausesParts", fn := fun _ => fun
  | [d1, d2, d3, d4, d5] => { results := [.lit (.bool true)], args := [d1, d2, d3, d4, d5] }
  | _ => none }
def clausesPartsRow : OpenClaim := { program := "ytaijhkfbfkdepaadoor", sum := "d1ccd82790c859c53dc5e9b9e97f262662ea68088af6f9ee307def980ea3cb5f", func := "tailwater/tailwaterlaw08.ClausesParts", spec := "clausesParts", unfollowed := true, recurses := true, named := ["tailwater/clauses.names"], apart := false, laid := [("tailwater/clauses.names", laid_tailwater_clauses_names)] }
def ClausesPartsSaid : Prop := clausesPartsRow.holds Tryd.pinned (OpenSpec.ofChange clausesPartsSpec)

/-- ITS FALSE NEIGHBOUR: 'it returns false'. Refute it at one input. -/
def clausesPartsWrong : ChangeSpec := { name := "clausesParts", fn := fun _ => fun
  | [d1, d2, d3, d4, d5] => { results := [.lit (.bool false)], args := [d1, d2, d3, d4, d5] }
  | _ => none }
def ClausesPartsWrongFalsely : Prop := clausesPartsRow.holds Tryd.pinned (OpenSpec.ofChange clausesPartsWrong)

/-- 'tailwaterlaw08.ClausesOrder': WHATEVER THE INPUT: true; the input reads as it did. -/
def clausesOrderSpec : ChangeSpec := { name := "clausesOrder", fn := fun _ => fun
  | [d1, d2, d3] => { results := [.lit (.bool true)], args := [d1, d2, d3] }
  | _ => none }
def clausesOrderRow : OpenClaim := { program := "ytaijhkfbfkdepaadoor", sum := "d1ccd82790c859c53dc5e9b9e97f262662ea68088af6f9ee307def980ea3cb5f", func := "tailwater/tailwaterlaw08.ClausesOrder", spec := "clausesOrder", unfollowed := true, recurses := true, named := ["tailwater/clauses.names"], apart := false, laid := [("tailwater/clauses.names", laid_tailwater_clauses_names)] }
def ClausesOrderSaid : Prop := clausesOrderRow.holds Tryd.pinned (OpenSpec.ofChange clausesOrderSpec)

/-- ITS FALSE NEIGHBOUR: 'it returns false'. Refute it at one input. -/
def clausesOrderWrong : ChangeSpec := { name := "clausesOrder", fn := fun _ => fun
  | [d1, d2, d3] => { results := [.lit (.bool false)], args := [d1, d2, d3] }
  | _ => none }
def ClausesOrderWrongFalsely : Prop := clausesOrderRow.holds Tryd.pinned (OpenSpec.ofChange clausesOrderWrong)

/- THE SECOND FORM. 'bulk': how many values and letters a reading holds, each counted each time it is reached (what is shared counts as often as it is met; a slice's spare places count too). A statement '..UptoSaid' is the law's where the arguments, and the package variables that the reading takes, are together of bulk at most 1048576: NARROWER than '..Said'. Prove '..Said' where nothing that the law and all that it calls make is longer than what came in: it says more and counts as full. Else prove '..UptoSaid'. A law counts once. -/
mutual
def uptoBulk {H : Type} : DataW H → Nat
  | .lit (.string bytes) => bytes.length + 1
  | .lit _ => 1
  | .nil => 1
  | .ptr d => uptoBulk d + 1
  | .slice elems spare => uptoBulkAll elems + uptoBulkAll spare + 1
  | .agg parts => uptoBulkAll parts + 1
  | .iface _ d => uptoBulk d + 1
  | .map entries => uptoBulkEntries entries + 1
  | .held _ => 1
def uptoBulkAll {H : Type} : List (DataW H) → Nat
  | [] => 0
  | d :: r => uptoBulk d + uptoBulkAll r
def uptoBulkEntries {H : Type} : List (Lit × DataW H) → Nat
  | [] => 0
  | x :: r => uptoBulkEntry x + uptoBulkEntries r
def uptoBulkEntry {H : Type} : Lit × DataW H → Nat
  | (.string bytes, d) => bytes.length + uptoBulk d + 1
  | (_, d) => uptoBulk d + 1
 end
def uptoSmall : (H : Type) → List (DataW H) → Bool := fun _ ds => decide (uptoBulkAll ds ≤ 1048576)
def OpenSpec.upto (s : _root_.Go.ChangeSpec) : _root_.Go.OpenSpec := { _root_.Go.OpenSpec.ofChange s with cond := some uptoSmall }

/-- 'tailwaterlaw08.ClausesNames', WHERE WHAT IT READS IS OF BULK AT MOST 1048576: true; the input reads as it did. -/
def clausesNamesUptoRow : OpenClaim := { program := "ytaijhkfbfkdepaadoor", sum := "d1ccd82790c859c53dc5e9b9e97f262662ea68088af6f9ee307def980ea3cb5f", func := "tailwater/tailwaterlaw08.ClausesNames", spec := "clausesNames", unfollowed := true, recurses := true, named := ["tailwater/clauses.names"], apart := false, laid := [("tailwater/clauses.names", laid_tailwater_clauses_names)], narrowed := true }
def ClausesNamesUptoSaid : Prop := clausesNamesUptoRow.holds Tryd.pinned (OpenSpec.upto clausesNamesSpec)

/-- 'tailwaterlaw08.ClausesParts', WHERE WHAT IT READS IS OF BULK AT MOST 1048576: true; the input reads as it did. -/
def clausesPartsUptoRow : OpenClaim := { program := "ytaijhkfbfkdepaadoor", sum := "d1ccd82790c859c53dc5e9b9e97f262662ea68088af6f9ee307def980ea3cb5f", func := "tailwater/tailwaterlaw08.ClausesParts", spec := "clausesParts", unfollowed := true, recurses := true, named := ["tailwater/clauses.names"], apart := false, laid := [("tailwater/clauses.names", laid_tailwater_clauses_names)], narrowed := true }
def ClausesPartsUptoSaid : Prop := clausesPartsUptoRow.holds Tryd.pinned (OpenSpec.upto clausesPartsSpec)

/-- 'tailwaterlaw08.ClausesOrder', WHERE WHAT IT READS IS OF BULK AT MOST 1048576: true; the input reads as it did. -/
def clausesOrderUptoRow : OpenClaim := { program := "ytaijhkfbfkdepaadoor", sum := "d1ccd82790c859c53dc5e9b9e97f262662ea68088af6f9ee307def980ea3cb5f", func := "tailwater/tailwaterlaw08.ClausesOrder", spec := "clausesOrder", unfollowed := true, recurses := true, named := ["tailwater/clauses.names"], apart := false, laid := [("tailwater/clauses.names", laid_tailwater_clauses_names)], narrowed := true }
def ClausesOrderUptoSaid : Prop := clausesOrderUptoRow.holds Tryd.pinned (OpenSpec.upto clausesOrderSpec)

end Rows
end Go.Proofs.YtaijhkfbfkdepaaDoor
