/-
  No cell of these rows narrows 'for every input' (looked for: loops, veiled, ifaces, maps, wideKeys, modest, calm, conditions, laid).
  DERIVED. THE GIVEN ROWS OF THIS SEAT. 6 by the template 'for every input the law returns true; each argument reads behind the call as it read before'; 0 by the template 'total and deterministic' (their statements: YtakpbpabblgobaaTotals.lean).
  GIVEN WITH THE SEED: the statements are not yours to turn. If you find one false, say at which input.
  Laid BY PROGRAM, IN A SANDBOX (cutbox-rows.mjs): the forced cells as the released guide's own fill.sh prints them over the translation 0ca58ba4992b1079… (all of the seat's roots in one cut). By AI agents, Wed Nov 11 2026. No macro, syntax, notation, axiom, sorry.
-/
import Derived.Test.YtakpbpabblgobaaChecked
import GoSem.Claim
import GoSem.ClaimJoined
import GoSem.ClaimMapViews
import Derived.JoinedTies
import Derived.KernelRfl
namespace Go.Proofs.Ytakpbpabblgobaa
/- THE CELL 'sum', in the pinned program and in every row, IS THE sha256 OF THE DUMP (.gsa) THAT YtakpbpabblgobaaProg.lean LOADS. Nothing in Lean hashes anything: it is a label: what it is worth is what the hold of that sum in a sandbox is worth. -/
noncomputable def Try.pinned : Pinned := { name := "ytakpbpabblgobaa", sum := "0ca58ba4992b10791daa4430e2d656e25c3ae4fdd134db69ef440b0b2fc57c62", checked := Try.checked }
namespace Rows
def none {H : Type} : Left H := { results := [], args := [] }

/-- 'tailwaterlaw04.NodesNames': WHATEVER THE INPUT: true; the input reads as it did. -/
def nodesNamesSpec : ChangeSpec := { name := "nodesNames", fn := fun _ => fun
  | [] => { results := [.lit (.bool true)], args := [] }
  | _ => none }
def nodesNamesRow : OpenClaim := { program := "ytakpbpabblgobaa", sum := "0ca58ba4992b10791daa4430e2d656e25c3ae4fdd134db69ef440b0b2fc57c62", func := "tailwater/tailwaterlaw04.NodesNames", spec := "nodesNames", unfollowed := true, recurses := true, apart := false }
def NodesNamesSaid : Prop := nodesNamesRow.holds Try.pinned (OpenSpec.ofChange nodesNamesSpec)

/-- ITS FALSE NEIGHBOUR: 'it returns false'. Refute it at one input. -/
def nodesNamesWrong : ChangeSpec := { name := "nodesNames", fn := fun _ => fun
  | [] => { results := [.lit (.bool false)], args := [] }
  | _ => none }
def NodesNamesWrongFalsely : Prop := nodesNamesRow.holds Try.pinned (OpenSpec.ofChange nodesNamesWrong)

/-- 'tailwaterlaw04.NodesTells': WHATEVER THE INPUT: true; the input reads as it did. -/
def nodesTellsSpec : ChangeSpec := { name := "nodesTells", fn := fun _ => fun
  | [d1, d2, d3] => { results := [.lit (.bool true)], args := [d1, d2, d3] }
  | _ => none }
def nodesTellsRow : OpenClaim := { program := "ytakpbpabblgobaa", sum := "0ca58ba4992b10791daa4430e2d656e25c3ae4fdd134db69ef440b0b2fc57c62", func := "tailwater/tailwaterlaw04.NodesTells", spec := "nodesTells", unfollowed := true, recurses := true, apart := false }
def NodesTellsSaid : Prop := nodesTellsRow.holds Try.pinned (OpenSpec.ofChange nodesTellsSpec)

/-- ITS FALSE NEIGHBOUR: 'it returns false'. Refute it at one input. -/
def nodesTellsWrong : ChangeSpec := { name := "nodesTells", fn := fun _ => fun
  | [d1, d2, d3] => { results := [.lit (.bool false)], args := [d1, d2, d3] }
  | _ => none }
def NodesTellsWrongFalsely : Prop := nodesTellsRow.holds Try.pinned (OpenSpec.ofChange nodesTellsWrong)

/-- 'tailwaterlaw04.NodesMade': WHATEVER THE INPUT: true; the input reads as it did. -/
def nodesMadeSpec : ChangeSpec := { name := "nodesMade", fn := fun _ => fun
  | [d1, d2] => { results := [.lit (.bool true)], args := [d1, d2] }
  | _ => none }
def nodesMadeRow : OpenClaim := { program := "ytakpbpabblgobaa", sum := "0ca58ba4992b10791daa4430e2d656e25c3ae4fdd134db69ef440b0b2fc57c62", func := "tailwater/tailwaterlaw04.NodesMade", spec := "nodesMade", unfollowed := true, recurses := true, apart := false }
def NodesMadeSaid : Prop := nodesMadeRow.holds Try.pinned (OpenSpec.ofChange nodesMadeSpec)

/-- ITS FALSE NEIGHBOUR: 'it returns false'. Refute it at one input. -/
def nodesMadeWrong : ChangeSpec := { name := "nodesMade", fn := fun _ => fun
  | [d1, d2] => { results := [.lit (.bool false)], args := [d1, d2] }
  | _ => none }
def NodesMadeWrongFalsely : Prop := nodesMadeRow.holds Try.pinned (OpenSpec.ofChange nodesMadeWrong)

/-- 'tailwaterlaw04.NodesSizes': WHATEVER THE INPUT: true; the input reads as it did. -/
def nodesSizesSpec : ChangeSpec := { name := "nodesSizes", fn := fun _ => fun
  | [d1, d2] => { results := [.lit (.bool true)], args := [d1, d2] }
  | _ => none }
def nodesSizesRow : OpenClaim := { program := "ytakpbpabblgobaa", sum := "0ca58ba4992b10791daa4430e2d656e25c3ae4fdd134db69ef440b0b2fc57c62", func := "tailwater/tailwaterlaw04.NodesSizes", spec := "nodesSizes", unfollowed := true, recurses := true, apart := false }
def NodesSizesSaid : Prop := nodesSizesRow.holds Try.pinned (OpenSpec.ofChange nodesSizesSpec)

/-- ITS FALSE NEIGHBOUR: 'it returns false'. Refute it at one input. -/
def nodesSizesWrong : ChangeSpec := { name := "nodesSizes", fn := fun _ => fun
  | [d1, d2] => { results := [.lit (.bool false)], args := [d1, d2] }
  | _ => none }
def NodesSizesWrongFalsely : Prop := nodesSizesRow.holds Try.pinned (OpenSpec.ofChange nodesSizesWrong)

/-- 'tailwaterlaw04.NodesSame': WHATEVER THE INPUT: true; the input reads as it did. -/
def nodesSameSpec : ChangeSpec := { name := "nodesSame", fn := fun _ => fun
  | [d1, d2, d3] => { results := [.lit (.bool true)], args := [d1, d2, d3] }
  | _ => none }
def nodesSameRow : OpenClaim := { program := "ytakpbpabblgobaa", sum := "0ca58ba4992b10791daa4430e2d656e25c3ae4fdd134db69ef440b0b2fc57c62", func := "tailwater/tailwaterlaw04.NodesSame", spec := "nodesSame", unfollowed := true, recurses := true, apart := false }
def NodesSameSaid : Prop := nodesSameRow.holds Try.pinned (OpenSpec.ofChange nodesSameSpec)

/-- ITS FALSE NEIGHBOUR: 'it returns false'. Refute it at one input. -/
def nodesSameWrong : ChangeSpec := { name := "nodesSame", fn := fun _ => fun
  | [d1, d2, d3] => { results := [.lit (.bool false)], args := [d1, d2, d3] }
  | _ => none }
def NodesSameWrongFalsely : Prop := nodesSameRow.holds Try.pinned (OpenSpec.ofChange nodesSameWrong)

/-- 'tailwaterlaw04.NodesOther': WHATEVER THE INPUT: true; the input reads as it did. -/
def nodesOtherSpec : ChangeSpec := { name := "nodesOther", fn := fun _ => fun
  | [d1, d2, d3, d4] => { results := [.lit (.bool true)], args := [d1, d2, d3, d4] }
  | _ => none }
def nodesOtherRow : OpenClaim := { program := "ytakpbpabblgobaa", sum := "0ca58ba4992b10791daa4430e2d656e25c3ae4fdd134db69ef440b0b2fc57c62", func := "tailwater/tailwaterlaw04.NodesOther", spec := "nodesOther", unfollowed := true, recurses := true, apart := false }
def NodesOtherSaid : Prop := nodesOtherRow.holds Try.pinned (OpenSpec.ofChange nodesOtherSpec)

/-- ITS FALSE NEIGHBOUR: 'it returns false'. Refute it at one input. -/
def nodesOtherWrong : ChangeSpec := { name := "nodesOther", fn := fun _ => fun
  | [d1, d2, d3, d4] => { results := [.lit (.bool false)], args := [d1, d2, d3, d4] }
  | _ => none }
def NodesOtherWrongFalsely : Prop := nodesOtherRow.holds Try.pinned (OpenSpec.ofChange nodesOtherWrong)

/- THE SECOND FORM. 'bulk': how many values and letters a reading holds, each counted each time it is reached (what is shared counts as often as it is met; a slice's spare places count too). A statement '..UptoSaid' is the law's where the arguments, and the package variables that the reading takes, are together of bulk at most 1048576: NARROWER than '..Said'. Prove '..Said' where nothing that the law and all that it calls make is longer than what came in: it says more and counts as full. Else prove '..UptoSaid'. A law counts once. -/
mutual
def uptoBulk {H : Type} : DataW H → Nat
  | .lit (.string bytes) => bytes.length + 1
  | .lit _ => 1
  | .nil => 1
  | .ptr d => uptoBulk d + 1
  | .slice elems spare => uptoBulkAll elems + uptoBulkAll spare + 1
  | .agg parts => uptoBulkAll parts + 1
  | .iface _ d => uptoBulk d + 1
  | .map entries => uptoBulkEntries entries + 1
  | .held _ => 1
def uptoBulkAll {H : Type} : List (DataW H) → Nat
  | [] => 0
  | d :: r => uptoBulk d + uptoBulkAll r
def uptoBulkEntries {H : Type} : List (Lit × DataW H) → Nat
  | [] => 0
  | x :: r => uptoBulkEntry x + uptoBulkEntries r
def uptoBulkEntry {H : Type} : Lit × DataW H → Nat
  | (.string bytes, d) => bytes.length + uptoBulk d + 1
  | (_, d) => uptoBulk d + 1
 end
def uptoSmall : (H : Type) → List (DataW H) → Bool := fun _ ds => decide (uptoBulkAll ds ≤ 1048576)
def OpenSpec.upto (s : _root_.Go.ChangeSpec) : _root_.Go.OpenSpec := { _root_.Go.OpenSpec.ofChange s with cond := some uptoSmall }

/-- 'tailwaterlaw04.NodesNames', WHERE WHAT IT READS IS OF BULK AT MOST 1048576: true; the input reads as it did. -/
def nodesNamesUptoRow : OpenClaim := { program := "ytakpbpabblgobaa", sum := "0ca58ba4992b10791daa4430e2d656e25c3ae4fdd134db69ef440b0b2fc57c62", func := "tailwater/tailwaterlaw04.NodesNames", spec := "nodesNames", unfollowed := true, recurses := true, apart := false, narrowed := true }
def NodesNamesUptoSaid : Prop := nodesNamesUptoRow.holds Try.pinned (OpenSpec.upto nodesNamesSpec)

/-- 'tailwaterlaw04.NodesTells', WHERE WHAT IT READS IS OF BULK AT MOST 1048576: true; the input reads as it did. -/
def nodesTellsUptoRow : OpenClaim := { program := "ytakpbpabblgobaa", sum := "0ca58ba4992b10791daa4430e2d656e25c3ae4fdd134db69ef440b0b2fc57c62", func := "tailwater/tailwaterlaw04.NodesTells", spec := "nodesTells", unfollowed := true, recurses := true, apart := false, narrowed := true }
def NodesTellsUptoSaid : Prop := nodesTellsUptoRow.holds Try.pinned (OpenSpec.upto nodesTellsSpec)

/-- 'tailwaterlaw04.NodesMade', WHERE WHAT IT READS IS OF BULK AT MOST 1048576: true; the input reads as it did. -/
def nodesMadeUptoRow : OpenClaim := { program := "ytakpbpabblgobaa", sum := "0ca58ba4992b10791daa4430e2d656e25c3ae4fdd134db69ef440b0b2fc57c62", func := "tailwater/tailwaterlaw04.NodesMade", spec := "nodesMade", unfollowed := true, recurses := true, apart := false, narrowed := true }
def NodesMadeUptoSaid : Prop := nodesMadeUptoRow.holds Try.pinned (OpenSpec.upto nodesMadeSpec)

/-- 'tailwaterlaw04.NodesSizes', WHERE WHAT IT READS IS OF BULK AT MOST 1048576: true; the input reads as it did. -/
def nodesSizesUptoRow : OpenClaim := { program := "ytakpbpabblgobaa", sum := "0ca58ba4992b10791daa4430e2d656e25c3ae4fdd134db69ef440b0b2fc57c62", func := "tailwater/tailwaterlaw04.NodesSizes", spec := "nodesSizes", unfollowed := true, recurses := true, apart := false, narrowed := true }
def NodesSizesUptoSaid : Prop := nodesSizesUptoRow.holds Try.pinned (OpenSpec.upto nodesSizesSpec)

/-- 'tailwaterlaw04.NodesSame', WHERE WHAT IT READS IS OF BULK AT MOST 1048576: true; the input reads as it did. -/
def nodesSameUptoRow : OpenClaim := { program := "ytakpbpabblgobaa", sum := "0ca58ba4992b10791daa4430e2d656e25c3ae4fdd134db69ef440b0b2fc57c62", func := "tailwater/tailwaterlaw04.NodesSame", spec := "nodesSame", unfollowed := true, recurses := true, apart := false, narrowed := true }
def NodesSameUptoSaid : Prop := nodesSameUptoRow.holds Try.pinned (OpenSpec.upto nodesSameSpec)

/-- 'tailwaterlaw04.NodesOther', WHERE WHAT IT READS IS OF BULK AT MOST 1048576: true; the input reads as it did. -/
def nodesOtherUptoRow : OpenClaim := { program := "ytakpbpabblgobaa", sum := "0ca58ba4992b10791daa4430e2d656e25c3ae4fdd134db69ef440b0b2fc57c62", func := "tailwater/tailwaterlaw04.NodesOther", spec := "nodesOther", unfollowed := true, recurses := true, apart := false, narrowed := true }
def NodesOtherUptoSaid : Prop := nodesOtherUptoRow.holds Try.pinned (OpenSpec.upto nodesOtherSpec)

end Rows
end Go.Proofs.Ytakpbpabblgobaa
