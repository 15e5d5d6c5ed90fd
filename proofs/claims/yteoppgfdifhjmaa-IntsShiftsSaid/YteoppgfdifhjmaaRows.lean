/-
  No cell of these rows narrows 'for every input' (looked for: loops, veiled, ifaces, maps, wideKeys, modest, calm, conditions, laid).
  DERIVED. THE GIVEN ROWS OF THIS SEAT. 4 by the template 'for every input the law returns true; each argument reads behind the call as it read before'; 0 by the template 'total and deterministic' (their statements: YteoppgfdifhjmaaTotals.lean).
  GIVEN WITH THE SEED: the statements are not yours to turn. If you find one false, say at which input.
  Laid BY PROGRAM, IN A SANDBOX (cutbox-rows.mjs): the forced cells as the released guide's own fill.sh prints them over the translation 6401e76f3e99b045… (all of the seat's roots in one cut). By AI agents, Wed Nov 11 2026. No macro, syntax, notation, axiom, sorry.
-/
import Derived.Test.YteoppgfdifhjmaaChecked
import GoSem.Claim
import GoSem.ClaimJoined
import GoSem.ClaimMapViews
import Derived.JoinedTies
import Derived.KernelRfl
namespace Go.Proofs.Yteoppgfdifhjmaa
/- THE CELL 'sum', in the pinned program and in every row, IS THE sha256 OF THE DUMP (.gsa) THAT YteoppgfdifhjmaaProg.lean LOADS. Nothing in Lean hashes anything: it is a label: what it is worth is what the hold of that sum in a sandbox is worth. -/
noncomputable def Try.pinned : Pinned := { name := "yteoppgfdifhjmaa", sum := "6401e76f3e99b045ba711e2cfa55e29edb70e555b1ceab20a89a28022061ae24", checked := Try.checked }
namespace Rows
def none {H : Type} : Left H := { results := [], args := [] }

/-- 'tailwaterlaw01.IntsDoes': WHATEVER THE INPUT: true; the input reads as it did. -/
def intsDoesSpec : ChangeSpec := { name := "intsDoes", fn := fun _ => fun
  | [d1, d2, d3] => { results := [.lit (.bool true)], args := [d1, d2, d3] }
  | _ => none }
def intsDoesRow : OpenClaim := { program := "yteoppgfdifhjmaa", sum := "6401e76f3e99b045ba711e2cfa55e29edb70e555b1ceab20a89a28022061ae24", func := "tailwater/tailwaterlaw01.IntsDoes", spec := "intsDoes", apart := false }
def IntsDoesSaid : Prop := intsDoesRow.holds Try.pinned (OpenSpec.ofChange intsDoesSpec)

/-- ITS FALSE NEIGHBOUR: 'it returns false'. Refute it at one input. -/
def intsDoesWrong : ChangeSpec := { name := "intsDoes", fn := fun _ => fun
  | [d1, d2, d3] => { results := [.lit (.bool false)], args := [d1, d2, d3] }
  | _ => none }
def IntsDoesWrongFalsely : Prop := intsDoesRow.holds Try.pinned (OpenSpec.ofChange intsDoesWrong)

/-- 'tailwaterlaw01.IntsRing': WHATEVER THE INPUT: true; the input reads as it did. -/
def intsRingSpec : ChangeSpec := { name := "intsRing", fn := fun _ => fun
  | [d1, d2, d3] => { results := [.lit (.bool true)], args := [d1, d2, d3] }
  | _ => none }
def intsRingRow : OpenClaim := { program := "yteoppgfdifhjmaa", sum := "6401e76f3e99b045ba711e2cfa55e29edb70e555b1ceab20a89a28022061ae24", func := "tailwater/tailwaterlaw01.IntsRing", spec := "intsRing", apart := false }
def IntsRingSaid : Prop := intsRingRow.holds Try.pinned (OpenSpec.ofChange intsRingSpec)

/-- ITS FALSE NEIGHBOUR: 'it returns false'. Refute it at one input. -/
def intsRingWrong : ChangeSpec := { name := "intsRing", fn := fun _ => fun
  | [d1, d2, d3] => { results := [.lit (.bool false)], args := [d1, d2, d3] }
  | _ => none }
def IntsRingWrongFalsely : Prop := intsRingRow.holds Try.pinned (OpenSpec.ofChange intsRingWrong)

/-- 'tailwaterlaw01.IntsShifts': WHATEVER THE INPUT: true; the input reads as it did. -/
def intsShiftsSpec : ChangeSpec := { name := "intsShifts", fn := fun _ => fun
  | [d1, d2] => { results := [.lit (.bool true)], args := [d1, d2] }
  | _ => none }
def intsShiftsRow : OpenClaim := { program := "yteoppgfdifhjmaa", sum := "6401e76f3e99b045ba711e2cfa55e29edb70e555b1ceab20a89a28022061ae24", func := "tailwater/tailwaterlaw01.IntsShifts", spec := "intsShifts", apart := false }
def IntsShiftsSaid : Prop := intsShiftsRow.holds Try.pinned (OpenSpec.ofChange intsShiftsSpec)

/-- ITS FALSE NEIGHBOUR: 'it returns false'. Refute it at one input. -/
def intsShiftsWrong : ChangeSpec := { name := "intsShifts", fn := fun _ => fun
  | [d1, d2] => { results := [.lit (.bool false)], args := [d1, d2] }
  | _ => none }
def IntsShiftsWrongFalsely : Prop := intsShiftsRow.holds Try.pinned (OpenSpec.ofChange intsShiftsWrong)

/-- 'tailwaterlaw01.IntsOrder': WHATEVER THE INPUT: true; the input reads as it did. -/
def intsOrderSpec : ChangeSpec := { name := "intsOrder", fn := fun _ => fun
  | [d1, d2, d3] => { results := [.lit (.bool true)], args := [d1, d2, d3] }
  | _ => none }
def intsOrderRow : OpenClaim := { program := "yteoppgfdifhjmaa", sum := "6401e76f3e99b045ba711e2cfa55e29edb70e555b1ceab20a89a28022061ae24", func := "tailwater/tailwaterlaw01.IntsOrder", spec := "intsOrder", apart := false }
def IntsOrderSaid : Prop := intsOrderRow.holds Try.pinned (OpenSpec.ofChange intsOrderSpec)

/-- ITS FALSE NEIGHBOUR: 'it returns false'. Refute it at one input. -/
def intsOrderWrong : ChangeSpec := { name := "intsOrder", fn := fun _ => fun
  | [d1, d2, d3] => { results := [.lit (.bool false)], args := [d1, d2, d3] }
  | _ => none }
def IntsOrderWrongFalsely : Prop := intsOrderRow.holds Try.pinned (OpenSpec.ofChange intsOrderWrong)

/- THE SECOND FORM. 'bulk': how many values and letters a reading holds, each counted each time it is reached (what is shared counts as often as it is met; a slice's spare places count too). A statement '..UptoSaid' is the law's where the arguments, and the package variables that the reading takes, are together of bulk at most 1048576: NARROWER than '..Said'. Prove '..Said' where nothing that the law and all that it calls make is longer than what came in: it says more and counts as full. Else prove '..UptoSaid'. A law counts once. -/
mutual
def uptoBulk {H : Type} : DataW H → Nat
  | .lit (.string bytes) => bytes.length + 1
  | .lit _ => 1
  | .nil => 1
  | .ptr d => uptoBulk d + 1
  | .slice elems spare => uptoBulkAll elems + uptoBulkAll spare + 1
  | .agg parts => uptoBulkAll parts + 1
  | .iface _ d => uptoBulk d + 1
  | .map entries => uptoBulkEntries entries + 1
  | .held _ => 1
def uptoBulkAll {H : Type} : List (DataW H) → Nat
  | [] => 0
  | d :: r => uptoBulk d + uptoBulkAll r
def uptoBulkEntries {H : Type} : List (Lit × DataW H) → Nat
  | [] => 0
  | x :: r => uptoBulkEntry x + uptoBulkEntries r
def uptoBulkEntry {H : Type} : Lit × DataW H → Nat
  | (.string bytes, d) => bytes.length + uptoBulk d + 1
  | (_, d) => uptoBulk d + 1
 end
def uptoSmall : (H : Type) → List (DataW H) → Bool := fun _ ds => decide (uptoBulkAll ds ≤ 1048576)
def OpenSpec.upto (s : _root_.Go.ChangeSpec) : _root_.Go.OpenSpec := { _root_.Go.OpenSpec.ofChange s with cond := some uptoSmall }

/-- 'tailwaterlaw01.IntsDoes', WHERE WHAT IT READS IS OF BULK AT MOST 1048576: true; the input reads as it did. -/
def intsDoesUptoRow : OpenClaim := { program := "yteoppgfdifhjmaa", sum := "6401e76f3e99b045ba711e2cfa55e29edb70e555b1ceab20a89a28022061ae24", func := "tailwater/tailwaterlaw01.IntsDoes", spec := "intsDoes", apart := false, narrowed := true }
def IntsDoesUptoSaid : Prop := intsDoesUptoRow.holds Try.pinned (OpenSpec.upto intsDoesSpec)

/-- 'tailwaterlaw01.IntsRing', WHERE WHAT IT READS IS OF BULK AT MOST 1048576: true; the input reads as it did. -/
def intsRingUptoRow : OpenClaim := { program := "yteoppgfdifhjmaa", sum := "6401e76f3e99b045ba711e2cfa55e29edb70e555b1ceab20a89a28022061ae24", func := "tailwater/tailwaterlaw01.IntsRing", spec := "intsRing", apart := false, narrowed := true }
def IntsRingUptoSaid : Prop := intsRingUptoRow.holds Try.pinned (OpenSpec.upto intsRingSpec)

/-- 'tailwaterlaw01.IntsShifts', WHERE WHAT IT READS IS OF BULK AT MOST 1048576: true; the input reads as it did. -/
def intsShiftsUptoRow : OpenClaim := { program := "yteoppgfdifhjmaa", sum := "6401e76f3e99b045ba711e2cfa55e29edb70e555b1ceab20a89a28022061ae24", func := "tailwater/tailwaterlaw01.IntsShifts", spec := "intsShifts", apart := false, narrowed := true }
def IntsShiftsUptoSaid : Prop := intsShiftsUptoRow.holds Try.pinned (OpenSpec.upto intsShiftsSpec)

/-- 'tailwaterlaw01.IntsOrder', WHERE WHAT IT READS IS OF BULK AT MOST 1048576: true; the input reads as it did. -/
def intsOrderUptoRow : OpenClaim := { program := "yteoppgfdifhjmaa", sum := "6401e76f3e99b045ba711e2cfa55e29edb70e555b1ceab20a89a28022061ae24", func := "tailwater/tailwaterlaw01.IntsOrder", spec := "intsOrder", apart := false, narrowed := true }
def IntsOrderUptoSaid : Prop := intsOrderUptoRow.holds Try.pinned (OpenSpec.upto intsOrderSpec)

end Rows
end Go.Proofs.Yteoppgfdifhjmaa
