
/- Contracts of the reference's right and Equal. -/
import Derived.Test.YtaijhkfbfkdepaaDoorNMem
import Derived.Laws.StructEq
import Derived.LoopTactic
namespace Go.Proofs.YtaijhkfbfkdepaaDoor.N4
open Go.ChangeShapes Go.WideShapes Go.ChangeAt Go.RowKit
set_option linter.unusedVariables false

end Go.Proofs.YtaijhkfbfkdepaaDoor.N4
