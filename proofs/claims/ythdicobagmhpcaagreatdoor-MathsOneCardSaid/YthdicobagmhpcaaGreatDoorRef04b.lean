/- Contracts of the document's answers of layer 4 (Index, At of the reference package). -/
import Derived.Test.YthdicobagmhpcaaGreatDoorRef04
namespace Go.Proofs.YthdicobagmhpcaaGreatDoor
open Go.RowKit
set_option linter.unusedVariables false
set_option linter.unusedSimpArgs false

end Go.Proofs.YthdicobagmhpcaaGreatDoor
