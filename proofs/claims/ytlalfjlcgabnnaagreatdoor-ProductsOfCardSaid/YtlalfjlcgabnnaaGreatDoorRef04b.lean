/- Contracts of the document's answers of layer 4 (Index, At of the reference package). -/
import Derived.Test.YtlalfjlcgabnnaaGreatDoorRef04
namespace Go.Proofs.YtlalfjlcgabnnaaGreatDoor
open Go.RowKit
set_option linter.unusedVariables false
set_option linter.unusedSimpArgs false

end Go.Proofs.YtlalfjlcgabnnaaGreatDoor
