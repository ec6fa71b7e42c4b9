/- Contracts of Index of package shapes: one for each way an answer comes out; nothing that was there is changed. -/
import Derived.Test.YtlalfjlcgabnnaaGreatDoorShapeIndex
namespace Go.Proofs.YtlalfjlcgabnnaaGreatDoor
open Go.RowKit
set_option linter.unusedVariables false
set_option linter.unusedSimpArgs false

end Go.Proofs.YtlalfjlcgabnnaaGreatDoor
