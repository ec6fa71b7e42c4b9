/- What the visits of Index, isInside and At do at one place. -/
import Derived.Test.YtlalfjlcgabnnaaGreatDoorShapeSize
namespace Go.Proofs.YtlalfjlcgabnnaaGreatDoor
open Go.RowKit
set_option linter.unusedVariables false
set_option linter.unusedSimpArgs false

end Go.Proofs.YtlalfjlcgabnnaaGreatDoor
