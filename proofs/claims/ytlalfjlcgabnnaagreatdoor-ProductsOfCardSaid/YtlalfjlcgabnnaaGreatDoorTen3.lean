/- Whether two lists are the same: Equal at lists of integers, SameBytes; Same of package tensors, whose numbers are gone through by a range over a method value. -/
import Derived.Test.YtlalfjlcgabnnaaGreatDoorTen2
import Derived.Test.YtlalfjlcgabnnaaGreatDoorRange
import Derived.RangeFuncBound
import Derived.Test.YtlalfjlcgabnnaaGreatDoorSameG
import Derived.Deep.QuietTactic
import Derived.BigQuiet
namespace Go.Proofs.YtlalfjlcgabnnaaGreatDoor
open Go.RowKit Go.Shelf
set_option linter.unusedVariables false
set_option linter.unusedSimpArgs false
set_option maxRecDepth 20000

end Go.Proofs.YtlalfjlcgabnnaaGreatDoor
