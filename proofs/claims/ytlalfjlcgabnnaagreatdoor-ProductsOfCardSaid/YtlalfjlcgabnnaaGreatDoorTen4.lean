/- Same of package tensors: its numbers are gone through by a range over a method value. -/
import Derived.Test.YtlalfjlcgabnnaaGreatDoorTen3
namespace Go.Proofs.YtlalfjlcgabnnaaGreatDoor
open Go.RowKit Go.Shelf
set_option linter.unusedVariables false
set_option linter.unusedSimpArgs false
set_option maxRecDepth 20000
attribute [local go_sem] Oper.semAt_some

end Go.Proofs.YtlalfjlcgabnnaaGreatDoor
