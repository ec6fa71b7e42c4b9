/- Merged: Pr1. -/
import Derived.Test.YtohndckbhjakfaaGreatDoorWZ14
import Derived.Test.YtohndckbhjakfaaGreatDoorWZ09
import Derived.Deep.QuietTactic
import Derived.BigQuiet
namespace Go.Proofs.YtohndckbhjakfaaGreatDoor

section
open Go.RowKit
set_option linter.unusedVariables false
set_option linter.unusedSimpArgs false
set_option maxRecDepth 100000

end

end Go.Proofs.YtohndckbhjakfaaGreatDoor

