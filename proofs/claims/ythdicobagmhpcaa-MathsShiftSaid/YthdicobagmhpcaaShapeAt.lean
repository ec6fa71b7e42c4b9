/- What the visits of Index, isInside and At do at one place. -/
import Derived.Test.YthdicobagmhpcaaShapeSize
namespace Go.Proofs.Ythdicobagmhpcaa
open Go.RowKit
set_option linter.unusedVariables false
set_option linter.unusedSimpArgs false

end Go.Proofs.Ythdicobagmhpcaa
