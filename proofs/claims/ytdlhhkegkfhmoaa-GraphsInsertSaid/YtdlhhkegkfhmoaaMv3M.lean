/- Contracts of package moves' small calls: has, index, split; the closure of sumOrigin. -/
import Derived.Test.YtdlhhkegkfhmoaaMv2M
namespace Go.Proofs.Ytdlhhkegkfhmoaa
open Go.RowKit
set_option linter.unusedVariables false
set_option linter.unusedSimpArgs false
set_option maxRecDepth 100000

end Go.Proofs.Ytdlhhkegkfhmoaa
