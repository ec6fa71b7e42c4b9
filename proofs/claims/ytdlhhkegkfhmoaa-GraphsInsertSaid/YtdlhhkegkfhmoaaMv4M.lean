/- Contracts of sumOrigin and of its closure: where a number that is summed comes from. -/
import Derived.Test.YtdlhhkegkfhmoaaMv3M
namespace Go.Proofs.Ytdlhhkegkfhmoaa
open Go.RowKit
set_option linter.unusedVariables false
set_option linter.unusedSimpArgs false
set_option maxRecDepth 100000

end Go.Proofs.Ytdlhhkegkfhmoaa
