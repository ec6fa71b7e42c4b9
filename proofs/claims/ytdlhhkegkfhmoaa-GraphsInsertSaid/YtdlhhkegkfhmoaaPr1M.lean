/- Contracts of package products: a sum that two closures know; a row with a column. -/
import Derived.Test.YtdlhhkegkfhmoaaWB
import Derived.Deep.QuietTactic
import Derived.BigQuiet
namespace Go.Proofs.Ytdlhhkegkfhmoaa
open Go.RowKit
set_option linter.unusedVariables false
set_option linter.unusedSimpArgs false
set_option maxRecDepth 100000

theorem setCell_self (w : World) (a : Addr) (u : Value) : w.grownBy (w.setCell a u) (some a.block) := grown_cell6 w a u

end Go.Proofs.Ytdlhhkegkfhmoaa
