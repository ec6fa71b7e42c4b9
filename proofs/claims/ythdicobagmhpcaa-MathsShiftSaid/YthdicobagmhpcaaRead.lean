/- Contracts of readWord (at uint32 and at int32): four bytes of a slice, read as one number. -/
import Derived.Test.YthdicobagmhpcaaRows
import Derived.Test.YthdicobagmhpcaaMem
import Derived.Test.YthdicobagmhpcaaWords
import Derived.Deep.QuietTactic
import Derived.BigQuiet
namespace Go.Proofs.Ythdicobagmhpcaa
open Go.RowKit

end Go.Proofs.Ythdicobagmhpcaa
