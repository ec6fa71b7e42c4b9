/- Contracts of readWord (at uint32 and at int32): four bytes of a slice, read as one number. -/
import Derived.Test.YthdicobagmhpcaaGreatDoorRows
import Derived.Test.YthdicobagmhpcaaGreatDoorMem
import Derived.Test.YthdicobagmhpcaaGreatDoorWords
import Derived.Deep.QuietTactic
import Derived.BigQuiet
namespace Go.Proofs.YthdicobagmhpcaaGreatDoor
open Go.RowKit

end Go.Proofs.YthdicobagmhpcaaGreatDoor
