/- Contracts of readWord (at uint32 and at int32): four bytes of a slice, read as one number. -/
import Derived.Test.YtlalfjlcgabnnaaGreatDoorRows
import Derived.Test.YtlalfjlcgabnnaaGreatDoorMem
import Derived.Test.YtlalfjlcgabnnaaGreatDoorWords
import Derived.Deep.QuietTactic
import Derived.BigQuiet
namespace Go.Proofs.YtlalfjlcgabnnaaGreatDoor
open Go.RowKit

end Go.Proofs.YtlalfjlcgabnnaaGreatDoor
