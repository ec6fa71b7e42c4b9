/- Contracts of readWord (at uint32 and at int32): four bytes of a slice, read as one number. -/
import Derived.Test.YtlalfjlcgabnnaaRows
import Derived.Test.YtlalfjlcgabnnaaMem
import Derived.Test.YtlalfjlcgabnnaaWords
import Derived.Deep.QuietTactic
import Derived.BigQuiet
namespace Go.Proofs.Ytlalfjlcgabnnaa
open Go.RowKit

end Go.Proofs.Ytlalfjlcgabnnaa
