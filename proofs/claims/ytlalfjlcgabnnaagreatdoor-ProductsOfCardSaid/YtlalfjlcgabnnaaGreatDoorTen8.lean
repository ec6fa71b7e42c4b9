/- Contract of Get of package tensors: the tensor whose bytes these are, or none. -/
import Derived.Test.YtlalfjlcgabnnaaGreatDoorTen7
namespace Go.Proofs.YtlalfjlcgabnnaaGreatDoor
open Go.RowKit Go.Shelf
set_option linter.unusedVariables false
set_option linter.unusedSimpArgs false
set_option maxRecDepth 20000
attribute [local go_sem] Oper.semAt_some

/-- How many dimensions bytes tell. -/
def dimsOf (bs : List Int) : Nat := (bs.getD 0 0).toNat

/-- Are bytes those of a tensor? -/
def getOk (bs : List Int) : Bool := decide (1 + dimsOf bs ≤ bs.length) && decide (0 < sizeI (shpOf bs (dimsOf bs))) && decide (((bs.length - (1 + dimsOf bs) : Nat) : Int) = 4 * sizeI (shpOf bs (dimsOf bs)))

end Go.Proofs.YtlalfjlcgabnnaaGreatDoor
