/- Merged: Ma4. -/
import Derived.Test.YtohndckbhjakfaaGreatDoorWZ06
namespace Go.Proofs.YtohndckbhjakfaaGreatDoor

section
open Go.RowKit
set_option linter.unusedVariables false
set_option linter.unusedSimpArgs false
set_option maxRecDepth 20000

/-- Why two tensors can't be put together. -/
def twoE (s : List Int) (m : Nat) (s' : List Int) (m' : Nat) : Int := if tenOk s m = true ∧ tenOk s' m' = true then (if s = s' then 0 else 10) else 1

/-- What two tensors' shape is put together. -/
def twoS (s : List Int) (m : Nat) (s' : List Int) (m' : Nat) : List Int := if twoE s m s' m' = 0 then s else []

def twoL (f : Int → Int → Int) (s : List Int) (m : Nat) (s' : List Int) (m' : Nat) (l l' : List Int) : List Int := if twoE s m s' m' = 0 then List.zipWith f l l' else []

end

end Go.Proofs.YtohndckbhjakfaaGreatDoor

