/- Merged: Ma5. -/
import Derived.Test.YtohndckbhjakfaaGreatDoorWZ07
namespace Go.Proofs.YtohndckbhjakfaaGreatDoor

section
open Go.RowKit
set_option linter.unusedVariables false
set_option linter.unusedSimpArgs false
set_option maxRecDepth 20000

/-- Why a tensor can't be taken. -/
def oneE (s : List Int) (m : Nat) : Int := if tenOk s m = true then 0 else 1

def oneS (s : List Int) (m : Nat) : List Int := if tenOk s m = true then s else []

def oneL (f : Int → Int) (s : List Int) (m : Nat) (l : List Int) : List Int := if tenOk s m = true then l.map f else []

def shE (s : List Int) (m : Nat) (n : Int) : Int := if tenOk s m = true ∧ 0 ≤ n ∧ n ≤ 31 then 0 else 1

def shS (s : List Int) (m : Nat) (n : Int) : List Int := if tenOk s m = true ∧ 0 ≤ n ∧ n ≤ 31 then s else []

def shL (s : List Int) (m : Nat) (n : Int) (l : List Int) : List Int := if tenOk s m = true ∧ 0 ≤ n ∧ n ≤ 31 then l.map (shf n.toNat) else []

end

end Go.Proofs.YtohndckbhjakfaaGreatDoor

