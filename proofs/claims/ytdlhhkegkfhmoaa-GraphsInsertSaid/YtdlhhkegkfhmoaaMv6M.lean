/- Contract of without: a shape without one of its directions. -/
import Derived.Test.YtdlhhkegkfhmoaaMv5M
namespace Go.Proofs.Ytdlhhkegkfhmoaa
open Go.RowKit
set_option linter.unusedVariables false
set_option linter.unusedSimpArgs false
set_option maxRecDepth 100000

/-- A shape without one of its directions; of none 1. -/
def woL (s : List Int) (a : Nat) : List Int := if s.length = 1 then [1] else s.take a ++ s.drop (a + 1)

theorem woL_one {s : List Int} {a : Nat} (h : s.length = 1) : woL s a = [1] := by rw [woL, if_pos h]

theorem woL_more {s : List Int} {a : Nat} (h : ¬ s.length = 1) : woL s a = s.take a ++ s.drop (a + 1) := by rw [woL, if_neg h]

end Go.Proofs.Ytdlhhkegkfhmoaa
