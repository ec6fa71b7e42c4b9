/- Contracts of GetFour and copyWithRoom. -/
import Derived.Test.YtlalfjlcgabnnaaRead
import Derived.Test.YtlalfjlcgabnnaaCells
import Derived.Laws.CopyOwn
namespace Go.Proofs.Ytlalfjlcgabnnaa
open Go.RowKit

/-- The number that the first four bytes are. -/
def head4 (bs : List Int) : Int := word (bs.getD 0 0) (bs.getD 1 0) (bs.getD 2 0) (bs.getD 3 0)

/-- A row of zero bytes. -/
def zeroRow (m : Nat) : List Value := List.replicate m (.int .u8 0)

theorem zeroRow_len (m : Nat) : (zeroRow m).length = m := by simp [zeroRow]

theorem splice_zero (Z xs : List Value) (h : xs.length ≤ Z.length) : (splice Z 0 xs).length = Z.length ∧ (splice Z 0 xs).take xs.length = xs :=
  ⟨length_splice Z 0 xs (by omega), by simp [splice]⟩

end Go.Proofs.Ytlalfjlcgabnnaa
