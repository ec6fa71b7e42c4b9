/- Contracts of GetFour and copyWithRoom. -/
import Derived.Test.YthdicobagmhpcaaRead
import Derived.Test.YthdicobagmhpcaaCells
import Derived.Laws.CopyOwn
namespace Go.Proofs.Ythdicobagmhpcaa
open Go.RowKit

/-- The number that the first four bytes are. -/
def head4 (bs : List Int) : Int := word (bs.getD 0 0) (bs.getD 1 0) (bs.getD 2 0) (bs.getD 3 0)

theorem splice_zero (Z xs : List Value) (h : xs.length ≤ Z.length) : (splice Z 0 xs).length = Z.length ∧ (splice Z 0 xs).take xs.length = xs :=
  ⟨length_splice Z 0 xs (by omega), by simp [splice]⟩

end Go.Proofs.Ythdicobagmhpcaa
