/- Contracts of GetList: what is wrong with the bytes, or the list that they begin with, in memory of the call's own. -/
import Derived.Test.YtlalfjlcgabnnaaGreatDoorList
namespace Go.Proofs.YtlalfjlcgabnnaaGreatDoor
open Go.RowKit

theorem dec_take (bs : List Int) (q : Nat) : dec (bs.take (4 * q)) q = dec bs q := by
  unfold dec
  refine List.map_congr_left fun j hj => ?_
  have hj' : j < q := by simpa using hj
  simp only [wd, List.getD, List.getElem?_take]
  rw [if_pos (by omega), if_pos (by omega), if_pos (by omega), if_pos (by omega)]

end Go.Proofs.YtlalfjlcgabnnaaGreatDoor
