/- Contracts of PutFour and PutList: the bytes that came in, copied, and the words behind them, in memory of the call's own. -/
import Derived.Test.YtlalfjlcgabnnaaGreatDoorAdd
namespace Go.Proofs.YtlalfjlcgabnnaaGreatDoor
open Go.RowKit

theorem lies_new (w : World) (cs : List Value) (t : TypeId) : Lies (w.alloc (.cells cs.toArray t)) (some ⟨w.heap.size, 0, none⟩) cs.length cs :=
  ⟨rfl, fun _ => ⟨w.heap.size, 0, rfl, by simp, fun j hj => by
    have h := cells_new w cs t j cs[j] (List.getElem?_eq_getElem hj)
    rw [Addr.add_lit] at h
    rw [h, List.getElem?_eq_getElem hj]⟩⟩

theorem encV_cons (x : Int) (zs : List Int) : encV (x :: zs) = encV [x] ++ encV zs := by simp [encV, enc]

end Go.Proofs.YtlalfjlcgabnnaaGreatDoor
