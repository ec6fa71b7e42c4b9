/- Contracts of addWords (at uint32 and at int32): the words of a list put behind a row that has room for them. -/
import Derived.Test.YtlalfjlcgabnnaaGreatDoorCopy
namespace Go.Proofs.YtlalfjlcgabnnaaGreatDoor
open Go.RowKit

/-- The bytes of a list of words. -/
def enc (zs : List Int) : List Int := zs.flatMap four

def encV (zs : List Int) : List Value := (enc zs).map (Value.int .u8)

theorem enc_len (zs : List Int) : (enc zs).length = 4 * zs.length := by
  induction zs with
  | nil => rfl
  | cons z r ih => simp only [enc, List.flatMap_cons, List.length_append, four_len, List.length_cons] at ih ⊢; omega

theorem encV_len (zs : List Int) : (encV zs).length = 4 * zs.length := by rw [encV, List.length_map, enc_len]

theorem encV_snoc (zs : List Int) (k : Nat) (h : k < zs.length) : encV (zs.take (k + 1)) = encV (zs.take k) ++ (four (zs.getD k 0)).map (Value.int .u8) := by
  have e : zs.getD k 0 = zs[k] := by simp [List.getD, h]
  rw [e, List.take_succ_eq_append_getElem h, encV, enc, List.flatMap_append, List.map_append]
  simp [encV, enc]

end Go.Proofs.YtlalfjlcgabnnaaGreatDoor
