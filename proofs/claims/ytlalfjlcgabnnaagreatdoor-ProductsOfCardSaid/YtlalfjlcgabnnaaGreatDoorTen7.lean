/- Contract of getShape of package tensors: the dimensions that bytes begin with, and the bytes behind them. -/
import Derived.Test.YtlalfjlcgabnnaaGreatDoorTen6
import Derived.Test.YtlalfjlcgabnnaaGreatDoorGet
import Derived.Test.YtlalfjlcgabnnaaGreatDoorLits
namespace Go.Proofs.YtlalfjlcgabnnaaGreatDoor
open Go.RowKit
set_option linter.unusedVariables false
set_option linter.unusedSimpArgs false
set_option maxRecDepth 20000

theorem lies_slice {w : World} {b o n : Nat} {bs : List Int} {k : IntKind} (h : Lies w (some ⟨b, o, none⟩) n (bs.map (Value.int k))) {i j : Nat} (hij : i ≤ j) (hj : j ≤ n) :
    Lies w (some ⟨b, o + i, none⟩) (j - i) (((bs.drop i).take (j - i)).map (Value.int k)) := by
  have hl : bs.length = n := by have := h.len; simpa using this
  refine ⟨by simp [hl]; omega, fun hp => ?_⟩
  obtain ⟨b', o', e, hb, hx⟩ := h.cells (by omega)
  cases e
  refine ⟨b, o + i, rfl, hb, fun m hm => ?_⟩
  rw [Nat.add_assoc, hx (i + m) (by omega)]
  simp [List.getElem?_take, hm, List.getElem?_drop]

theorem lies_empty {w : World} {A : Option Addr} {k : IntKind} : Lies w A 0 (([] : List Int).map (Value.int k)) := ⟨rfl, fun h => absurd h (by omega)⟩

/-- The dimensions that bytes begin with. -/
def shpOf (bs : List Int) (k : Nat) : List Int := (bs.drop 1).take k

theorem shpOf_succ {bs : List Int} {k : Nat} (h : 1 + k < bs.length) : shpOf bs (k + 1) = shpOf bs k ++ [bs.getD (1 + k) 0] := by
  have hkl : k < (bs.drop 1).length := by rw [List.length_drop]; omega
  have e : (bs.drop 1)[k] = bs.getD (1 + k) 0 := by rw [List.getElem_drop]; simp [List.getD, h]
  rw [shpOf, List.take_succ_eq_append_getElem hkl, e]
  rfl

theorem shpOf_len {bs : List Int} {k : Nat} (h : 1 + k ≤ bs.length) : (shpOf bs k).length = k := by simp [shpOf]; omega

end Go.Proofs.YtlalfjlcgabnnaaGreatDoor
