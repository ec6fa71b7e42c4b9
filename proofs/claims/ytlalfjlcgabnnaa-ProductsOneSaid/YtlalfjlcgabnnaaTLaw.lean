/- Contracts of the statements' own helpers on tensors: Of, TensorSize, TwinTensor. -/
import Derived.Test.YtlalfjlcgabnnaaTen4
import Derived.Test.YtlalfjlcgabnnaaTen9
namespace Go.Proofs.Ytlalfjlcgabnnaa
open Go.RowKit
set_option linter.unusedVariables false
set_option linter.unusedSimpArgs false
set_option maxRecDepth 20000

/-- How great a tensor counts. -/
def tsz (n m : Nat) : Nat := if 1 + n ≤ 1048576 then 1 + n + m else 1 + n

theorem BoxT.set2 {w : World} {p : Nat} {v u : Value} (h : BoxT w p v u) (x y : Value) : BoxT ((w.setCell ⟨p, 0, none⟩ x).setCell ⟨p, 1, none⟩ y) p x y := by
  have h0 : w.heap[p]? = some (.cells #[v, u] 28 (0, 0)) := h
  have e1 := setCell_eq_setRow w p 0 _ _ (0, 0) x h0
  have h1 := setRow_heap w p _ (#[v, u].setIfInBounds 0 x) _ _ h0
  have e2 := setCell_eq_setRow (w.setRow p (#[v, u].setIfInBounds 0 x)) p 1 _ _ (0, 0) y h1
  have h2 := setRow_heap (w.setRow p (#[v, u].setIfInBounds 0 x)) p _ ((#[v, u].setIfInBounds 0 x).setIfInBounds 1 y) _ _ h1
  rw [e1, e2]
  exact h2

theorem BoxT.f0 {w : World} {p : Nat} {v u : Value} (h : BoxT w p v u) (j : Nat) : w.frozen? ⟨p, j, none⟩ = false := by
  have h' : w.heap[p]? = some (.cells #[v, u] 28 (0, 0)) := h
  simp [World.frozen?, h']

end Go.Proofs.Ytlalfjlcgabnnaa
