/- Merged: Ma3. -/
import Derived.Test.YtohndckbhjakfaaGreatDoorWZ02
import Derived.Test.YtohndckbhjakfaaGreatDoorWZ05
namespace Go.Proofs.YtohndckbhjakfaaGreatDoor

section
open Go.RowKit
set_option linter.unusedVariables false
set_option linter.unusedSimpArgs false
set_option maxRecDepth 20000

/-- q numbers of which the first k are those of zs, the others 0. -/
def fillN (zs : List Int) (q k : Nat) : List Value := (List.range q).map fun j => .int .i32 (if j < k then zs.getD j 0 else 0)

section
variable {zs : List Int} {q k : Nat}

theorem fillN_len : (fillN zs q k).length = q := by simp [fillN]

theorem fillN_at {j : Nat} (h : j < q) : (fillN zs q k)[j]? = some (.int .i32 (if j < k then zs.getD j 0 else 0)) := by simp [fillN, h]

theorem fillN_none : fillN zs q 0 = List.replicate q (.int .i32 0) := by
  apply List.ext_getElem <;> simp [fillN]

theorem fillN_all (h : zs.length = q) : fillN zs q q = zs.map (Value.int .i32) := by
  apply List.ext_getElem
  · simp [fillN, h]
  · intro j h1 h2
    have : j < q := by simpa [fillN] using h1
    simp [fillN, this, List.getD, h]

theorem fillN_set : (fillN zs q k).set k (.int .i32 (zs.getD k 0)) = fillN zs q (k + 1) := by
  apply List.ext_getElem
  · simp [fillN]
  · intro j h1 h2
    simp only [fillN, List.getElem_set, List.getElem_map, List.getElem_range]
    by_cases e : k = j
    · subst e; simp
    · rw [if_neg e]
      by_cases h : j < k
      · rw [if_pos h, if_pos (by omega)]
      · rw [if_neg h, if_neg (by omega)]

end

/-- A block of q numbers, of which the first k are those of zs. -/
def FillAt (w : World) (g q : Nat) (zs : List Int) (k : Nat) : Prop := w.heap[g]? = some (.cells (fillN zs q k).toArray 21 (0, 0))

section
variable {w : World} {g q k : Nat} {zs : List Int}

theorem FillAt.cell (h : FillAt w g q zs k) {j : Nat} (hj : j < q) : w.cell? ⟨g, j, none⟩ = some (.int .i32 (if j < k then zs.getD j 0 else 0)) := by
  rw [cell_of_row _ _ j _ _ (0, 0) h, List.getElem?_toArray, fillN_at hj]

theorem FillAt.frozen (h : FillAt w g q zs k) (j : Nat) : w.frozen? ⟨g, j, none⟩ = false := frozen_of_row w g j _ _ h

theorem FillAt.lt (h : FillAt w g q zs k) : g < w.heap.size := lt_of_heap h

theorem FillAt.set (h : FillAt w g q zs k) : FillAt (w.setCell ⟨g, k, none⟩ (.int .i32 (zs.getD k 0))) g q zs (k + 1) := by
  have e1 := setCell_eq_setRow w g k _ _ (0, 0) (.int .i32 (zs.getD k 0)) h
  have h1 := setRow_heap w g _ ((fillN zs q k).toArray.setIfInBounds k (.int .i32 (zs.getD k 0))) _ _ h
  rw [e1]
  unfold FillAt
  rw [h1, ← fillN_set]
  simp

theorem FillAt.below (h : FillAt w g q zs k) {w' : World} (hb : Below w.heap.size w w') : FillAt w' g q zs k := (hb.block g h.lt).trans h

theorem FillAt.of_own {base : Nat} (h : w.ownsRow base 21 1 (.slice (some ⟨g, 0, none⟩) q q) q (List.replicate q (.int .i32 0))) (zs : List Int) : FillAt w g q zs 0 := by
  obtain ⟨cur, hh, _, _, _, hs, ht⟩ := own_heap h
  unfold FillAt
  rw [hh, fillN_none, ← ht, Nat.mul_one, List.take_of_length_le (by simp; omega)]

theorem FillAt.own (h : FillAt w g q zs q) (hz : zs.length = q) {base : Nat} (hb : base ≤ g) (hq : q ≤ maxLen) : w.ownsRow base 21 1 (.slice (some ⟨g, 0, none⟩) q q) q (zs.map (Value.int .i32)) :=
  own_of_block hb h fillN_len (Nat.le_refl _) hq (by rw [fillN_all hz, List.take_of_length_le (by simp [hz])])

end

end

end Go.Proofs.YtohndckbhjakfaaGreatDoor

