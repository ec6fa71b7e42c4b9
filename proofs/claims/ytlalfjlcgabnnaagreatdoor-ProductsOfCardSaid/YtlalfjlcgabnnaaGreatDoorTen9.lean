/- Contract of Get of package tensors at the bytes of a tensor: its numbers are put where a range over a method value goes. -/
import Derived.Test.YtlalfjlcgabnnaaGreatDoorTen8
namespace Go.Proofs.YtlalfjlcgabnnaaGreatDoor
open Go.RowKit Go.Shelf
set_option linter.unusedVariables false
set_option linter.unusedSimpArgs false
set_option maxRecDepth 20000
attribute [local go_sem] Oper.semAt_some

/-- What holds between two rounds of Get's loop. -/
def getI (w1 : World) (p2 : Nat) (R : Option Addr) (cr g1 q c1 g2 k : Nat) (ss rest : List Int) (j : Nat) (W : World) : Prop :=
  (Box1 W w1.heap.size 75 (.slice R (4 * k) cr) ∧ BoxT W p2 (.slice (some ⟨g1, 0, none⟩) q c1) (.slice (some ⟨g2, 0, none⟩) k k) ∧ W.heap[g2]? = some (.cells (part rest k j).toArray 21 (0, 0)) ∧
    W.ownsRow w1.heap.size 3 1 (.slice (some ⟨g1, 0, none⟩) q c1) q (ss.map (Value.int .i64))) ∧ Below w1.heap.size w1 W

theorem own_setCell' {w : World} {base : Nat} {e : TypeId} {g n c : Nat} {xs : List Value} (h : w.ownsRow base e 1 (.slice (some ⟨g, 0, none⟩) n c) n xs) {a : Addr} (hp : g ≠ a.block) (v : Value) : (w.setCell a v).ownsRow base e 1 (.slice (some ⟨g, 0, none⟩) n c) n xs := by
  obtain ⟨cur, hh, hr⟩ := own_heap h
  refine h.kept (row := some a.block) ⟨rfl, rfl, rfl, by simp, fun k _ hk => Below.heap_setCell w a v k (by intro e; exact hk (by rw [e]))⟩ ?_
  right
  intro e'
  cases e'
  exact hp rfl

theorem getD_part (l : List Int) (a m i : Nat) (h : i < m) : ((l.drop a).take m).getD i 0 = l.getD (a + i) 0 := by
  simp [List.getD, List.getElem?_take, h, List.getElem?_drop]

theorem head_wd (l : List Int) (j m : Nat) (h : 4 ≤ m) : IntKind.i32.wrap (head4 ((l.drop (4 * j)).take m)) = wd l j := by
  rw [head4, getD_part _ _ _ _ (by omega), getD_part _ _ _ _ (by omega), getD_part _ _ _ _ (by omega), getD_part _ _ _ _ (by omega)]
  rfl

end Go.Proofs.YtlalfjlcgabnnaaGreatDoor
