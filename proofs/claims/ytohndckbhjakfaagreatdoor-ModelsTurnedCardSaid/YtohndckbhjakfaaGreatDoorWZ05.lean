/- Merged: Ten9, TLaw. -/
import Derived.Test.YtohndckbhjakfaaGreatDoorWZ04
import Derived.Test.YtohndckbhjakfaaGreatDoorWZ03
namespace Go.Proofs.YtohndckbhjakfaaGreatDoor

section
open Go.RowKit Go.Shelf
set_option linter.unusedVariables false
set_option linter.unusedSimpArgs false
set_option maxRecDepth 20000
attribute [local go_sem] Oper.semAt_some

/-- What holds between two rounds of Get's loop. -/
def getI (w1 : World) (p2 : Nat) (R : Option Addr) (cr g1 q c1 g2 k : Nat) (ss rest : List Int) (j : Nat) (W : World) : Prop :=
  (Box1 W w1.heap.size 30 (.slice R (4 * k) cr) ∧ BoxT W p2 (.slice (some ⟨g1, 0, none⟩) q c1) (.slice (some ⟨g2, 0, none⟩) k k) ∧ W.heap[g2]? = some (.cells (part rest k j).toArray 21 (0, 0)) ∧
    W.ownsRow w1.heap.size 3 1 (.slice (some ⟨g1, 0, none⟩) q c1) q (ss.map (Value.int .i64))) ∧ Below w1.heap.size w1 W

theorem own_setCell' {w : World} {base : Nat} {e : TypeId} {g n c : Nat} {xs : List Value} (h : w.ownsRow base e 1 (.slice (some ⟨g, 0, none⟩) n c) n xs) {a : Addr} (hp : g ≠ a.block) (v : Value) : (w.setCell a v).ownsRow base e 1 (.slice (some ⟨g, 0, none⟩) n c) n xs := by
  obtain ⟨cur, hh, hr⟩ := own_heap h
  refine h.kept (row := some a.block) ⟨rfl, rfl, rfl, by simp, fun k _ hk => Below.heap_setCell w a v k (by intro e; exact hk (by rw [e]))⟩ ?_
  right
  intro e'
  cases e'
  exact hp rfl

theorem getD_part (l : List Int) (a m i : Nat) (h : i < m) : ((l.drop a).take m).getD i 0 = l.getD (a + i) 0 := by
  simp [List.getD, List.getElem?_take, h, List.getElem?_drop]

theorem head_wd (l : List Int) (j m : Nat) (h : 4 ≤ m) : IntKind.i32.wrap (head4 ((l.drop (4 * j)).take m)) = wd l j := by
  rw [head4, getD_part _ _ _ _ (by omega), getD_part _ _ _ _ (by omega), getD_part _ _ _ _ (by omega), getD_part _ _ _ _ (by omega)]
  rfl

end

section
open Go.RowKit
set_option linter.unusedVariables false
set_option linter.unusedSimpArgs false
set_option maxRecDepth 20000

/-- How great a tensor counts. -/
def tsz (n m : Nat) : Nat := if 1 + n ≤ 1048576 then 1 + n + m else 1 + n

theorem tsize_any (A B : Option Addr) (n c m d : Nat) (w : World) (hn : n ≤ 281474976710656) (hm : m ≤ 281474976710656) :
    Calls Tryz.prog 49 #[tenV A n c B m d] w fun e w' => e = .returned (.int .i64 (tsz n m)) ∧ Below w.heap.size w w' := by
  have HX := hide (BoxT.new w (.slice A n c) (.slice B m d))
  have HB := hide ((Below.refl w.heap.size w).alloc (Nat.le_refl _) (.cells #[.slice A n c, .slice B m d] 40))
  have h0 := HX.out.c0
  have h1 := HX.out.c1
  by_cases hb : 1 + n ≤ 1048576
  · have hb' : (1 : Int) + (n : Int) ≤ 1048576 := by omega
    have HT : Hid ((tsz n m : Int) = 1 + (n : Int) + (m : Int)) := hide (by rw [tsz, if_pos hb]; omega)
    go_enter Tryz.func49, Tryz.ntmps49
    go_wp2
    go_ret
    exact ⟨by rw [HT.out]; rfl, HB.out⟩
  · have hb' : ¬ (1 : Int) + (n : Int) ≤ 1048576 := by omega
    have HT : Hid ((tsz n m : Int) = 1 + (n : Int)) := hide (by rw [tsz, if_neg hb]; omega)
    go_enter Tryz.func49, Tryz.ntmps49
    go_wp2
    go_ret
    exact ⟨by rw [HT.out]; rfl, HB.out⟩

theorem BoxT.set2 {w : World} {p : Nat} {v u : Value} (h : BoxT w p v u) (x y : Value) : BoxT ((w.setCell ⟨p, 0, none⟩ x).setCell ⟨p, 1, none⟩ y) p x y := by
  have h0 : w.heap[p]? = some (.cells #[v, u] 40 (0, 0)) := h
  have e1 := setCell_eq_setRow w p 0 _ _ (0, 0) x h0
  have h1 := setRow_heap w p _ (#[v, u].setIfInBounds 0 x) _ _ h0
  have e2 := setCell_eq_setRow (w.setRow p (#[v, u].setIfInBounds 0 x)) p 1 _ _ (0, 0) y h1
  have h2 := setRow_heap (w.setRow p (#[v, u].setIfInBounds 0 x)) p _ ((#[v, u].setIfInBounds 0 x).setIfInBounds 1 y) _ _ h1
  rw [e1, e2]
  exact h2

theorem BoxT.f0 {w : World} {p : Nat} {v u : Value} (h : BoxT w p v u) (j : Nat) : w.frozen? ⟨p, j, none⟩ = false := by
  have h' : w.heap[p]? = some (.cells #[v, u] 40 (0, 0)) := h
  simp [World.frozen?, h']

end

end Go.Proofs.YtohndckbhjakfaaGreatDoor

