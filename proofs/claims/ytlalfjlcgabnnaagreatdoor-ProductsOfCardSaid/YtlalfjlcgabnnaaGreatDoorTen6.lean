/- Contract of Put of package tensors: the bytes of a tensor, gone through by a range over a method value. -/
import Derived.Test.YtlalfjlcgabnnaaGreatDoorTen5
import Derived.Test.YtlalfjlcgabnnaaGreatDoorRange
import Derived.RangeFuncBound
import Derived.Shelf.RegionOpen
namespace Go.Proofs.YtlalfjlcgabnnaaGreatDoor
open Go.RowKit Go.Shelf
set_option linter.unusedVariables false
set_option linter.unusedSimpArgs false
set_option maxRecDepth 20000
attribute [local go_sem] Oper.semAt_some

/-- The bytes of a tensor. -/
def tenB (s l : List Int) : List Int := (s.length : Int) :: s ++ enc l

theorem four_wrap (z : Int) : four (IntKind.u32.wrap z) = four z := by
  unfold four
  rw [IntKind.wrap_u32]
  congr 1
  · omega
  · congr 1
    · omega
    · congr 1
      · omega
      · congr 1
        omega

theorem own_setCell {w : World} {base : Nat} {e : TypeId} {g n c : Nat} {xs : List Value} (h : w.ownsRow base e 1 (.slice (some ⟨g, 0, none⟩) n c) n xs) {p : Nat} (hp : p ≠ g) (v : Value) : (w.setCell ⟨p, 0, none⟩ v).ownsRow base e 1 (.slice (some ⟨g, 0, none⟩) n c) n xs :=
  h.kept (row := some p) (grownBy_setCell' w p v) (by right; intro e; cases e; exact hp rfl)

theorem own_not {w : World} {base : Nat} {e t : TypeId} {g n c p : Nat} {xs : List Value} {v : Value} (h : w.ownsRow base e 1 (.slice (some ⟨g, 0, none⟩) n c) n xs) (hb : Box1 w p t v) (hne : t ≠ e) : p ≠ g := by
  obtain ⟨cur, hg, _⟩ := own_heap h
  intro e'
  subst e'
  have hb' : w.heap[p]? = some (.cells #[v] t (0, 0)) := hb
  rw [hg] at hb'
  cases hb'
  exact hne rfl

theorem own_put {w : World} {base : Nat} {e : TypeId} {g n c : Nat} {xs : List Value} (h : w.ownsRow base e 1 (.slice (some ⟨g, 0, none⟩) n c) n xs) {B : Nat} {W' : World} {row : Option Nat} (hg : w.grownBy W' row) (hr : ∀ r, row = some r → B ≤ r ∧ ∃ o : Obj, w.heap[r]? = some o ∧ o.isCells = false) : W'.ownsRow base e 1 (.slice (some ⟨g, 0, none⟩) n c) n xs := by
  obtain ⟨cur, hh, _⟩ := own_heap h
  refine h.kept hg ?_
  right
  intro e'
  obtain ⟨_, o, ho, hc⟩ := hr g e'.symm
  rw [hh] at ho
  cases ho
  cases hc

/-- What holds between two rounds of Put's loop. -/
def putI (w : World) (n : Nat) (s l : List Int) (p : Nat) (k : Nat) (W : World) : Prop :=
  (∃ g c', Box1 W p 75 (.slice (some ⟨g, 0, none⟩) (n + 1 + 4 * k) c') ∧ W.ownsRow w.heap.size 5 1 (.slice (some ⟨g, 0, none⟩) (n + 1 + 4 * k) c') (n + 1 + 4 * k) (((n : Int) :: s ++ enc (l.take k)).map (Value.int .u8))) ∧ Below w.heap.size w W

theorem own_some {w : World} {base : Nat} {e : TypeId} {A : Option Addr} {n c : Nat} {xs : List Value} (h : w.ownsRow base e 1 (.slice A n c) n xs) (hn : 0 < n) : ∃ g, A = some ⟨g, 0, none⟩ := by
  rcases h.2 with ⟨_, h0⟩ | ⟨g', cap, cur, h0, _⟩
  · omega
  · cases h0; exact ⟨g', rfl⟩

end Go.Proofs.YtlalfjlcgabnnaaGreatDoor
