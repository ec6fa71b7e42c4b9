/- Plain words for slices in memory: what it means that a slice's cells are a given list, and that this stays so behind a draw, a new block, a row that grows elsewhere. No program is named here. -/
import Derived.WalkKit
import Derived.Deep.Draws
namespace Go.Proofs.YtlalfjlcgabnnaaGreatDoor
open Go.RowKit

/-- The slice at address A, of n one-cell elements, holds xs. Of an empty slice nothing is asked. -/
structure Lies (w : World) (A : Option Addr) (n : Nat) (xs : List Value) : Prop where
  len : xs.length = n
  cells : 0 < n → ∃ b o, A = some ⟨b, o, none⟩ ∧ b < w.heap.size ∧ ∀ j, j < n → w.cell? ⟨b, o + j, none⟩ = xs[j]?

section
variable {w w' : World} {A : Option Addr} {n : Nat} {xs : List Value}

theorem Lies.nothing : Lies w A 0 [] := ⟨rfl, fun h => absurd h (by omega)⟩

theorem Lies.keep (h : Lies w A n xs) (hs : w.heap.size ≤ w'.heap.size) (hc : ∀ b o, A = some ⟨b, o, none⟩ → b < w.heap.size → ∀ j, w'.cell? ⟨b, o + j, none⟩ = w.cell? ⟨b, o + j, none⟩) : Lies w' A n xs :=
  ⟨h.len, fun hn => by
    obtain ⟨b, o, e, hb, hx⟩ := h.cells hn
    exact ⟨b, o, e, by omega, fun j hj => (hc b o e hb j).trans (hx j hj)⟩⟩

theorem Lies.drewN (h : Lies w A n xs) (k : Nat) : Lies (w.drewN k) A n xs := ⟨h.len, h.cells⟩

theorem Lies.below (h : Lies w A n xs) (hb : Below w.heap.size w w') : Lies w' A n xs :=
  h.keep hb.size fun _ _ _ hlt _ => hb.cell hlt

theorem Lies.alloc (h : Lies w A n xs) (o : Obj) : Lies (w.alloc o) A n xs :=
  h.below ((Below.refl _ _).alloc (Nat.le_refl _) o)

theorem Lies.grown (h : Lies w A n xs) {row : Option Nat} (hg : w.grownBy w' row) (hne : ∀ b o, A = some ⟨b, o, none⟩ → some b ≠ row) : Lies w' A n xs :=
  h.keep hg.size fun b o e hlt _ => World.cell?_of_block (hg.block b hlt (hne b o e))

theorem Lies.own {base : Nat} {e : TypeId} {g cap : Nat} (h : w.ownsRow base e 1 (.slice (some ⟨g, 0, none⟩) n cap) n xs) : Lies w (some ⟨g, 0, none⟩) n xs :=
  ⟨by have := h.1; omega, fun _ => ⟨g, 0, rfl, (h.lt g rfl).2, fun j hj => by rw [Nat.zero_add]; exact h.cellAt j (by omega)⟩⟩

theorem Lies.drop (h : Lies w A n xs) {k cap : Nat} (hk : k ≤ n) (hc : n ≤ cap) : Lies w (if cap = k then A else A.map (·.add k)) (n - k) (xs.drop k) := by
  refine ⟨by rw [List.length_drop, h.len], fun hn => ?_⟩
  obtain ⟨b, o, rfl, hb, hx⟩ := h.cells (by omega)
  rw [if_neg (by omega)]
  refine ⟨b, o + k, by simp [Addr.add_lit], hb, fun j hj => ?_⟩
  rw [Nat.add_assoc, hx (k + j) (by omega), List.getElem?_drop]

theorem Lies.take (h : Lies w A n xs) {k : Nat} (hk : k ≤ n) : Lies w A k (xs.take k) := by
  refine ⟨by rw [List.length_take, h.len]; omega, fun hn => ?_⟩
  obtain ⟨b, o, rfl, hb, hx⟩ := h.cells (by omega)
  refine ⟨b, o, rfl, hb, fun j hj => ?_⟩
  rw [hx j (by omega), List.getElem?_take, if_pos hj]

/-- A row of the call's own, of one-cell elements, known as a whole block. -/
theorem own_of_block {base : Nat} {e : TypeId} {g m cap : Nat} {cur : List Value} (hb : base ≤ g) (hg : w.heap[g]? = some (.cells cur.toArray e (0, 0))) (hc : cur.length = cap) (hm : m ≤ cap) (hl : cap ≤ maxLen) (ht : cur.take m = xs) :
    w.ownsRow base e 1 (.slice (some ⟨g, 0, none⟩) m cap) m xs :=
  ⟨by rw [← ht, List.length_take]; omega, .inr ⟨g, cap, cur.toArray, rfl, hb, hg, hm, hl, by simp [hc], by simpa using ht⟩⟩

theorem lt_of_heap {g : Nat} {o : Obj} (h : w.heap[g]? = some o) : g < w.heap.size := (Array.getElem?_eq_some_iff.1 h).1

end

theorem below_drewN {B : Nat} {a w : World} (h : Below B a w) (n : Nat) : Below B a (w.drewN n) := ⟨h.os, h.tape, h.output, h.size, h.block⟩

theorem own_drewN {w : World} {base : Nat} {e : TypeId} {v : Value} {n : Nat} {xs : List Value} (h : w.ownsRow base e 1 v n xs) (k : Nat) : (w.drewN k).ownsRow base e 1 v n xs := h

theorem own_below {w w' : World} {base : Nat} {e : TypeId} {v : Value} {n : Nat} {xs : List Value} (h : w.ownsRow base e 1 v n xs) (hb : Below w.heap.size w w') : w'.ownsRow base e 1 v n xs :=
  h.kept (row := none) ⟨hb.os, hb.tape, hb.output, hb.size, fun i hi _ => hb.block i hi⟩ (by cases v.ownBlock <;> simp)

theorem own_base {w : World} {base base' : Nat} {e : TypeId} {v : Value} {n : Nat} {xs : List Value} (h : w.ownsRow base e 1 v n xs) (hb : base' ≤ base) : w.ownsRow base' e 1 v n xs := by
  refine ⟨h.1, ?_⟩
  rcases h.2 with h2 | ⟨g, cap, cur, hv, hg, r⟩
  · exact .inl h2
  · exact .inr ⟨g, cap, cur, hv, by omega, r⟩

theorem grown_trans {a b c : World} {row : Option Nat} (h : a.grownBy b row) (k : b.grownBy c row) : a.grownBy c row :=
  ⟨k.os.trans h.os, k.tape.trans h.tape, k.output.trans h.output, Nat.le_trans h.size k.size, fun i hi hne => (k.block i (Nat.lt_of_lt_of_le hi h.size) hne).trans (h.block i hi hne)⟩

theorem grown_below {a b : World} (h : Below a.heap.size a b) (row : Option Nat) : a.grownBy b row := ⟨h.os, h.tape, h.output, h.size, fun i hi _ => h.block i hi⟩

theorem below_grown {a b : World} {g B : Nat} (h : a.grownBy b (some g)) (hB : B ≤ a.heap.size) (hg : B ≤ g) : Below B a b :=
  ⟨h.os, h.tape, h.output, h.size, fun i hi => h.block i (by omega) (by simp; omega)⟩

theorem cells_new (w : World) (cs : List Value) (t : TypeId) : ∀ j u, cs[j]? = some u → (w.alloc (.cells cs.toArray t)).cell? ((⟨w.heap.size, 0, none⟩ : Addr).add j) = some u := by
  intro j u hj
  rw [Addr.add_lit, Nat.zero_add, cell_of_row _ _ j cs.toArray t (0, 0) (heap_alloc_new w _)]
  simpa using hj

theorem hide {p : Prop} (h : p) : Hid p := h

end Go.Proofs.YtlalfjlcgabnnaaGreatDoor
