/- Plain words for the book of lists: worlds that part only in rows of some element types; a list of held things in a row; rows that lie apart. No program is named here. -/
import Derived.Test.YtlalfjlcgabnnaaGreatDoorMem
namespace Go.Proofs.YtlalfjlcgabnnaaGreatDoor
open Go.RowKit

/-- Of what was there, only rows of the element types T may have turned. -/
structure KeepT (T : List TypeId) (w w' : World) : Prop where
  os : w'.os = w.os
  tape : w'.tape = w.tape
  output : w'.output = w.output
  size : w.heap.size ≤ w'.heap.size
  block : ∀ g, g < w.heap.size → (∀ cur e fr, w.heap[g]? = some (.cells cur e fr) → e ∉ T) → w'.heap[g]? = w.heap[g]?

section
variable {T : List TypeId} {w w' w'' : World}

theorem KeepT.refl (T : List TypeId) (w : World) : KeepT T w w := ⟨rfl, rfl, rfl, Nat.le_refl _, fun _ _ _ => rfl⟩

theorem KeepT.trans (h : KeepT T w w') (k : KeepT T w' w'') : KeepT T w w'' :=
  ⟨k.os.trans h.os, k.tape.trans h.tape, k.output.trans h.output, Nat.le_trans h.size k.size, fun g hg hT => by
    have e := h.block g hg hT
    rw [k.block g (Nat.lt_of_lt_of_le hg h.size) (by rw [e]; exact hT), e]⟩

theorem KeepT.mono {T' : List TypeId} (h : KeepT T w w') (hs : ∀ e ∈ T, e ∈ T') : KeepT T' w w' :=
  ⟨h.os, h.tape, h.output, h.size, fun g hg hT => h.block g hg (fun cur e fr hh he => hT cur e fr hh (hs e he))⟩

theorem KeepT.drewN (h : KeepT T w w') (n : Nat) : KeepT T w (w'.drewN n) := ⟨h.os, h.tape, h.output, h.size, h.block⟩

theorem KeepT.below (h : Below w.heap.size w w') : KeepT T w w' := ⟨h.os, h.tape, h.output, h.size, fun g hg _ => h.block g hg⟩

theorem KeepT.alloc (h : KeepT T w w') (o : Obj) : KeepT T w (w'.alloc o) := h.trans (KeepT.below ((Below.refl _ _).alloc (Nat.le_refl _) o))

/-- What turns lies in one row, whose element type may turn. -/
theorem KeepT.grown {row : Option Nat} (h : w.grownBy w' row) (hr : ∀ g, row = some g → ∃ cur e fr, w.heap[g]? = some (.cells cur e fr) ∧ e ∈ T) : KeepT T w w' :=
  ⟨h.os, h.tape, h.output, h.size, fun g hg hT => h.block g hg (fun e => by
    obtain ⟨cur, t, fr, hh, ht⟩ := hr g e.symm
    exact hT cur t fr hh ht)⟩

theorem grown_setCell (w : World) (p : Addr) (u : Value) : w.grownBy (w.setCell p u) (some p.block) :=
  ⟨rfl, rfl, rfl, by simp, fun k _ hk => heap_setCell_other w p k u (fun e => hk (by simp [e]))⟩

theorem KeepT.own {base : Nat} {e : TypeId} {s : Nat} {v : Value} {n : Nat} {xs : List Value} (h : KeepT T w w') (ho : w.ownsRow base e s v n xs) (he : e ∉ T) : w'.ownsRow base e s v n xs := by
  refine ⟨ho.1, ?_⟩
  rcases ho.2 with h0 | ⟨g, cap, cur, rfl, hb, hg, r⟩
  · exact .inl h0
  · refine .inr ⟨g, cap, cur, rfl, hb, ?_, r⟩
    rw [h.block g (lt_of_heap hg) (fun cur' e' fr' hh => by rw [hg] at hh; injection hh with hh; injection hh with _ hh; exact hh ▸ he)]
    exact hg

theorem KeepT.blk {g : Nat} {e : TypeId} {cs : Array Value} {fr : Nat × Nat} (h : KeepT T w w') (hg : w.heap[g]? = some (.cells cs e fr)) (he : e ∉ T) : w'.heap[g]? = some (.cells cs e fr) := by
  rw [h.block g (lt_of_heap hg) (fun cur' e' fr' hh => by rw [hg] at hh; injection hh with hh; injection hh with _ hh; exact hh ▸ he)]
  exact hg

theorem own_lt {base : Nat} {e : TypeId} {s : Nat} {v : Value} {n : Nat} {xs : List Value} (h : w.ownsRow base e s v n xs) {g : Nat} (hg : v.ownBlock = some g) : base ≤ g ∧ g < w.heap.size := h.lt g hg

theorem own_type {base : Nat} {e : TypeId} {s : Nat} {v : Value} {n : Nat} {xs : List Value} (h : w.ownsRow base e s v n xs) {g : Nat} (hg : v.ownBlock = some g) : ∃ cur, w.heap[g]? = some (.cells cur e (0, 0)) := by
  rcases h.2 with ⟨rfl, _⟩ | ⟨g', cap, cur, rfl, _, hh, _⟩
  · simp [Value.ownBlock] at hg
  · simp [Value.ownBlock] at hg
    subst hg
    exact ⟨cur, hh⟩

theorem own_neT {base base' : Nat} {e e' : TypeId} {s s' : Nat} {v v' : Value} {n n' : Nat} {xs xs' : List Value} (h : w.ownsRow base e s v n xs) (h' : w.ownsRow base' e' s' v' n' xs') (hne : e ≠ e') :
    v.ownBlock = none ∨ v.ownBlock ≠ v'.ownBlock := by
  rcases hv : v.ownBlock with _ | g
  · exact .inl rfl
  · refine .inr fun e1 => ?_
    obtain ⟨c1, h1⟩ := own_type h hv
    obtain ⟨c2, h2⟩ := own_type h' e1.symm
    rw [h1] at h2
    injection h2 with h2
    injection h2 with _ h2
    exact hne h2

end

/-- A list that is held: itself (A, n, c), the longer one behind it (A2, n2, c2), and its mark. -/
structure It where
  A : Option Addr
  n : Nat
  c : Nat
  A2 : Option Addr
  n2 : Nat
  c2 : Nat
  m : Nat

def It.l (t : It) : Value := .slice t.A t.n t.c

def It.long (t : It) : Value := .slice t.A2 t.n2 t.c2

def It.cells (t : It) : List Value := [t.l, t.long, .int .i64 (t.m : Int)]

def held (its : List It) : List Value := its.flatMap It.cells

theorem held_len : ∀ (its : List It), (held its).length = its.length * 3
  | [] => rfl
  | t :: r => by
    have := held_len r
    simp only [held, List.flatMap_cons, List.length_append, It.cells, List.length_cons, List.length_nil] at this ⊢
    omega

theorem held_snoc (its : List It) (t : It) : held (its ++ [t]) = held its ++ [t.l, t.long, .int .i64 (t.m : Int)] := by simp [held, It.cells]

theorem held_at : ∀ (its : List It) (i : Nat) (t : It), its[i]? = some t → (held its)[i * 3]? = some t.l ∧ (held its)[i * 3 + 1]? = some t.long ∧ (held its)[i * 3 + 2]? = some (.int .i64 (t.m : Int))
  | [], i, t, h => by simp at h
  | u :: r, 0, t, h => by
    simp at h
    subst h
    simp [held, It.cells]
  | u :: r, i + 1, t, h => by
    have ih := held_at r i t (by simpa using h)
    have e : ∀ j, (held (u :: r))[(i + 1) * 3 + j]? = (held r)[i * 3 + j]? := by
      intro j
      show (u.cells ++ held r)[(i + 1) * 3 + j]? = _
      rw [List.getElem?_append_right (by simp [It.cells]; omega)]
      congr 1
      simp [It.cells]
      omega
    exact ⟨(e 0).trans ih.1, (e 1).trans ih.2.1, (e 2).trans ih.2.2⟩

theorem held_set : ∀ (its : List It) (i : Nat) (t : It) (A2 : Option Addr) (n2 c2 : Nat), its[i]? = some t → (held its).set (i * 3 + 1) (.slice A2 n2 c2) = held (its.set i { t with A2 := A2, n2 := n2, c2 := c2 })
  | [], i, t, _, _, _, h => by simp at h
  | u :: r, 0, t, A2, n2, c2, h => by
    simp at h
    subst h
    rfl
  | u :: r, i + 1, t, A2, n2, c2, h => by
    have ih := held_set r i t A2 n2 c2 (by simpa using h)
    have e : (i + 1) * 3 + 1 = (i * 3 + 1) + 1 + 1 + 1 := by omega
    show (u.l :: u.long :: Value.int .i64 (u.m : Int) :: held r).set ((i + 1) * 3 + 1) _ = u.l :: u.long :: Value.int .i64 (u.m : Int) :: held (r.set i _)
    rw [e, List.set_cons_succ, List.set_cons_succ, List.set_cons_succ, ih]

/-- The lists that are held lie in rows of the call's own, no two in one. -/
structure Rows1 (w : World) (base : Nat) (e : TypeId) (its : List It) : Prop where
  own : ∀ (i : Nat) (t : It), its[i]? = some t → ∃ xs, w.ownsRow base e 1 t.l t.n xs
  apart : ∀ (i j : Nat) (t u : It), i ≠ j → its[i]? = some t → its[j]? = some u → t.l.ownBlock = none ∨ t.l.ownBlock ≠ u.l.ownBlock

end Go.Proofs.YtlalfjlcgabnnaaGreatDoor
