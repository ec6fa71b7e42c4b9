/- Merged: Tw10, Tw11, Gp3, Gp5. -/
import Derived.Test.YtohndckbhjakfaaGreatDoorWZ29
import Derived.Test.YtohndckbhjakfaaGreatDoorWZ03
import Derived.Test.YtohndckbhjakfaaGreatDoorWZ27
namespace Go.Proofs.YtohndckbhjakfaaGreatDoor

section
open Go.RowKit
set_option linter.unusedVariables false
set_option linter.unusedSimpArgs false
set_option maxRecDepth 100000

/-- A copy of a node, its lists in the blocks g and h. -/
def twN (g h : Nat) (x : Nd) : Nd := ⟨x.kd, some ⟨g, 0, none⟩, x.ni, x.ni + 1, some ⟨h, 0, none⟩, x.ns, x.ns + 1, x.N, x.P, x.xs, x.sh⟩

/-- A list of numbers with the mark behind it, in a block of the call's own. -/
def MarkAt (w : World) (base g n : Nat) (zs : List Int) : Prop := w.ownsRow base 3 1 (.slice (some ⟨g, 0, none⟩) (n + 1) (n + 1)) (n + 1) (zs.map (Value.int .i64) ++ [.int .i64 77])

theorem MarkAt.kept {w w' : World} {base g n : Nat} {zs : List Int} {row : Option Nat} (h : MarkAt w base g n zs) (hg : w.grownBy w' row) (hr : row ≠ some g) : MarkAt w' base g n zs :=
  World.ownsRow.kept h hg (.inr (by simp only [Value.ownBlock]; exact fun e => hr e.symm))

theorem MarkAt.below {w w' : World} {base g n : Nat} {zs : List Int} (h : MarkAt w base g n zs) (hb : Below w.heap.size w w') : MarkAt w' base g n zs := own_below h hb

theorem MarkAt.base {w : World} {b b' g n : Nat} {zs : List Int} (h : MarkAt w b g n zs) (hb : b' ≤ b) : MarkAt w b' g n zs := own_base h hb

theorem MarkAt.lt {w : World} {base g n : Nat} {zs : List Int} (h : MarkAt w base g n zs) : base ≤ g ∧ g < w.heap.size := World.ownsRow.lt h g rfl

theorem MarkAt.lies {w : World} {base g n : Nat} {zs : List Int} (h : MarkAt w base g n zs) (hl : zs.length = n) : Lies w (some ⟨g, 0, none⟩) n (zs.map (Value.int .i64)) := by
  have h1 := (lies_of_own h).take (k := n) (by omega)
  rw [List.take_left' (by simp [hl])] at h1
  exact h1

/-- A node whose lists lie in blocks of the call's own, with marks. -/
def TwNd (w : World) (base : Nat) (t : Nd) : Prop := ∃ g h, t.I = some ⟨g, 0, none⟩ ∧ t.S = some ⟨h, 0, none⟩ ∧ g < h ∧ t.ci = t.ni + 1 ∧ t.cs = t.ns + 1 ∧ t.xs.length = t.ni ∧ t.sh.length = t.ns ∧ MarkAt w base g t.ni t.xs ∧ MarkAt w base h t.ns t.sh ∧ t.ni ≤ 1073741824 ∧ t.ns ≤ 1073741824 ∧ (0 ≤ t.kd ∧ t.kd < 256) ∧ (-9223372036854775808 ≤ t.N ∧ t.N < 9223372036854775808) ∧ (-9223372036854775808 ≤ t.P ∧ t.P < 9223372036854775808)

theorem TwNd.ok {w : World} {base : Nat} {t : Nd} (h : TwNd w base t) : t.Ok w := by
  obtain ⟨g, k, e1, e2, _, e3, e4, e5, e6, m1, m2, l1, l2, b1, b2, b3⟩ := h
  exact ⟨by rw [e1]; exact m1.lies e5, by rw [e2]; exact m2.lies e6, by omega, by omega, by omega, by omega, b1, b2, b3⟩

theorem TwNd.kept {w w' : World} {base : Nat} {t : Nd} {row : Option Nat} (h : TwNd w base t) (hg : w.grownBy w' row) (hr : ∀ k, row = some k → (t.I ≠ some ⟨k, 0, none⟩ ∧ t.S ≠ some ⟨k, 0, none⟩)) : TwNd w' base t := by
  obtain ⟨g, k, e1, e2, e0, e3, e4, e5, e6, m1, m2, r⟩ := h
  refine ⟨g, k, e1, e2, e0, e3, e4, e5, e6, m1.kept hg (fun e => (hr g e).1 e1), m2.kept hg (fun e => (hr k e).2 e2), r⟩

theorem TwNd.below {w w' : World} {base : Nat} {t : Nd} (h : TwNd w base t) (hb : Below w.heap.size w w') : TwNd w' base t :=
  h.kept (row := none) ⟨hb.os, hb.tape, hb.output, hb.size, fun i hi _ => hb.block i hi⟩ (fun k hk => by cases hk)

theorem TwNd.base {w : World} {b b' : Nat} {t : Nd} (h : TwNd w b t) (hb : b' ≤ b) : TwNd w b' t := by
  obtain ⟨g, k, e1, e2, e0, e3, e4, e5, e6, m1, m2, r⟩ := h
  exact ⟨g, k, e1, e2, e0, e3, e4, e5, e6, m1.base hb, m2.base hb, r⟩

theorem TwNd.spot {w : World} {base : Nat} {t : Nd} (h : TwNd w base t) : ∀ k, (t.I = some ⟨k, 0, none⟩ ∨ t.S = some ⟨k, 0, none⟩) → base ≤ k ∧ k < w.heap.size := by
  obtain ⟨g, q, e1, e2, _, _, _, _, _, m1, m2, _⟩ := h
  intro k hk
  rcases hk with hk | hk
  · rw [e1] at hk; injection hk with hk; injection hk with hk; subst hk; exact m1.lt
  · rw [e2] at hk; injection hk with hk; injection hk with hk; subst hk; exact m2.lt

theorem grown_set (w : World) (p k : Nat) (v : Value) : w.grownBy (w.setCell ⟨p, k, none⟩ v) (some p) :=
  ⟨rfl, rfl, rfl, by simp [World.setCell], fun i _ hi => heap_setCell_other _ _ _ _ (by simpa using hi)⟩

end

section
open Go.RowKit
set_option linter.unusedVariables false
set_option linter.unusedSimpArgs false
set_option maxRecDepth 100000

/-- A node without where its lists lie. -/
def pl (x : Nd) : Nd := { x with I := none, ni := 0, ci := 0, S := none, ns := 0, cs := 0 }

/-- No two nodes' lists share a block. -/
def TwAp (ts : List Nd) : Prop := ts.Pairwise (fun t u => ∀ h g, t.S = some ⟨h, 0, none⟩ → u.I = some ⟨g, 0, none⟩ → h < g)

/-- The cells of the mark behind a list of nodes. -/
def mark5 : List Value := [.int .u8 0, .slice none 0 0, .slice none 0 0, .int .i64 77, .int .i64 0]

/-- A list of nodes of the call's own, a mark behind it. -/
def TwAll (w : World) (base g n : Nat) (ns ts : List Nd) : Prop :=
  ts.map pl = ns.map pl ∧ ts.length = n ∧ w.ownsRow base 44 5 (.slice (some ⟨g, 0, none⟩) (n + 1) (n + 1)) (n + 1) (cellsN ts ++ mark5) ∧ (∀ t ∈ ts, TwNd w (g + 1) t) ∧ TwAp ts

theorem TwAll.below {w w' : World} {base g n : Nat} {ns ts : List Nd} (h : TwAll w base g n ns ts) (hb : Below w.heap.size w w') : TwAll w' base g n ns ts :=
  ⟨h.1, h.2.1, own_keep10 h.2.2.1 hb, fun t ht => (h.2.2.2.1 t ht).below hb, h.2.2.2.2⟩

theorem TwAll.base {w : World} {b b' g n : Nat} {ns ts : List Nd} (h : TwAll w b g n ns ts) (hb : b' ≤ b) : TwAll w b' g n ns ts :=
  ⟨h.1, h.2.1, ⟨h.2.2.1.1, by
    rcases h.2.2.1.2 with e | ⟨q, cap, cur, e, h1, r⟩
    · exact .inl e
    · exact .inr ⟨q, cap, cur, e, by omega, r⟩⟩, h.2.2.2⟩

theorem TwAll.lt {w : World} {base g n : Nat} {ns ts : List Nd} (h : TwAll w base g n ns ts) : base ≤ g ∧ g < w.heap.size := h.2.2.1.lt g rfl

theorem TwAll.ns {w : World} {base g n : Nat} {ns ts : List Nd} (h : TwAll w base g n ns ts) : NsIn w (some ⟨g, 0, none⟩) n ts :=
  ⟨h.2.1, fun hn => by
    obtain ⟨g', e, _, hg, hx⟩ := ownN_cells h.2.2.1 (by omega)
    injection e with e
    injection e with e
    subst e
    refine ⟨g, 0, rfl, hg, fun j x hj => ?_⟩
    have hjl := (List.getElem?_eq_some_iff.1 hj).1
    obtain ⟨h0, h1, h2, h3, h4⟩ := cellsN_at ts j x hj
    have hl := cellsN_len ts
    have k : ∀ i, i < ts.length * 5 → ∀ u, (cellsN ts)[i]? = some u → w.cell? ⟨g, i, none⟩ = some u := fun i hi u hu => hx i u (by rw [List.getElem?_append_left (by omega)]; exact hu)
    rw [Nat.zero_add]
    exact ⟨k _ (by omega) _ h0, k _ (by omega) _ h1, k _ (by omega) _ h2, k _ (by omega) _ h3, k _ (by omega) _ h4, (h.2.2.2.1 x (List.mem_of_getElem? hj)).ok⟩⟩

end

section
open Go.RowKit
set_option linter.unusedVariables false
set_option linter.unusedSimpArgs false
set_option maxRecDepth 100000

end

section
open Go.RowKit
set_option linter.unusedVariables false
set_option linter.unusedSimpArgs false
set_option maxRecDepth 100000

/-- One further on, from k on. -/
def upK (k : Nat) (z : Int) : Int := if (k : Int) ≤ z then z + 1 else z

def sxK (k : Nat) (x : Nd) : Nd := { x with xs := x.xs.map (upK k) }

def insL {α : Type} (us : List α) (k : Nat) (s : α) : List α := us.take k ++ s :: us.drop k

/-- How many nodes of a kind there are. -/
def ctN (d : Int) : List Nd → Nat
  | [] => 0
  | x :: r => (if x.kd = d then 1 else 0) + ctN d r

end

end Go.Proofs.YtohndckbhjakfaaGreatDoor

