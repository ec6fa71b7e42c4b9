/- Merged: Get, Lits, Ten7, Ten8, Ten9, TLaw. -/
import Derived.Test.YteagmlaahnpkhaaWZ01
import Derived.Laws.BytesArg
import Derived.Lib.SmallJoins
import Derived.Test.YteagmlaahnpkhaaWZ03
import Derived.Test.YteagmlaahnpkhaaWZ02
namespace Go.Proofs.Yteagmlaahnpkhaa

section
open Go.RowKit

theorem dec_take (bs : List Int) (q : Nat) : dec (bs.take (4 * q)) q = dec bs q := by
  unfold dec
  refine List.map_congr_left fun j hj => ?_
  have hj' : j < q := by simpa using hj
  simp only [wd, List.getD, List.getElem?_take]
  rw [if_pos (by omega), if_pos (by omega), if_pos (by omega), if_pos (by omega)]

end

section
open Go.RowKit

theorem quiet_below {f : FuncId} {args : Array Value} {w : World} {E : Ending} (h : Calls Try.prog f args w fun e w' => e = E ∧ ∃ k, w' = w.drewN k) :
    Calls Try.prog f args w fun e w' => e = E ∧ Below w.heap.size w w' :=
  h.mono fun _ _ ⟨he, k, hk⟩ => ⟨he, by subst hk; exact below_drewN (Below.refl _ _) k⟩

theorem still_below {f : FuncId} {args : Array Value} {w : World} {E : Ending} (h : Calls Try.prog f args w fun e w' => e = E ∧ w = w') :
    Calls Try.prog f args w fun e w' => e = E ∧ Below w.heap.size w w' :=
  h.mono fun _ _ ⟨he, hk⟩ => ⟨he, by subst hk; exact Below.refl _ _⟩

/-- A literal of bytes, laid in a new block. -/
theorem lies_lit (w : World) (k : IntKind) (zs : List Int) (t : TypeId) : Lies (w.alloc (.cells (zs.map (Value.int k)).toArray t)) (some ⟨w.heap.size, 0, none⟩) zs.length (zs.map (Value.int k)) := by
  have h := lies_new w (zs.map (Value.int k)) t
  rwa [List.length_map] at h

theorem below_lit {B : Nat} {a w w' : World} {o : Obj} (h : Below B a w) (hB : B ≤ w.heap.size) (hb : Below (w.alloc o).heap.size (w.alloc o) w') : Below B a w' :=
  (h.alloc hB o).trans (hb.mono (by simp; omega))

theorem lies_mark (w : World) (zs : List Int) (t : TypeId) (fr : Nat × Nat) : Lies (w.alloc (.cells (zs.map (Value.int .u8)).toArray t fr)) (some ⟨w.heap.size, 0, none⟩) zs.length (zs.map (Value.int .u8)) := by
  refine ⟨by simp, fun _ => ⟨w.heap.size, 0, rfl, by simp, fun j _ => ?_⟩⟩
  rw [Nat.zero_add, World.cell?_alloc_mark]
  simp

end

section
open Go.RowKit
set_option linter.unusedVariables false
set_option linter.unusedSimpArgs false
set_option maxRecDepth 20000

theorem lies_slice {w : World} {b o n : Nat} {bs : List Int} {k : IntKind} (h : Lies w (some ⟨b, o, none⟩) n (bs.map (Value.int k))) {i j : Nat} (hij : i ≤ j) (hj : j ≤ n) :
    Lies w (some ⟨b, o + i, none⟩) (j - i) (((bs.drop i).take (j - i)).map (Value.int k)) := by
  have hl : bs.length = n := by have := h.len; simpa using this
  refine ⟨by simp [hl]; omega, fun hp => ?_⟩
  obtain ⟨b', o', e, hb, hx⟩ := h.cells (by omega)
  cases e
  refine ⟨b, o + i, rfl, hb, fun m hm => ?_⟩
  rw [Nat.add_assoc, hx (i + m) (by omega)]
  simp [List.getElem?_take, hm, List.getElem?_drop]

theorem lies_empty {w : World} {A : Option Addr} {k : IntKind} : Lies w A 0 (([] : List Int).map (Value.int k)) := ⟨rfl, fun h => absurd h (by omega)⟩

/-- The dimensions that bytes begin with. -/
def shpOf (bs : List Int) (k : Nat) : List Int := (bs.drop 1).take k

theorem shpOf_succ {bs : List Int} {k : Nat} (h : 1 + k < bs.length) : shpOf bs (k + 1) = shpOf bs k ++ [bs.getD (1 + k) 0] := by
  have hkl : k < (bs.drop 1).length := by rw [List.length_drop]; omega
  have e : (bs.drop 1)[k] = bs.getD (1 + k) 0 := by rw [List.getElem_drop]; simp [List.getD, h]
  rw [shpOf, List.take_succ_eq_append_getElem hkl, e]
  rfl

theorem shpOf_len {bs : List Int} {k : Nat} (h : 1 + k ≤ bs.length) : (shpOf bs k).length = k := by simp [shpOf]; omega

end

section
open Go.RowKit Go.Shelf
set_option linter.unusedVariables false
set_option linter.unusedSimpArgs false
set_option maxRecDepth 20000
attribute [local go_sem] Oper.semAt_some

/-- How many dimensions bytes tell. -/
def dimsOf (bs : List Int) : Nat := (bs.getD 0 0).toNat

/-- Are bytes those of a tensor? -/
def getOk (bs : List Int) : Bool := decide (1 + dimsOf bs ≤ bs.length) && decide (0 < sizeI (shpOf bs (dimsOf bs))) && decide (((bs.length - (1 + dimsOf bs) : Nat) : Int) = 4 * sizeI (shpOf bs (dimsOf bs)))

end

section
open Go.RowKit Go.Shelf
set_option linter.unusedVariables false
set_option linter.unusedSimpArgs false
set_option maxRecDepth 20000
attribute [local go_sem] Oper.semAt_some

theorem own_setCell' {w : World} {base : Nat} {e : TypeId} {g n c : Nat} {xs : List Value} (h : w.ownsRow base e 1 (.slice (some ⟨g, 0, none⟩) n c) n xs) {a : Addr} (hp : g ≠ a.block) (v : Value) : (w.setCell a v).ownsRow base e 1 (.slice (some ⟨g, 0, none⟩) n c) n xs := by
  obtain ⟨cur, hh, hr⟩ := own_heap h
  refine h.kept (row := some a.block) ⟨rfl, rfl, rfl, by simp, fun k _ hk => Below.heap_setCell w a v k (by intro e; exact hk (by rw [e]))⟩ ?_
  right
  intro e'
  cases e'
  exact hp rfl

theorem getD_part (l : List Int) (a m i : Nat) (h : i < m) : ((l.drop a).take m).getD i 0 = l.getD (a + i) 0 := by
  simp [List.getD, List.getElem?_take, h, List.getElem?_drop]

theorem head_wd (l : List Int) (j m : Nat) (h : 4 ≤ m) : IntKind.i32.wrap (head4 ((l.drop (4 * j)).take m)) = wd l j := by
  rw [head4, getD_part _ _ _ _ (by omega), getD_part _ _ _ _ (by omega), getD_part _ _ _ _ (by omega), getD_part _ _ _ _ (by omega)]
  rfl

end

section
open Go.RowKit
set_option linter.unusedVariables false
set_option linter.unusedSimpArgs false
set_option maxRecDepth 20000

/-- How great a tensor counts. -/
def tsz (n m : Nat) : Nat := if 1 + n ≤ 1048576 then 1 + n + m else 1 + n

end

end Go.Proofs.Yteagmlaahnpkhaa
