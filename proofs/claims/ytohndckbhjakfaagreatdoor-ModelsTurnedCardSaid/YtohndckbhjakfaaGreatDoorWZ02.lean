/- Merged: Ten2, Ma1, RowsOf, Ma2, Range. -/
import Derived.Test.YtohndckbhjakfaaGreatDoorWZ01
import Derived.Laws.CopyOwn
import Derived.Laws.CopyRow
import Derived.RangeFuncNested
import Derived.RangeFuncLeaves
import Derived.Shelf.Abstract
import Derived.WalkKit
import Derived.OwnWalkIn
import Derived.TacticsInMore
import Derived.LoopNIn
import Derived.LoopIn
import Derived.Test.YtohndckbhjakfaaGreatDoorWZ00
namespace Go.Proofs.YtohndckbhjakfaaGreatDoor

section
open Go.RowKit
set_option linter.unusedVariables false
set_option linter.unusedSimpArgs false
set_option maxRecDepth 20000

theorem grown_setRow (w : World) (g : Nat) (cs : Array Value) : w.grownBy (w.setRow g cs) (some g) :=
  ⟨rfl, rfl, rfl, by simp, fun k _ hk => setRow_other w g k cs (by intro e; exact hk (by rw [e]))⟩

theorem own_setRow {w : World} {base : Nat} {e : TypeId} {A : Option Addr} {n c : Nat} {xs : List Value} (h : w.ownsRow base e 1 (.slice A n c) n xs) {g : Nat} (hg : g < base) (cs : Array Value) : (w.setRow g cs).ownsRow base e 1 (.slice A n c) n xs :=
  h.kept (row := some g) (grown_setRow w g cs) (by
    right
    intro e
    have := (h.lt g e).1
    omega)

/-- A block that holds a tensor. -/
def BoxT (w : World) (p : Nat) (v u : Value) : Prop := w.heap[p]? = some (.cells #[v, u] 40 (0, 0))

section
variable {w : World} {p : Nat} {v u : Value}

theorem BoxT.new (w : World) (v u : Value) : BoxT (w.alloc (.cells #[v, u] 40)) w.heap.size v u := heap_alloc_new w _

theorem BoxT.lt (h : BoxT w p v u) : p < w.heap.size := lt_of_heap h

theorem BoxT.below (h : BoxT w p v u) {B : Nat} {w' : World} (hb : Below B w w') (hB : p < B) : BoxT w' p v u := (hb.block p hB).trans h

theorem BoxT.kept (h : BoxT w p v u) {w' : World} (hb : Below w.heap.size w w') : BoxT w' p v u := h.below hb h.lt

theorem BoxT.alloc (h : BoxT w p v u) (o : Obj) : BoxT (w.alloc o) p v u := h.kept ((Below.refl w.heap.size w).alloc (Nat.le_refl _) o)

theorem BoxT.set (h : BoxT w p v u) (x y : Value) : BoxT (w.setRow p #[x, y]) p x y := setRow_heap w p _ _ _ _ h

theorem BoxT.c0 (h : BoxT w p v u) : w.cell? ⟨p, 0, none⟩ = some v := cell_of_row _ _ 0 _ _ (0, 0) h

theorem BoxT.c1 (h : BoxT w p v u) : w.cell? ⟨p, 1, none⟩ = some u := cell_of_row _ _ 1 _ _ (0, 0) h

end

theorem sizeT : (Tryz.prog.info? 40).map (·.size) = some 2 := by kernel_rfl

set_option maxHeartbeats 800000 in
theorem new_ok (A : Option Addr) (n c q : Nat) (s : List Int) (w : World) (h : Lies w A n (s.map (Value.int .i64))) (hq : sizeI s = (q : Int)) (hp : 0 < q) :
    Calls Tryz.prog 66 #[.slice A n c] w fun e w' => ∃ g1 c1 g2, e = .returned (.tuple #[tenV (some ⟨g1, 0, none⟩) n c1 (some ⟨g2, 0, none⟩) q q, .int .i64 0]) ∧
      w'.ownsRow w.heap.size 3 1 (.slice (some ⟨g1, 0, none⟩) n c1) n (s.map (Value.int .i64)) ∧ w'.ownsRow w.heap.size 21 1 (.slice (some ⟨g2, 0, none⟩) q q) q (List.replicate q (.int .i32 0)) ∧ g1 ≠ g2 ∧ Below w.heap.size w w' := by
  have hlen : s.length = n := by have := h.len; simpa using this
  obtain ⟨hn1, hn4, _⟩ := sizeI_pos (xs := s) (by omega)
  rw [hlen] at hn1 hn4
  have hq4 := sizeI_le s
  have HA := hide h
  have HD : Hid (decide (0 < sizeI s) = true) := hide (decide_eq_true (by omega))
  have HQ := hide hq
  clear h hq hlen
  go_enter Tryz.func66, Tryz.ntmps66
  go_wp2_with fail
  refine Calls.mono (check_any A n c s _ (HA.out.alloc _) (by omega)) ?_
  rintro e w2 ⟨rfl, hb⟩
  rw [HD.out]
  have HBX := hide ((BoxT.new w (.slice none 0 0) (.slice none 0 0)).kept hb)
  have HBB := hide ((((Below.refl w.heap.size w).alloc (Nat.le_refl _) (.cells #[.slice none 0 0, .slice none 0 0] 40))).trans (hb.mono (by simp)))
  clear hb
  go_wp2_with fail
  refine Calls.mono (clone_ints A n c s w2 (HA.out.below HBB.out) (by omega) (by omega)) ?_
  rintro e w3 ⟨g1, c1, rfl, ho1, hb3⟩
  have HBX3 := hide (HBX.out.kept hb3)
  have hlt3 := HBX.out.lt
  have HB3 := hide (HBB.out.trans (hb3.mono HBB.out.size))
  have HO1 := hide ho1
  clear ho1 hb3 HBX HBB
  go_wp2_with fail
  refine Calls.mono (size_any A n c s w3 (HA.out.below HB3.out) (by omega)) ?_
  rintro e w4 ⟨rfl, hb4⟩
  have HBX4 := hide (HBX3.out.kept hb4)
  have HB4 := hide (HB3.out.trans (hb4.mono HB3.out.size))
  have HO4 := hide (own_below HO1.out hb4)
  have hsz := HB4.out.size
  rw [HQ.out]
  have hmk := make_nums [] (q : Int) q rfl (by have := HQ.out; omega) w4
  have HBX5 := hide (HBX4.out.alloc (.cells (part [] q 0).toArray 21))
  clear hb4 HBX3 HB3 HO1 HBX4
  go_wp2_with (refine wpList_store_row rfl 40 _ _ rfl w.heap.size #[.slice (some ⟨g1, 0, none⟩) n c1, .slice (some ⟨w4.heap.size, 0, none⟩) q q] rfl rfl 40 _ HBX5.out sizeT rfl (by simp [Value.oneCell']) ?_)
  (try simp only [Exit.inBlock, Exit.then])
  refine ret_ten (p := 2) (u := 3) rfl rfl w.heap.size _ rfl (HBX5.out.set _ _) rfl ?_
  have hlt1 := (HO4.out.lt g1 rfl)
  refine ⟨g1, c1, w4.heap.size, rfl, ?_, ?_, by omega, below_setRow (HB4.out.alloc (by omega) _) (Nat.le_refl _) _⟩
  · exact own_base (own_setRow (HO4.out.alloc _) hlt3 _) (by omega)
  · refine own_base (base := w4.heap.size) (own_setRow (own_of_block (Nat.le_refl _) (heap_alloc_new w4 _) (by rw [part_none]; simp) (Nat.le_refl _) (by unfold maxLen; have := HQ.out; omega) (by rw [part_none]; simp)) (by omega) _) (by omega)

end

section
open Go.RowKit
set_option linter.unusedVariables false
set_option linter.unusedSimpArgs false
set_option maxRecDepth 20000

def add32 (x y : Int) : Int := wrap32 (x + y)

def mul32 (x y : Int) : Int := wrap32 (x * y)

def relu32 (x : Int) : Int := if x < 0 then 0 else x

/-- What a shift by n makes of x. -/
def shf (n : Nat) (x : Int) : Int := if (x + 2 ^ n / 2) / 2 ^ n < -128 then -128 else if 127 < (x + 2 ^ n / 2) / 2 ^ n then 127 else (x + 2 ^ n / 2) / 2 ^ n

section
variable {w : World} {p : Nat} {x y : Int}

end

end

section
open Go.RowKit

section
variable {L : List (List Value)} {s k : Nat} {r : List Value}

end

section
variable {w : World} {B : Nat} {e : TypeId} {s g n c : Nat} {xs : List Value}

theorem own_heap (h : w.ownsRow B e s (.slice (some ⟨g, 0, none⟩) n c) n xs) : ∃ cur, w.heap[g]? = some (.cells cur e (0, 0)) ∧ B ≤ g ∧ n ≤ c ∧ c ≤ maxLen ∧ cur.size = c * s ∧ cur.toList.take (n * s) = xs := by
  rcases h.2 with ⟨e0, _⟩ | ⟨g', cap, cur, e0, hb, hh, r⟩
  · cases e0
  · injection e0 with e0 _ e2
    injection e0 with e0
    injection e0 with e0
    subst e0
    subst e2
    exact ⟨cur, hh, hb, r⟩

/-- A store of several cells into a row of the call's own. -/
theorem own_seg (h : w.ownsRow B e s (.slice (some ⟨g, 0, none⟩) n c) n xs) (o : Nat) (vs : List Value) (ho : o + vs.length ≤ n * s) :
    ∃ cur, w.heap[g]? = some (.cells cur e (0, 0)) ∧ o + vs.length ≤ cur.size ∧
      (w.setRow g (cur.toList.take o ++ vs ++ cur.toList.drop (o + vs.length)).toArray).ownsRow B e s (.slice (some ⟨g, 0, none⟩) n c) n (xs.take o ++ vs ++ xs.drop (o + vs.length)) ∧
      w.grownBy (w.setRow g (cur.toList.take o ++ vs ++ cur.toList.drop (o + vs.length)).toArray) (some g) := by
  obtain ⟨cur, hh, hb, hnc, hcm, hcs, hta⟩ := own_heap h
  have hle : n * s ≤ c * s := Nat.mul_le_mul_right _ hnc
  have hxl := h.1
  refine ⟨cur, hh, by omega, ⟨?_, .inr ⟨g, c, _, rfl, hb, setRow_heap w g cur _ e _ hh, hnc, hcm, ?_, ?_⟩⟩, rfl, rfl, rfl, by simp [World.setRow], fun k _ hk => setRow_other w g k _ (by intro e; exact hk (by rw [e]))⟩
  · simp only [List.length_append, List.length_take, List.length_drop]; omega
  · simp only [List.size_toArray, List.length_append, List.length_take, List.length_drop, Array.length_toList]; omega
  · rw [← hta]
    apply List.ext_getElem?
    intro j
    simp only [List.getElem?_take, List.getElem?_append, List.length_append, List.length_take, Array.length_toList, List.getElem?_drop]
    have m1 : min o cur.size = o := by omega
    have m2 : min o (min (n * s) cur.size) = o := by omega
    rw [m1, m2]
    by_cases h1 : j < n * s
    · rw [if_pos h1]
      by_cases h2 : j < o + vs.length
      · rw [if_pos h2, if_pos h2]
        by_cases h3 : j < o
        · rw [if_pos h3, if_pos h3, if_pos h3, if_pos h3, if_pos h1]
        · rw [if_neg h3, if_neg h3]
      · rw [if_neg h2, if_neg h2, if_pos (by omega)]
    · rw [if_neg h1, if_neg (by omega), if_neg (by omega)]

end

section
variable {P : Program} {w : World}

end

end

section
open Go.RowKit
set_option linter.unusedVariables false
set_option linter.unusedSimpArgs false
set_option maxRecDepth 20000

/-- One cell of the pairs. -/
def pairN (xs ys : List Int) (j : Nat) : Int := if j % 2 = 0 then xs.getD (j / 2) 0 else ys.getD (j / 2) 0

/-- The cells of q pairs of which the first k are there. -/
def pairC (xs ys : List Int) (q k : Nat) : List Value := (List.range (q * 2)).map fun j => .int .i32 (if j / 2 < k then pairN xs ys j else 0)

section
variable {xs ys : List Int} {q k : Nat}

theorem pairC_at {j : Nat} (h : j < q * 2) : (pairC xs ys q k)[j]? = some (.int .i32 (if j / 2 < k then pairN xs ys j else 0)) := by simp [pairC, h]

theorem pairC_set : ((pairC xs ys q k).set (k * 2) (.int .i32 (xs.getD k 0))).set (k * 2 + 1) (.int .i32 (ys.getD k 0)) = pairC xs ys q (k + 1) := by
  apply List.ext_getElem
  · simp [pairC]
  · intro j h1 h2
    simp only [pairC, List.getElem_set, List.getElem_map, List.getElem_range]
    by_cases e1 : k * 2 + 1 = j
    · rw [if_pos e1, if_pos (by omega), pairN, if_neg (by omega), show j / 2 = k by omega]
    · rw [if_neg e1]
      by_cases e : k * 2 = j
      · rw [if_pos e, if_pos (by omega), pairN, if_pos (by omega), show j / 2 = k by omega]
      · rw [if_neg e]
        by_cases h : j / 2 < k
        · rw [if_pos h, if_pos (by omega)]
        · rw [if_neg h, if_neg (by omega)]

end

section
variable {w : World} {g q k : Nat} {xs ys : List Int}

end

end

section
open Go.RowKit Go.Shelf
attribute [local go_sem] Oper.semAt_some

/-- The number at place k of the list lies in memory. -/
def NumAt (A : Option Addr) (k : Nat) (W : World) (z : Int) : Prop := ∃ b o, A = some ⟨b, o, none⟩ ∧ W.cell? ⟨b, o + k, none⟩ = some (.int .i32 z)

/-- How the body of a round may be left. -/
def RoundEnd (B : Nat) (I : Nat → World → Prop) (Ix : Code → World → Prop) (k : Nat) (W : World) : Exit → Act → World → Prop
  | .normal, _, W' => KeepsFrom B W W' ∧ I (k + 1) W'
  | .ret, _, W' => KeepsFrom B W W' ∧ Ix .ret W'
  | _, _, _ => False

theorem NumAt.put {A : Option Addr} {k r : Nat} {W : World} {z : Int} {o : Obj} (h : NumAt A k W z) (hr : W.heap[r]? = some o) (ho : o.isCells = false) (o' : Obj) : NumAt A k (W.putObj r o') z := by
  obtain ⟨b, q, e, hc⟩ := h
  exact ⟨b, q, e, Go.cell_kept hc (grownBy_putObj' W r o') (fun j hj => by cases hj; exact ⟨o, hr, ho⟩)⟩

section
variable {P : Program} {w : World}

end

end

end Go.Proofs.YtohndckbhjakfaaGreatDoor

