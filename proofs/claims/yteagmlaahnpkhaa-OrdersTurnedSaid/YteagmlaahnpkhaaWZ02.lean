/- Merged: RowsOf, Ma2, Range, SameG, Ten3, Ten4. -/
import Derived.Test.YteagmlaahnpkhaaWZ01
import Derived.Laws.CopyRow
import Derived.RangeFuncNested
import Derived.RangeFuncLeaves
import Derived.Shelf.Abstract
import Derived.WalkKit
import Derived.OwnWalkIn
import Derived.TacticsInMore
import Derived.LoopNIn
import Derived.LoopIn
import Derived.Test.YteagmlaahnpkhaaWZ00
import Derived.Deep.QuietTactic
import Derived.BigQuiet
import Derived.RangeFuncBound
namespace Go.Proofs.Yteagmlaahnpkhaa

section
open Go.RowKit

section
variable {L : List (List Value)} {s k : Nat} {r : List Value}

theorem flat_len (h : ∀ x ∈ L, x.length = s) : L.flatten.length = L.length * s := by
  induction L with
  | nil => simp
  | cons a t ih =>
    rw [List.flatten_cons, List.length_append, ih (fun x hx => h x (List.mem_cons_of_mem _ hx)), h a List.mem_cons_self, List.length_cons, Nat.add_mul]
    omega

theorem flat_split (hk : L[k]? = some r) : L = L.take k ++ r :: L.drop (k + 1) := by
  have h := (List.getElem?_eq_some_iff.1 hk)
  obtain ⟨hl, he⟩ := h
  rw [← he, List.getElem_cons_drop, List.take_append_drop]

theorem flat_pre (h : ∀ x ∈ L, x.length = s) (hk : k < L.length) : (L.take k).flatten.length = k * s := by
  rw [flat_len (s := s) (fun x hx => h x (List.mem_of_mem_take hx)), List.length_take]
  congr 1
  omega

theorem flat_get (h : ∀ x ∈ L, x.length = s) (hk : L[k]? = some r) {j : Nat} (hj : j < s) : L.flatten[k * s + j]? = r[j]? := by
  have hl := (List.getElem?_eq_some_iff.1 hk).1
  have hp := flat_pre h hl
  have hr : r.length = s := h r (List.mem_of_getElem? hk)
  have e := congrArg List.flatten (flat_split hk)
  rw [List.flatten_append, List.flatten_cons] at e
  rw [e, List.getElem?_append_right (by omega), hp, Nat.add_sub_cancel_left, List.getElem?_append_left (by omega)]

theorem flat_seg (h : ∀ x ∈ L, x.length = s) (hk : L[k]? = some r) (o : Nat) (vs : List Value) (ho : o + vs.length ≤ s) :
    L.flatten.take (k * s + o) ++ vs ++ L.flatten.drop (k * s + o + vs.length) = (L.set k (r.take o ++ vs ++ r.drop (o + vs.length))).flatten := by
  have hl := (List.getElem?_eq_some_iff.1 hk).1
  have hp := flat_pre h hl
  have hr : r.length = s := h r (List.mem_of_getElem? hk)
  have e1 := flat_split hk
  have e := congrArg List.flatten e1
  rw [List.flatten_append, List.flatten_cons] at e
  have e2 : L.set k (r.take o ++ vs ++ r.drop (o + vs.length)) = L.take k ++ (r.take o ++ vs ++ r.drop (o + vs.length)) :: L.drop (k + 1) := by
    rw [List.set_eq_take_append_cons_drop, if_pos hl]
  rw [e2, List.flatten_append, List.flatten_cons, e]
  have t1 : ((L.take k).flatten ++ (r ++ (L.drop (k + 1)).flatten)).take (k * s + o) = (L.take k).flatten ++ r.take o := by
    rw [List.take_append, hp, List.take_of_length_le (by omega), Nat.add_sub_cancel_left, List.take_append_of_le_length (by omega)]
  have t2 : ((L.take k).flatten ++ (r ++ (L.drop (k + 1)).flatten)).drop (k * s + o + vs.length) = r.drop (o + vs.length) ++ (L.drop (k + 1)).flatten := by
    rw [List.drop_append, hp, List.drop_of_length_le (by omega), show k * s + o + vs.length - k * s = o + vs.length by omega, List.nil_append, List.drop_append_of_le_length (by omega)]
  rw [t1, t2]
  simp

end

section
variable {w : World} {B : Nat} {e : TypeId} {s g n c : Nat} {xs : List Value}

theorem own_heap (h : w.ownsRow B e s (.slice (some ⟨g, 0, none⟩) n c) n xs) : ∃ cur, w.heap[g]? = some (.cells cur e (0, 0)) ∧ B ≤ g ∧ n ≤ c ∧ c ≤ maxLen ∧ cur.size = c * s ∧ cur.toList.take (n * s) = xs := by
  rcases h.2 with ⟨e0, _⟩ | ⟨g', cap, cur, e0, hb, hh, r⟩
  · cases e0
  · injection e0 with e0 _ e2
    injection e0 with e0
    injection e0 with e0
    subst e0
    subst e2
    exact ⟨cur, hh, hb, r⟩

theorem own_ne {g' : Nat} {e' : TypeId} {n' c' s' : Nat} {xs' : List Value} (h : w.ownsRow B e s (.slice (some ⟨g, 0, none⟩) n c) n xs) (h' : w.ownsRow B e' s' (.slice (some ⟨g', 0, none⟩) n' c') n' xs') (hne : e ≠ e') : g ≠ g' := by
  obtain ⟨cur, h1, _⟩ := own_heap h
  obtain ⟨cur', h2, _⟩ := own_heap h'
  rintro rfl
  rw [h1] at h2
  injection h2 with h2
  injection h2 with _ h2
  exact hne h2

/-- A store of several cells into a row of the call's own. -/
theorem own_seg (h : w.ownsRow B e s (.slice (some ⟨g, 0, none⟩) n c) n xs) (o : Nat) (vs : List Value) (ho : o + vs.length ≤ n * s) :
    ∃ cur, w.heap[g]? = some (.cells cur e (0, 0)) ∧ o + vs.length ≤ cur.size ∧
      (w.setRow g (cur.toList.take o ++ vs ++ cur.toList.drop (o + vs.length)).toArray).ownsRow B e s (.slice (some ⟨g, 0, none⟩) n c) n (xs.take o ++ vs ++ xs.drop (o + vs.length)) ∧
      w.grownBy (w.setRow g (cur.toList.take o ++ vs ++ cur.toList.drop (o + vs.length)).toArray) (some g) := by
  obtain ⟨cur, hh, hb, hnc, hcm, hcs, hta⟩ := own_heap h
  have hle : n * s ≤ c * s := Nat.mul_le_mul_right _ hnc
  have hxl := h.1
  refine ⟨cur, hh, by omega, ⟨?_, .inr ⟨g, c, _, rfl, hb, setRow_heap w g cur _ e _ hh, hnc, hcm, ?_, ?_⟩⟩, rfl, rfl, rfl, by simp [World.setRow], fun k _ hk => setRow_other w g k _ (by intro e; exact hk (by rw [e]))⟩
  · simp only [List.length_append, List.length_take, List.length_drop]; omega
  · simp only [List.size_toArray, List.length_append, List.length_take, List.length_drop, Array.length_toList]; omega
  · rw [← hta]
    apply List.ext_getElem?
    intro j
    simp only [List.getElem?_take, List.getElem?_append, List.length_append, List.length_take, Array.length_toList, List.getElem?_drop]
    have m1 : min o cur.size = o := by omega
    have m2 : min o (min (n * s) cur.size) = o := by omega
    rw [m1, m2]
    by_cases h1 : j < n * s
    · rw [if_pos h1]
      by_cases h2 : j < o + vs.length
      · rw [if_pos h2, if_pos h2]
        by_cases h3 : j < o
        · rw [if_pos h3, if_pos h3, if_pos h3, if_pos h3, if_pos h1]
        · rw [if_neg h3, if_neg h3]
      · rw [if_neg h2, if_neg h2, if_pos (by omega)]
    · rw [if_neg h1, if_neg (by omega), if_neg (by omega)]

theorem own_frozen (h : w.ownsRow B e s (.slice (some ⟨g, 0, none⟩) n c) n xs) (j : Nat) : w.frozen? ⟨g, j, none⟩ = false := by
  obtain ⟨cur, hh, _⟩ := own_heap h
  exact frozen_of_row w g j cur e hh

end

section
variable {P : Program} {w : World}

theorem run_loadVar_mid (g o : Nat) (ty : TypeId) (cs : List Value) (d : TypeDesc) (hc : ∀ j u, cs[j]? = some u → w.cell? ⟨g, o + j, none⟩ = some u)
    (hu : P.underlying ty = some d) (hd : (match d with | .struct _ | .array _ _ => true | _ => false) = true) (hi : (P.info? ty).map (·.size) = some cs.length) :
    (loadVar ty ⟨g, o, none⟩).run P w = .ok (.agg cs.toArray) w := by
  have hl : (loadCells ⟨g, o, none⟩ cs.length).run P w = .ok cs.toArray w :=
    run_loadCells_list (P := P) w ⟨g, o, none⟩ cs (fun j v hv => by rw [Addr.add_lit]; exact hc j v hv)
  cases hq : P.info? ty with
  | none => simp [hq] at hi
  | some i =>
    have hs : i.size = cs.length := by simpa [hq] using hi
    have hagg : (isAgg ty).run P w = .ok true w := by
      unfold isAgg
      rw [Sem.run_bind, run_underlying hu w]
      cases d <;> simp_all
    simp [loadVar, Sem.run_bind, hagg, sizeOf, typeInfo, hq, hs, hl]

theorem wp_load_mid {op : Oper} {a : Act} {K : Act → World → Prop} {Q : Exit → Act → World → Prop} (ty : TypeId) (x : Operand) (hop : op.op = .load ty x)
    (g o : Nat) (cs : List Value) (d : TypeDesc) (hx : a.eval x = .pointer (some ⟨g, o, none⟩)) (hc : ∀ j u, cs[j]? = some u → w.cell? ⟨g, o + j, none⟩ = some u)
    (hu : P.underlying ty = some d) (hd : (match d with | .struct _ | .array _ _ => true | _ => false) = true) (hi : (P.info? ty).map (·.size) = some cs.length)
    (h : K (a.put op.dst (.agg cs.toArray)) w) : op.wp P a w K Q := by
  unfold Oper.wp execOp
  simp only [hop, hx, Instr.loadAt, Instr.sureAddr, Sem.run_bind, Sem.run_pure, Result.andThen_ok, run_loadVar_mid g o ty cs d hc hu hd hi]
  exact h

theorem wpList_load_mid {ops : Array Oper} {rest : List Oper} {op : Oper} {a : Act} {Q : Exit → Act → World → Prop} (hgd : op.guard = none) (ty : TypeId) (x : Operand) (hop : op.op = .load ty x)
    (g o : Nat) (cs : List Value) (d : TypeDesc) (hx : a.eval x = .pointer (some ⟨g, o, none⟩)) (hc : ∀ j u, cs[j]? = some u → w.cell? ⟨g, o + j, none⟩ = some u)
    (hu : P.underlying ty = some d) (hd : (match d with | .struct _ | .array _ _ => true | _ => false) = true) (hi : (P.info? ty).map (·.size) = some cs.length)
    (h : wpList P ops Q rest (a.put op.dst (.agg cs.toArray)) w) : wpList P ops Q (op :: rest) a w :=
  wpList_plain hgd fun _ hK => wp_load_mid ty x hop g o cs d hx hc hu hd hi (hK _ _ h)

theorem run_storeVar_mid (g o : Nat) (t ty : TypeId) (cur : Array Value) (cs : List Value) (hg : w.heap[g]? = some (.cells cur t (0, 0))) (hi : (P.info? ty).map (·.size) = some cs.length)
    (hl : o + cs.length ≤ cur.size) (h1 : ∀ v ∈ cs, v.oneCell' = true) :
    (storeVar ty ⟨g, o, none⟩ (.agg cs.toArray)).run P w = .ok () (w.setRow g (cur.toList.take o ++ cs ++ cur.toList.drop (o + cs.length)).toArray) := by
  have := run_storeCells_at P g o t cs 0 cur w hg (by simpa using hl) h1
  cases hq : P.info? ty with
  | none => simp [hq] at hi
  | some i =>
    have hs : cs.length = i.size := by simp [hq] at hi; omega
    simp [storeVar, sizeOf, typeInfo, hq, Value.cells, hs, this]

theorem wp_store_mid {op : Oper} {a : Act} {K : Act → World → Prop} {Q : Exit → Act → World → Prop} (ty : TypeId) (x y : Operand) (hop : op.op = .store ty x y)
    (g o : Nat) (cs : List Value) (hx : a.eval x = .pointer (some ⟨g, o, none⟩)) (hy : a.eval y = .agg cs.toArray)
    (t : TypeId) (cur : Array Value) (hg : w.heap[g]? = some (.cells cur t (0, 0))) (hi : (P.info? ty).map (·.size) = some cs.length)
    (hl : o + cs.length ≤ cur.size) (h1 : ∀ v ∈ cs, v.oneCell' = true)
    (h : K (a.put op.dst undef) (w.setRow g (cur.toList.take o ++ cs ++ cur.toList.drop (o + cs.length)).toArray)) : op.wp P a w K Q := by
  unfold Oper.wp execOp
  simp only [hop, hx, hy, Instr.storeAt, Instr.sureAddr, Sem.run_bind, Sem.run_pure, Result.andThen_ok, run_storeVar_mid g o t ty cur cs hg hi hl h1]
  exact h

theorem wpList_store_mid {ops : Array Oper} {rest : List Oper} {op : Oper} {a : Act} {Q : Exit → Act → World → Prop} (hgd : op.guard = none) (ty : TypeId) (x y : Operand) (hop : op.op = .store ty x y)
    (g o : Nat) (cs : List Value) (hx : a.eval x = .pointer (some ⟨g, o, none⟩)) (hy : a.eval y = .agg cs.toArray)
    (t : TypeId) (cur : Array Value) (hg : w.heap[g]? = some (.cells cur t (0, 0))) (hi : (P.info? ty).map (·.size) = some cs.length)
    (hl : o + cs.length ≤ cur.size) (h1 : ∀ v ∈ cs, v.oneCell' = true)
    (h : wpList P ops Q rest (a.put op.dst undef) (w.setRow g (cur.toList.take o ++ cs ++ cur.toList.drop (o + cs.length)).toArray)) : wpList P ops Q (op :: rest) a w :=
  wpList_plain hgd fun _ hK => wp_store_mid ty x y hop g o cs hx hy t cur hg hi hl h1 (hK _ _ h)

theorem setRow_alloc (w : World) (z cs : Array Value) (t : TypeId) : (w.alloc (.cells z t)).setRow w.heap.size cs = w.alloc (.cells cs t) := by
  unfold World.setRow World.alloc
  congr 1
  apply Array.ext
  · simp
  · intro i h1 h2
    simp only [Array.getElem_modify, Array.getElem_push]
    split
    · rename_i hi; subst hi; simp
    · rename_i hi
      have : i < w.heap.size := by simp at h2; omega
      rw [dif_pos this, dif_pos this]

/-- A new variable of several cells, and the store that fills it. -/
theorem wpList_alloc_store {ops : Array Oper} {rest : List Oper} {o1 o2 : Oper} {a : Act} {Q : Exit → Act → World → Prop} (hg1 : o1.guard = none) (hg2 : o2.guard = none) (ty : TypeId) (hop1 : o1.op = .alloc ty) (x y : Operand) (hop2 : o2.op = .store ty x y)
    (z : Array Value) (i : TypeInfo) (hi : P.info? ty = some i) (hz : i.zero = some (.agg z)) (hzs : z.size = i.size) (cs : List Value)
    (hx : (a.put o1.dst (.pointer (some ⟨w.heap.size, 0, none⟩))).eval x = .pointer (some ⟨w.heap.size, 0, none⟩)) (hy : (a.put o1.dst (.pointer (some ⟨w.heap.size, 0, none⟩))).eval y = .agg cs.toArray)
    (hl : i.size = cs.length) (h1 : ∀ v ∈ cs, v.oneCell' = true)
    (h : wpList P ops Q rest ((a.put o1.dst (.pointer (some ⟨w.heap.size, 0, none⟩))).put o2.dst undef) (w.alloc (.cells cs.toArray ty))) : wpList P ops Q (o1 :: o2 :: rest) a w := by
  refine wpList_plain hg1 fun K hK => ?_
  unfold Oper.wp execOp
  simp [hop1, Instr.alloc, zeroValue, typeInfo, hi, hz, newVar, newRow, Value.cells]
  refine hK _ _ ?_
  refine wpList_plain hg2 fun K2 hK2 => ?_
  refine wp_store_mid (P := P) ty x y hop2 w.heap.size 0 cs hx hy ty z (heap_alloc_new w _) (by rw [hi]; simp [hl]) (by omega) h1 ?_
  rw [show z.toList.take 0 ++ cs ++ z.toList.drop (0 + cs.length) = cs by simp; omega, setRow_alloc]
  exact hK2 _ _ h

end

end

section
open Go.RowKit
set_option linter.unusedVariables false
set_option linter.unusedSimpArgs false
set_option maxRecDepth 20000

/-- One cell of the pairs. -/
def pairN (xs ys : List Int) (j : Nat) : Int := if j % 2 = 0 then xs.getD (j / 2) 0 else ys.getD (j / 2) 0

/-- The cells of q pairs of which the first k are there. -/
def pairC (xs ys : List Int) (q k : Nat) : List Value := (List.range (q * 2)).map fun j => .int .i32 (if j / 2 < k then pairN xs ys j else 0)

section
variable {xs ys : List Int} {q k : Nat}

theorem pairC_len : (pairC xs ys q k).length = q * 2 := by simp [pairC]

theorem pairC_at {j : Nat} (h : j < q * 2) : (pairC xs ys q k)[j]? = some (.int .i32 (if j / 2 < k then pairN xs ys j else 0)) := by simp [pairC, h]

theorem pairC_none : pairC xs ys q 0 = List.replicate (q * 2) (.int .i32 0) := by
  apply List.ext_getElem <;> simp [pairC]

theorem pairC_set : ((pairC xs ys q k).set (k * 2) (.int .i32 (xs.getD k 0))).set (k * 2 + 1) (.int .i32 (ys.getD k 0)) = pairC xs ys q (k + 1) := by
  apply List.ext_getElem
  · simp [pairC]
  · intro j h1 h2
    simp only [pairC, List.getElem_set, List.getElem_map, List.getElem_range]
    by_cases e1 : k * 2 + 1 = j
    · rw [if_pos e1, if_pos (by omega), pairN, if_neg (by omega), show j / 2 = k by omega]
    · rw [if_neg e1]
      by_cases e : k * 2 = j
      · rw [if_pos e, if_pos (by omega), pairN, if_pos (by omega), show j / 2 = k by omega]
      · rw [if_neg e]
        by_cases h : j / 2 < k
        · rw [if_pos h, if_pos (by omega)]
        · rw [if_neg h, if_neg (by omega)]

end

section
variable {w : World} {g q k : Nat} {xs ys : List Int}

end

end

section
open Go.RowKit Go.Shelf
attribute [local go_sem] Oper.semAt_some

/-- The number at place k of the list lies in memory. -/
def NumAt (A : Option Addr) (k : Nat) (W : World) (z : Int) : Prop := ∃ b o, A = some ⟨b, o, none⟩ ∧ W.cell? ⟨b, o + k, none⟩ = some (.int .i32 z)

/-- How the body of a round may be left. -/
def RoundEnd (B : Nat) (I : Nat → World → Prop) (Ix : Code → World → Prop) (k : Nat) (W : World) : Exit → Act → World → Prop
  | .normal, _, W' => KeepsFrom B W W' ∧ I (k + 1) W'
  | .ret, _, W' => KeepsFrom B W W' ∧ Ix .ret W'
  | _, _, _ => False

theorem NumAt.put {A : Option Addr} {k r : Nat} {W : World} {z : Int} {o : Obj} (h : NumAt A k W z) (hr : W.heap[r]? = some o) (ho : o.isCells = false) (o' : Obj) : NumAt A k (W.putObj r o') z := by
  obtain ⟨b, q, e, hc⟩ := h
  exact ⟨b, q, e, Go.cell_kept hc (grownBy_putObj' W r o') (fun j hj => by cases hj; exact ⟨o, hr, ho⟩)⟩

/-- A function that held such a loop returns: the mark is taken up first. -/
theorem markRet {P : Program} {F : Fence} {n : Nat} {fn : Func} {R : Ending → World → Prop} {a : Act} {w : World} {D : Nat} {v : Value} (hd : a.defers = [{ target := .collected D, args := #[] }]) (hK : w.heap[D]? = some (.deferred (some [])))
    (hr : (results fn a.tmps).run P (w.putObj D (.deferred none)) = .ok v (w.putObj D (.deferred none))) (hR : R (.returned v) (w.putObj D (.deferred none))) : bodyPostM F n P fn R .ret a w := by
  show LeavesInM F n P fn a.tmps R a.defers .returning w
  rw [hd]
  exact ⟨by simp, .inl ⟨_, _, rfl, run_takeDeferred hK, v, hr, hR⟩⟩

/-- It returns ahead of the loop. -/
theorem plainRet {P : Program} {F : Fence} {n : Nat} {fn : Func} {R : Ending → World → Prop} {a : Act} {w : World} {v : Value} (hd : a.defers = []) (hr : (results fn a.tmps).run P w = .ok v w) (hR : R (.returned v) w) : bodyPostM F n P fn R .ret a w := by
  show LeavesInM F n P fn a.tmps R a.defers .returning w
  rw [hd]
  exact ⟨v, hr, hR⟩

theorem heap_own {B : Nat} {W W' : World} {row : Option Nat} (hg : W.grownBy W' row) (hr : ∀ r, row = some r → B ≤ r ∧ ∃ o : Obj, W.heap[r]? = some o ∧ o.isCells = false) {g : Nat} {o : Obj} (h : W.heap[g]? = some o) (ho : o.isCells = true) : W'.heap[g]? = some o := by
  refine (hg.block g (lt_of_heap h) ?_).trans h
  intro e
  obtain ⟨_, o', ho', hc⟩ := hr g e.symm
  rw [h] at ho'
  cases ho'
  rw [ho] at hc
  cases hc

theorem below_put {B D : Nat} {w W : World} (h : Below B w W) (hB : B ≤ D) (hD : D < W.heap.size) (o : Obj) : Below B w (W.putObj D o) :=
  h.trans ((Below.refl B W).grown (grownBy_putObj' W D o) (by omega) (fun k e => by cases e; exact hB))

theorem heap_put {W : World} {D g : Nat} {o o' x : Obj} (hD : W.heap[D]? = some o) (ho : o.isCells = false) (h : W.heap[g]? = some o') (ho' : o'.isCells = true) : (W.putObj D x).heap[g]? = some o' :=
  (World.putObj_heap_other (by intro e; subst e; rw [hD] at h; cases h; rw [ho] at ho'; cases ho')).trans h

theorem keeps_below {B : Nat} {W W' : World} (h : Below W.heap.size W W') : KeepsFrom B W W' :=
  ⟨h.size, fun k _ _ hk _ => (h.block k (lt_of_heap hk)).trans hk⟩

theorem keeps_cells {B g : Nat} {W W' : World} {o : Obj} (h : W.grownBy W' (some g)) (hg : W.heap[g]? = some o) (ho : o.isCells = true) : KeepsFrom B W W' :=
  ⟨h.size, fun k x _ hk hx => (h.block k (lt_of_heap hk) (by intro e; cases e; rw [hg] at hk; cases hk; rw [ho] at hx; cases hx)).trans hk⟩

section
variable {P : Program} {w : World}

/-- append of a whole slice of integers, nil let in, onto a row of the call's own: a step of a region within a round. -/
theorem stepIn_append_ints {F : Fence} {m l : Nat} {op : Oper} {ops : Array Oper} {a : Act} {K : Act → World → Prop} {Q : Exit → Act → World → Prop} {E : Prop} (hF : ∀ f, (F.inRound l).fn f) (hgd : op.guard = none) (s x : Operand) (t : TypeId)
    (hop : op.op = .call { callee := .builtin .append, args := #[s, x], argTypes := #[t, t] })
    (e : TypeId) (i : TypeInfo) (z : Value) (bytes : Nat) (ht : P.underlying t = some (.slice e)) (hi : P.info? e = some i) (hz : i.zero = some z) (hsize : i.size = 1) (hby : i.bytes = bytes) (hzs : z.cells.size = 1)
    (base : Nat) (A0 : Option Addr) (n c0 N : Nat) (k : IntKind) (xs : List Int) (hs : a.eval s = .slice A0 n c0) (ho : w.ownsRow base e 1 (.slice A0 n c0) n (xs.map (Value.int k))) (hbase : base ≤ w.heap.size)
    (A : Option Addr) (q c : Nat) (zs : List Int) (hx : a.eval x = .slice A q c) (hn : Lies w A q (zs.map (Value.int k))) (hnil : A = none → c = 0) (hN : n + q = N) (hb : N * bytes ≤ 140737488355328) (h63 : N ≤ maxLen)
    (h : ∀ A' c' w', w'.ownsRow base e 1 (.slice A' N c') N ((xs ++ zs).map (Value.int k)) → w.grownBy w' (Value.slice A0 n c0).ownBlock → K (a.put op.dst (.slice A' N c')) w') :
    if Region.wanted op (yielded ops a.tmps) = true then Oper.wpIn (F.inRound l) m P op a w K Q else E := by
  have hw : Region.wanted op (yielded ops a.tmps) = true := by simp [Region.wanted, hgd]
  rw [if_pos hw]
  subst hN
  obtain ⟨A', c', w', hrun, h2, h3⟩ := run_append_src (P := P) (w := w) t op.type e i z bytes ht hi hz hsize hby hzs base (.slice A0 n c0) n _ ho hbase A q c _ hn hnil (by intro u hu; simp at hu; obtain ⟨_, _, rfl⟩ := hu; rfl) hb h63
  rw [← List.map_append] at h2
  refine ⟨fun f _ => hF f, ?_⟩
  rw [show (F.inRound l).round = some l from rfl, Oper.semAt_some l _ _ (by intro c e; rw [hop] at e; cases e)]
  simp [execOp, hop, resolve, invoke, builtin, hs, hx, hrun, Result.andThen, Oper.uponIn]
  exact h A' c' w' h2 h3

end

end

section
open Go.RowKit
set_option linter.unusedVariables false
set_option linter.unusedSimpArgs false

theorem take_more {xs ys : List Int} {k : Nat} (h1 : k < xs.length) (h2 : k < ys.length) (h : xs.take k = ys.take k) (e : xs.getD k 0 = ys.getD k 0) : xs.take (k + 1) = ys.take (k + 1) := by
  rw [List.take_succ_eq_append_getElem h1, List.take_succ_eq_append_getElem h2, h]
  simp [List.getD, h1, h2] at e
  rw [e]

theorem take_end {xs ys : List Int} {k : Nat} (h1 : xs.length = k) (h2 : ys.length = k) (h : xs.take k = ys.take k) : xs = ys := by
  rwa [List.take_of_length_le (by omega), List.take_of_length_le (by omega)] at h

set_option maxRecDepth 100000 in
set_option maxHeartbeats 400000 in
theorem sameG_Ints (A B : Option Addr) (n c m d : Nat) (xs ys : List Int) (w : World) (h : Lies w A n (xs.map (Value.int .i64))) (k : Lies w B m (ys.map (Value.int .i64))) (hm : n ≤ 281474976710656) :
    Calls Try.prog 15 #[.slice A n c, .slice B m d] w fun e w' => e = .returned (.bool (decide (xs = ys))) ∧ ∃ j, w' = w.drewN j := by
  have hl1 : xs.length = n := by have := h.len; simpa using this
  have hl2 : ys.length = m := by have := k.len; simpa using this
  have HA := hide h
  have HB := hide k
  have HL1 := hide hl1
  have HL2 := hide hl2
  clear h k
  by_cases hnm : n = m
  · subst hnm
    clear hl1 hl2
    go_enter Try.func15, Try.ntmps15
    go_wp2
    go_loopw [5] (fun i wr => ∃ k : Nat, k ≤ n ∧ i = .int .i64 k ∧ Hid (xs.take k = ys.take k) ∧ ∃ j, wr = w.drewN j) (fun i _ => n - (intOf i).toNat)
    case atStart => exact ⟨0, Nat.zero_le _, rfl, hide rfl, 0, rfl⟩
    case round =>
      obtain ⟨k, hk, rfl, HT, j, rfl⟩ := hrel
      by_cases hlt : k < n
      · obtain ⟨b, o, rfl, _, hx⟩ := byte_at HA.out (by omega)
        obtain ⟨b', o', rfl, _, hy⟩ := byte_at HB.out (by omega)
        obtain ⟨z, hz⟩ : ∃ z, z = xs.getD k 0 := ⟨_, rfl⟩
        obtain ⟨u, hu⟩ : ∃ u, u = ys.getD k 0 := ⟨_, rfl⟩
        have h1 : w.cell? ⟨b, o + k, none⟩ = some (.int .i64 z) := by rw [hz]; exact hx k hlt
        have h2 : w.cell? ⟨b', o' + k, none⟩ = some (.int .i64 u) := by rw [hu]; exact hy k hlt
        have h0 : (0 : Int) ≤ (k : Int) := by omega
        have h3 : (k : Int) < (n : Int) := by omega
        have HZ := hide hz
        have HU := hide hu
        clear hx hy hz hu
        by_cases he : z = u
        · subst he
          have HN : Hid (xs.take (k + 1) = ys.take (k + 1)) := hide (take_more (by rw [HL1.out]; exact hlt) (by rw [HL2.out]; exact hlt) HT.out (by rw [← HZ.out, ← HU.out]))
          go_wp2
          go_quiet (fail)
          go_wp2
          go_roundw
          case rel => exact ⟨k + 1, by omega, by go_num, HN, _, rfl⟩
          case measure => simp [intOf]; omega
        · have HN : Hid (¬ xs = ys) := hide (by intro e; rw [HZ.out, HU.out, e] at he; exact he rfl)
          have hb1 : (z == u) = false := beq_eq_false_iff_ne.2 he
          go_wp2
          go_quiet (fail)
          go_wp2
          go_ret
          exact ⟨by rw [decide_eq_false HN.out]; rfl, _, World.drewN_drewN _ _ _⟩
      · obtain rfl : k = n := by omega
        have HE := hide (take_end HL1.out HL2.out HT.out)
        go_wp2
        go_ret
        exact ⟨by rw [decide_eq_true HE.out]; rfl, _, rfl⟩
  · have HN : Hid (¬ xs = ys) := hide (by intro e; rw [e] at hl1; omega)
    have hb1 : ((n : Int) == (m : Int)) = false := beq_eq_false_iff_ne.2 (by omega)
    clear hl1 hl2
    go_enter Try.func15, Try.ntmps15
    go_wp2
    go_ret
    exact ⟨by rw [decide_eq_false HN.out]; rfl, 0, rfl⟩

end

section
open Go.RowKit Go.Shelf
set_option linter.unusedVariables false
set_option linter.unusedSimpArgs false
set_option maxRecDepth 20000

set_option maxHeartbeats 400000 in
theorem equal_ints (A B : Option Addr) (n c m d : Nat) (xs ys : List Int) (w : World) (h : Lies w A n (xs.map (Value.int .i64))) (k : Lies w B m (ys.map (Value.int .i64))) (hm : n ≤ 281474976710656) :
    Calls Try.prog 53 #[.slice A n c, .slice B m d] w fun e w' => e = .returned (.bool (decide (xs = ys))) ∧ ∃ j, w' = w.drewN j := by
  have hl1 : xs.length = n := by have := h.len; simpa using this
  have hl2 : ys.length = m := by have := k.len; simpa using this
  have HA := hide h
  have HB := hide k
  have HL1 := hide hl1
  have HL2 := hide hl2
  clear h k
  by_cases hnm : n = m
  · subst hnm
    clear hl1 hl2
    go_enter Try.func53, Try.ntmps53
    go_wp2
    go_loopw [13] (fun i wr => ∃ k : Nat, k ≤ n ∧ i = .int .i64 k ∧ Hid (xs.take k = ys.take k) ∧ ∃ j, wr = w.drewN j) (fun i _ => n - (intOf i).toNat)
    case atStart => exact ⟨0, Nat.zero_le _, rfl, hide rfl, 0, rfl⟩
    case round =>
      obtain ⟨k, hk, rfl, HT, j, rfl⟩ := hrel
      by_cases hlt : k < n
      · obtain ⟨b, o, rfl, _, hx⟩ := byte_at HA.out (by omega)
        obtain ⟨b', o', rfl, _, hy⟩ := byte_at HB.out (by omega)
        obtain ⟨z, hz⟩ : ∃ z, z = xs.getD k 0 := ⟨_, rfl⟩
        obtain ⟨u, hu⟩ : ∃ u, u = ys.getD k 0 := ⟨_, rfl⟩
        have h1 : w.cell? ⟨b, o + k, none⟩ = some (.int .i64 z) := by rw [hz]; exact hx k hlt
        have h2 : w.cell? ⟨b', o' + k, none⟩ = some (.int .i64 u) := by rw [hu]; exact hy k hlt
        have h0 : (0 : Int) ≤ (k : Int) := by omega
        have h3 : (k : Int) < (n : Int) := by omega
        have HZ := hide hz
        have HU := hide hu
        clear hx hy hz hu
        by_cases he : z = u
        · subst he
          have HN : Hid (xs.take (k + 1) = ys.take (k + 1)) := hide (take_more (by rw [HL1.out]; exact hlt) (by rw [HL2.out]; exact hlt) HT.out (by rw [← HZ.out, ← HU.out]))
          go_wp2
          go_quiet (fail)
          go_wp2
          go_roundw
          case rel => exact ⟨k + 1, by omega, by go_num, HN, _, rfl⟩
          case measure => simp [intOf]; omega
        · have HN : Hid (¬ xs = ys) := hide (by intro e; rw [HZ.out, HU.out, e] at he; exact he rfl)
          have hb1 : (z == u) = false := beq_eq_false_iff_ne.2 he
          go_wp2
          go_quiet (fail)
          go_wp2
          go_ret
          exact ⟨by rw [decide_eq_false HN.out]; rfl, _, World.drewN_drewN _ _ _⟩
      · obtain rfl : k = n := by omega
        have HE := hide (take_end HL1.out HL2.out HT.out)
        go_wp2
        go_ret
        exact ⟨by rw [decide_eq_true HE.out]; rfl, _, rfl⟩
  · have HN : Hid (¬ xs = ys) := hide (by intro e; rw [e] at hl1; omega)
    have hb1 : ((n : Int) == (m : Int)) = false := beq_eq_false_iff_ne.2 (by omega)
    clear hl1 hl2
    go_enter Try.func53, Try.ntmps53
    go_wp2
    go_ret
    exact ⟨by rw [decide_eq_false HN.out]; rfl, 0, rfl⟩

end

section
open Go.RowKit Go.Shelf
set_option linter.unusedVariables false
set_option linter.unusedSimpArgs false
set_option maxRecDepth 20000
attribute [local go_sem] Oper.semAt_some

end

end Go.Proofs.Yteagmlaahnpkhaa
