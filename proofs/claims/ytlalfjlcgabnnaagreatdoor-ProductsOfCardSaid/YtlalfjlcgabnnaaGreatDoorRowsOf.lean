/- Rows of several cells an element: how a list of rows lies flat, and what a store into the middle of it does; laws for the walk on loads and stores of whole elements in the middle of a row. No program is named here. -/
import Derived.Test.YtlalfjlcgabnnaaGreatDoorOwn
import Derived.Laws.CopyRow
namespace Go.Proofs.YtlalfjlcgabnnaaGreatDoor
open Go.RowKit

section
variable {L : List (List Value)} {s k : Nat} {r : List Value}

theorem flat_len (h : ∀ x ∈ L, x.length = s) : L.flatten.length = L.length * s := by
  induction L with
  | nil => simp
  | cons a t ih =>
    rw [List.flatten_cons, List.length_append, ih (fun x hx => h x (List.mem_cons_of_mem _ hx)), h a List.mem_cons_self, List.length_cons, Nat.add_mul]
    omega

theorem flat_split (hk : L[k]? = some r) : L = L.take k ++ r :: L.drop (k + 1) := by
  have h := (List.getElem?_eq_some_iff.1 hk)
  obtain ⟨hl, he⟩ := h
  rw [← he, List.getElem_cons_drop, List.take_append_drop]

theorem flat_pre (h : ∀ x ∈ L, x.length = s) (hk : k < L.length) : (L.take k).flatten.length = k * s := by
  rw [flat_len (s := s) (fun x hx => h x (List.mem_of_mem_take hx)), List.length_take]
  congr 1
  omega

theorem flat_get (h : ∀ x ∈ L, x.length = s) (hk : L[k]? = some r) {j : Nat} (hj : j < s) : L.flatten[k * s + j]? = r[j]? := by
  have hl := (List.getElem?_eq_some_iff.1 hk).1
  have hp := flat_pre h hl
  have hr : r.length = s := h r (List.mem_of_getElem? hk)
  have e := congrArg List.flatten (flat_split hk)
  rw [List.flatten_append, List.flatten_cons] at e
  rw [e, List.getElem?_append_right (by omega), hp, Nat.add_sub_cancel_left, List.getElem?_append_left (by omega)]

theorem flat_seg (h : ∀ x ∈ L, x.length = s) (hk : L[k]? = some r) (o : Nat) (vs : List Value) (ho : o + vs.length ≤ s) :
    L.flatten.take (k * s + o) ++ vs ++ L.flatten.drop (k * s + o + vs.length) = (L.set k (r.take o ++ vs ++ r.drop (o + vs.length))).flatten := by
  have hl := (List.getElem?_eq_some_iff.1 hk).1
  have hp := flat_pre h hl
  have hr : r.length = s := h r (List.mem_of_getElem? hk)
  have e1 := flat_split hk
  have e := congrArg List.flatten e1
  rw [List.flatten_append, List.flatten_cons] at e
  have e2 : L.set k (r.take o ++ vs ++ r.drop (o + vs.length)) = L.take k ++ (r.take o ++ vs ++ r.drop (o + vs.length)) :: L.drop (k + 1) := by
    rw [List.set_eq_take_append_cons_drop, if_pos hl]
  rw [e2, List.flatten_append, List.flatten_cons, e]
  have t1 : ((L.take k).flatten ++ (r ++ (L.drop (k + 1)).flatten)).take (k * s + o) = (L.take k).flatten ++ r.take o := by
    rw [List.take_append, hp, List.take_of_length_le (by omega), Nat.add_sub_cancel_left, List.take_append_of_le_length (by omega)]
  have t2 : ((L.take k).flatten ++ (r ++ (L.drop (k + 1)).flatten)).drop (k * s + o + vs.length) = r.drop (o + vs.length) ++ (L.drop (k + 1)).flatten := by
    rw [List.drop_append, hp, List.drop_of_length_le (by omega), show k * s + o + vs.length - k * s = o + vs.length by omega, List.nil_append, List.drop_append_of_le_length (by omega)]
  rw [t1, t2]
  simp

end

section
variable {w : World} {B : Nat} {e : TypeId} {s g n c : Nat} {xs : List Value}

theorem own_heap (h : w.ownsRow B e s (.slice (some ⟨g, 0, none⟩) n c) n xs) : ∃ cur, w.heap[g]? = some (.cells cur e (0, 0)) ∧ B ≤ g ∧ n ≤ c ∧ c ≤ maxLen ∧ cur.size = c * s ∧ cur.toList.take (n * s) = xs := by
  rcases h.2 with ⟨e0, _⟩ | ⟨g', cap, cur, e0, hb, hh, r⟩
  · cases e0
  · injection e0 with e0 _ e2
    injection e0 with e0
    injection e0 with e0
    subst e0
    subst e2
    exact ⟨cur, hh, hb, r⟩

theorem own_ne {g' : Nat} {e' : TypeId} {n' c' s' : Nat} {xs' : List Value} (h : w.ownsRow B e s (.slice (some ⟨g, 0, none⟩) n c) n xs) (h' : w.ownsRow B e' s' (.slice (some ⟨g', 0, none⟩) n' c') n' xs') (hne : e ≠ e') : g ≠ g' := by
  obtain ⟨cur, h1, _⟩ := own_heap h
  obtain ⟨cur', h2, _⟩ := own_heap h'
  rintro rfl
  rw [h1] at h2
  injection h2 with h2
  injection h2 with _ h2
  exact hne h2

/-- A store of several cells into a row of the call's own. -/
theorem own_seg (h : w.ownsRow B e s (.slice (some ⟨g, 0, none⟩) n c) n xs) (o : Nat) (vs : List Value) (ho : o + vs.length ≤ n * s) :
    ∃ cur, w.heap[g]? = some (.cells cur e (0, 0)) ∧ o + vs.length ≤ cur.size ∧
      (w.setRow g (cur.toList.take o ++ vs ++ cur.toList.drop (o + vs.length)).toArray).ownsRow B e s (.slice (some ⟨g, 0, none⟩) n c) n (xs.take o ++ vs ++ xs.drop (o + vs.length)) ∧
      w.grownBy (w.setRow g (cur.toList.take o ++ vs ++ cur.toList.drop (o + vs.length)).toArray) (some g) := by
  obtain ⟨cur, hh, hb, hnc, hcm, hcs, hta⟩ := own_heap h
  have hle : n * s ≤ c * s := Nat.mul_le_mul_right _ hnc
  have hxl := h.1
  refine ⟨cur, hh, by omega, ⟨?_, .inr ⟨g, c, _, rfl, hb, setRow_heap w g cur _ e _ hh, hnc, hcm, ?_, ?_⟩⟩, rfl, rfl, rfl, by simp [World.setRow], fun k _ hk => setRow_other w g k _ (by intro e; exact hk (by rw [e]))⟩
  · simp only [List.length_append, List.length_take, List.length_drop]; omega
  · simp only [List.size_toArray, List.length_append, List.length_take, List.length_drop, Array.length_toList]; omega
  · rw [← hta]
    apply List.ext_getElem?
    intro j
    simp only [List.getElem?_take, List.getElem?_append, List.length_append, List.length_take, Array.length_toList, List.getElem?_drop]
    have m1 : min o cur.size = o := by omega
    have m2 : min o (min (n * s) cur.size) = o := by omega
    rw [m1, m2]
    by_cases h1 : j < n * s
    · rw [if_pos h1]
      by_cases h2 : j < o + vs.length
      · rw [if_pos h2, if_pos h2]
        by_cases h3 : j < o
        · rw [if_pos h3, if_pos h3, if_pos h3, if_pos h3, if_pos h1]
        · rw [if_neg h3, if_neg h3]
      · rw [if_neg h2, if_neg h2, if_pos (by omega)]
    · rw [if_neg h1, if_neg (by omega), if_neg (by omega)]

theorem own_frozen (h : w.ownsRow B e s (.slice (some ⟨g, 0, none⟩) n c) n xs) (j : Nat) : w.frozen? ⟨g, j, none⟩ = false := by
  obtain ⟨cur, hh, _⟩ := own_heap h
  exact frozen_of_row w g j cur e hh

end

section
variable {P : Program} {w : World}

theorem run_loadVar_mid (g o : Nat) (ty : TypeId) (cs : List Value) (d : TypeDesc) (hc : ∀ j u, cs[j]? = some u → w.cell? ⟨g, o + j, none⟩ = some u)
    (hu : P.underlying ty = some d) (hd : (match d with | .struct _ | .array _ _ => true | _ => false) = true) (hi : (P.info? ty).map (·.size) = some cs.length) :
    (loadVar ty ⟨g, o, none⟩).run P w = .ok (.agg cs.toArray) w := by
  have hl : (loadCells ⟨g, o, none⟩ cs.length).run P w = .ok cs.toArray w :=
    run_loadCells_list (P := P) w ⟨g, o, none⟩ cs (fun j v hv => by rw [Addr.add_lit]; exact hc j v hv)
  cases hq : P.info? ty with
  | none => simp [hq] at hi
  | some i =>
    have hs : i.size = cs.length := by simpa [hq] using hi
    have hagg : (isAgg ty).run P w = .ok true w := by
      unfold isAgg
      rw [Sem.run_bind, run_underlying hu w]
      cases d <;> simp_all
    simp [loadVar, Sem.run_bind, hagg, sizeOf, typeInfo, hq, hs, hl]

theorem wp_load_mid {op : Oper} {a : Act} {K : Act → World → Prop} {Q : Exit → Act → World → Prop} (ty : TypeId) (x : Operand) (hop : op.op = .load ty x)
    (g o : Nat) (cs : List Value) (d : TypeDesc) (hx : a.eval x = .pointer (some ⟨g, o, none⟩)) (hc : ∀ j u, cs[j]? = some u → w.cell? ⟨g, o + j, none⟩ = some u)
    (hu : P.underlying ty = some d) (hd : (match d with | .struct _ | .array _ _ => true | _ => false) = true) (hi : (P.info? ty).map (·.size) = some cs.length)
    (h : K (a.put op.dst (.agg cs.toArray)) w) : op.wp P a w K Q := by
  unfold Oper.wp execOp
  simp only [hop, hx, Instr.loadAt, Instr.sureAddr, Sem.run_bind, Sem.run_pure, Result.andThen_ok, run_loadVar_mid g o ty cs d hc hu hd hi]
  exact h

theorem wpList_load_mid {ops : Array Oper} {rest : List Oper} {op : Oper} {a : Act} {Q : Exit → Act → World → Prop} (hgd : op.guard = none) (ty : TypeId) (x : Operand) (hop : op.op = .load ty x)
    (g o : Nat) (cs : List Value) (d : TypeDesc) (hx : a.eval x = .pointer (some ⟨g, o, none⟩)) (hc : ∀ j u, cs[j]? = some u → w.cell? ⟨g, o + j, none⟩ = some u)
    (hu : P.underlying ty = some d) (hd : (match d with | .struct _ | .array _ _ => true | _ => false) = true) (hi : (P.info? ty).map (·.size) = some cs.length)
    (h : wpList P ops Q rest (a.put op.dst (.agg cs.toArray)) w) : wpList P ops Q (op :: rest) a w :=
  wpList_plain hgd fun _ hK => wp_load_mid ty x hop g o cs d hx hc hu hd hi (hK _ _ h)

theorem run_storeVar_mid (g o : Nat) (t ty : TypeId) (cur : Array Value) (cs : List Value) (hg : w.heap[g]? = some (.cells cur t (0, 0))) (hi : (P.info? ty).map (·.size) = some cs.length)
    (hl : o + cs.length ≤ cur.size) (h1 : ∀ v ∈ cs, v.oneCell' = true) :
    (storeVar ty ⟨g, o, none⟩ (.agg cs.toArray)).run P w = .ok () (w.setRow g (cur.toList.take o ++ cs ++ cur.toList.drop (o + cs.length)).toArray) := by
  have := run_storeCells_at P g o t cs 0 cur w hg (by simpa using hl) h1
  cases hq : P.info? ty with
  | none => simp [hq] at hi
  | some i =>
    have hs : cs.length = i.size := by simp [hq] at hi; omega
    simp [storeVar, sizeOf, typeInfo, hq, Value.cells, hs, this]

theorem wp_store_mid {op : Oper} {a : Act} {K : Act → World → Prop} {Q : Exit → Act → World → Prop} (ty : TypeId) (x y : Operand) (hop : op.op = .store ty x y)
    (g o : Nat) (cs : List Value) (hx : a.eval x = .pointer (some ⟨g, o, none⟩)) (hy : a.eval y = .agg cs.toArray)
    (t : TypeId) (cur : Array Value) (hg : w.heap[g]? = some (.cells cur t (0, 0))) (hi : (P.info? ty).map (·.size) = some cs.length)
    (hl : o + cs.length ≤ cur.size) (h1 : ∀ v ∈ cs, v.oneCell' = true)
    (h : K (a.put op.dst undef) (w.setRow g (cur.toList.take o ++ cs ++ cur.toList.drop (o + cs.length)).toArray)) : op.wp P a w K Q := by
  unfold Oper.wp execOp
  simp only [hop, hx, hy, Instr.storeAt, Instr.sureAddr, Sem.run_bind, Sem.run_pure, Result.andThen_ok, run_storeVar_mid g o t ty cur cs hg hi hl h1]
  exact h

theorem wpList_store_mid {ops : Array Oper} {rest : List Oper} {op : Oper} {a : Act} {Q : Exit → Act → World → Prop} (hgd : op.guard = none) (ty : TypeId) (x y : Operand) (hop : op.op = .store ty x y)
    (g o : Nat) (cs : List Value) (hx : a.eval x = .pointer (some ⟨g, o, none⟩)) (hy : a.eval y = .agg cs.toArray)
    (t : TypeId) (cur : Array Value) (hg : w.heap[g]? = some (.cells cur t (0, 0))) (hi : (P.info? ty).map (·.size) = some cs.length)
    (hl : o + cs.length ≤ cur.size) (h1 : ∀ v ∈ cs, v.oneCell' = true)
    (h : wpList P ops Q rest (a.put op.dst undef) (w.setRow g (cur.toList.take o ++ cs ++ cur.toList.drop (o + cs.length)).toArray)) : wpList P ops Q (op :: rest) a w :=
  wpList_plain hgd fun _ hK => wp_store_mid ty x y hop g o cs hx hy t cur hg hi hl h1 (hK _ _ h)

theorem setRow_alloc (w : World) (z cs : Array Value) (t : TypeId) : (w.alloc (.cells z t)).setRow w.heap.size cs = w.alloc (.cells cs t) := by
  unfold World.setRow World.alloc
  congr 1
  apply Array.ext
  · simp
  · intro i h1 h2
    simp only [Array.getElem_modify, Array.getElem_push]
    split
    · rename_i hi; subst hi; simp
    · rename_i hi
      have : i < w.heap.size := by simp at h2; omega
      rw [dif_pos this, dif_pos this]

/-- A new variable of several cells, and the store that fills it. -/
theorem wpList_alloc_store {ops : Array Oper} {rest : List Oper} {o1 o2 : Oper} {a : Act} {Q : Exit → Act → World → Prop} (hg1 : o1.guard = none) (hg2 : o2.guard = none) (ty : TypeId) (hop1 : o1.op = .alloc ty) (x y : Operand) (hop2 : o2.op = .store ty x y)
    (z : Array Value) (i : TypeInfo) (hi : P.info? ty = some i) (hz : i.zero = some (.agg z)) (hzs : z.size = i.size) (cs : List Value)
    (hx : (a.put o1.dst (.pointer (some ⟨w.heap.size, 0, none⟩))).eval x = .pointer (some ⟨w.heap.size, 0, none⟩)) (hy : (a.put o1.dst (.pointer (some ⟨w.heap.size, 0, none⟩))).eval y = .agg cs.toArray)
    (hl : i.size = cs.length) (h1 : ∀ v ∈ cs, v.oneCell' = true)
    (h : wpList P ops Q rest ((a.put o1.dst (.pointer (some ⟨w.heap.size, 0, none⟩))).put o2.dst undef) (w.alloc (.cells cs.toArray ty))) : wpList P ops Q (o1 :: o2 :: rest) a w := by
  refine wpList_plain hg1 fun K hK => ?_
  unfold Oper.wp execOp
  simp [hop1, Instr.alloc, zeroValue, typeInfo, hi, hz, newVar, newRow, Value.cells]
  refine hK _ _ ?_
  refine wpList_plain hg2 fun K2 hK2 => ?_
  refine wp_store_mid (P := P) ty x y hop2 w.heap.size 0 cs hx hy ty z (heap_alloc_new w _) (by rw [hi]; simp [hl]) (by omega) h1 ?_
  rw [show z.toList.take 0 ++ cs ++ z.toList.drop (0 + cs.length) = cs by simp; omega, setRow_alloc]
  exact hK2 _ _ h

end

end Go.Proofs.YtlalfjlcgabnnaaGreatDoor
