/- The document's own disk (of the reference package): where it lies in memory, in the same plain words as the program's own disk. -/
import Derived.Test.YtapdaeafeejknaaGreatDoorDiskKs
import Derived.Laws.BytesArg
namespace Go.Proofs.YtapdaeafeejknaaGreatDoor
open Go.RowKit
set_option maxRecDepth 20000
set_option linter.unusedVariables false

def strV (b : List Int) : Value := .string (strOfNums b)
def rsecV (s : Sec) : List Value := [strV s.b, .bool s.bad]
def rwrV (x : Wr) : List Value := [.int .i64 (x.n : Int), strV x.b, .bool x.old]
def rsecsL (l : List Sec) : List (List Value) := l.map rsecV
def rwrsL (l : List Wr) : List (List Value) := l.map rwrV
def rsecsV (l : List Sec) : List Value := (rsecsL l).flatten
def rwrsV (l : List Wr) : List Value := (rwrsL l).flatten

theorem rsecs_row (l : List Sec) : ∀ x ∈ rsecsL l, x.length = 2 := by
  intro x hx
  obtain ⟨s, _, rfl⟩ := List.mem_map.1 hx
  rfl
theorem rwrs_row (l : List Wr) : ∀ x ∈ rwrsL l, x.length = 3 := by
  intro x hx
  obtain ⟨s, _, rfl⟩ := List.mem_map.1 hx
  rfl
theorem rsecs_at {l : List Sec} {n : Nat} (hn : n < l.length) : (rsecsL l)[n]? = some (rsecV (secAt l n)) := by simp [rsecsL, secAt, List.getD, hn]
theorem rwrs_at {l : List Wr} {n : Nat} (hn : n < l.length) : (rwrsL l)[n]? = some (rwrV (wrAt l n)) := by simp [rwrsL, wrAt, List.getD, hn]
theorem rsecs_snoc (l : List Sec) (s : Sec) : rsecsV (l ++ [s]) = rsecsV l ++ rsecV s := by simp [rsecsV, rsecsL]
theorem rwrs_snoc (l : List Wr) (x : Wr) : rwrsV (l ++ [x]) = rwrsV l ++ rwrV x := by simp [rwrsV, rwrsL]
theorem rsecsV_len (l : List Sec) : (rsecsV l).length = l.length * 2 := by rw [rsecsV, flat_len (rsecs_row l)]; simp [rsecsL]
theorem rwrsV_len (l : List Wr) : (rwrsV l).length = l.length * 3 := by rw [rwrsV, flat_len (rwrs_row l)]; simp [rwrsL]
theorem rsecV_one (s : Sec) : ∀ v ∈ rsecV s, v.oneCell' = true := by
  intro v hv
  simp [rsecV, strV] at hv
  rcases hv with rfl | rfl <;> rfl
theorem rwrV_one (x : Wr) : ∀ v ∈ rwrV x, v.oneCell' = true := by
  intro v hv
  simp [rwrV, strV] at hv
  rcases hv with rfl | rfl | rfl <;> rfl
theorem rsecsV_one (l : List Sec) : ∀ v ∈ rsecsV l, v.oneCell' = true := by
  intro v hv
  obtain ⟨r, hr, hv⟩ := List.mem_flatten.1 hv
  obtain ⟨s, _, rfl⟩ := List.mem_map.1 hr
  exact rsecV_one s v hv
theorem flat_set {L : List (List Value)} {s k : Nat} {r : List Value} (h : ∀ x ∈ L, x.length = s) (hk : L[k]? = some r) {o : Nat} (ho : o < s) (v : Value) : L.flatten.set (k * s + o) v = (L.set k (r.set o v)).flatten := by
  have hl := (List.getElem?_eq_some_iff.1 hk).1
  have hr : r.length = s := h r (List.mem_of_getElem? hk)
  have h1 := flat_seg h hk o [v] (by simp; omega)
  have hlen := flat_len h
  have hle : k * s + s ≤ L.length * s := by rw [← Nat.succ_mul]; exact Nat.mul_le_mul_right s hl
  have e1 : L.flatten.set (k * s + o) v = L.flatten.take (k * s + o) ++ [v] ++ L.flatten.drop (k * s + o + 1) := by
    rw [List.set_eq_take_append_cons_drop, if_pos (by omega)]
    simp
  have e2 : r.set o v = r.take o ++ [v] ++ r.drop (o + 1) := by
    rw [List.set_eq_take_append_cons_drop, if_pos (by omega)]
    simp
  rw [e1, e2]
  exact h1
theorem rsecs_set (l : List Sec) (n : Nat) (s : Sec) : (rsecsL l).set n (rsecV s) = rsecsL (l.set n s) := by simp [rsecsL, List.map_set]
theorem rwrs_set (l : List Wr) (n : Nat) (x : Wr) : (rwrsL l).set n (rwrV x) = rwrsL (l.set n x) := by simp [rwrsL, List.map_set]
theorem rsecs_set_b {l : List Sec} {n : Nat} (hn : n < l.length) (b : List Int) : (rsecsV l).set (n * 2) (strV b) = rsecsV (l.set n ⟨b, (secAt l n).bad⟩) := by
  have h := flat_set (rsecs_row l) (rsecs_at hn) (o := 0) (by omega) (strV b)
  rw [Nat.add_zero] at h
  rw [rsecsV, h, show (rsecV (secAt l n)).set 0 (strV b) = rsecV ⟨b, (secAt l n).bad⟩ from rfl, rsecs_set]
  rfl
theorem rsecs_set_bad {l : List Sec} {n : Nat} (hn : n < l.length) (v : Bool) : (rsecsV l).set (n * 2 + 1) (.bool v) = rsecsV (l.set n ⟨(secAt l n).b, v⟩) := by
  have h := flat_set (rsecs_row l) (rsecs_at hn) (o := 1) (by omega) (.bool v)
  rw [rsecsV, h, show (rsecV (secAt l n)).set 1 (.bool v) = rsecV ⟨(secAt l n).b, v⟩ from rfl, rsecs_set]
  rfl
theorem rwrs_set_b {l : List Wr} {n : Nat} (hn : n < l.length) (b : List Int) : (rwrsV l).set (n * 3 + 1) (strV b) = rwrsV (l.set n ⟨(wrAt l n).n, b, (wrAt l n).old⟩) := by
  have h := flat_set (rwrs_row l) (rwrs_at hn) (o := 1) (by omega) (strV b)
  rw [rwrsV, h, show (rwrV (wrAt l n)).set 1 (strV b) = rwrV ⟨(wrAt l n).n, b, (wrAt l n).old⟩ from rfl, rwrs_set]
  rfl
theorem rwrs_set_old {l : List Wr} {n : Nat} (hn : n < l.length) (v : Bool) : (rwrsV l).set (n * 3 + 2) (.bool v) = rwrsV (l.set n ⟨(wrAt l n).n, (wrAt l n).b, v⟩) := by
  have h := flat_set (rwrs_row l) (rwrs_at hn) (o := 2) (by omega) (.bool v)
  rw [rwrsV, h, show (rwrV (wrAt l n)).set 2 (.bool v) = rwrV ⟨(wrAt l n).n, (wrAt l n).b, v⟩ from rfl, rwrs_set]
  rfl

/-- A row of sectors of the call's own. -/
def RSR (B : Nat) (w : World) (g c : Nat) (l : List Sec) : Prop := w.ownsRow B 74 2 (.slice (some ⟨g, 0, none⟩) l.length c) l.length (rsecsV l)
section
variable {B : Nat} {w w' : World} {g c : Nat} {l : List Sec}
theorem RSR.lt (h : RSR B w g c l) : B ≤ g ∧ g < w.heap.size := World.ownsRow.lt h g rfl
theorem RSR.cellB (h : RSR B w g c l) {n : Nat} (hn : n < l.length) : w.cell? ⟨g, n * 2, none⟩ = some (strV (secAt l n).b) := by
  have h1 : w.cell? ⟨g, n * 2, none⟩ = (rsecsV l)[n * 2]? := World.ownsRow.cellAt h (n * 2) (by omega)
  have h2 := flat_get (rsecs_row l) (rsecs_at hn) (j := 0) (by omega)
  rw [Nat.add_zero] at h2
  rw [h1, rsecsV, h2]
  rfl
theorem RSR.cellF (h : RSR B w g c l) {n : Nat} (hn : n < l.length) : w.cell? ⟨g, n * 2 + 1, none⟩ = some (.bool (secAt l n).bad) := by
  have h1 : w.cell? ⟨g, n * 2 + 1, none⟩ = (rsecsV l)[n * 2 + 1]? := World.ownsRow.cellAt h (n * 2 + 1) (by omega)
  rw [h1, rsecsV, flat_get (rsecs_row l) (rsecs_at hn) (j := 1) (by omega)]
  rfl
theorem RSR.frozen (h : RSR B w g c l) (j : Nat) : w.frozen? ⟨g, j, none⟩ = false := World.ownsRow.frozenAt h j
theorem RSR.setB (h : RSR B w g c l) {n : Nat} (hn : n < l.length) (b : List Int) : RSR B (w.setCell ⟨g, n * 2, none⟩ (strV b)) g c (l.set n ⟨b, (secAt l n).bad⟩) ∧ w.grownBy (w.setCell ⟨g, n * 2, none⟩ (strV b)) (some g) := by
  have h1 := World.ownsRow.stored h (n * 2) (strV b)
  rw [rsecs_set_b hn] at h1
  refine ⟨?_, h1.2⟩
  unfold RSR
  rw [List.length_set]
  exact h1.1
theorem RSR.setF (h : RSR B w g c l) {n : Nat} (hn : n < l.length) (v : Bool) : RSR B (w.setCell ⟨g, n * 2 + 1, none⟩ (.bool v)) g c (l.set n ⟨(secAt l n).b, v⟩) ∧ w.grownBy (w.setCell ⟨g, n * 2 + 1, none⟩ (.bool v)) (some g) := by
  have h1 := World.ownsRow.stored h (n * 2 + 1) (.bool v)
  rw [rsecs_set_bad hn] at h1
  refine ⟨?_, h1.2⟩
  unfold RSR
  rw [List.length_set]
  exact h1.1
theorem RSR.same (h : RSR B w g c l) (hk : w'.heap[g]? = w.heap[g]?) : RSR B w' g c l := ownsRow_same h (fun b hb => by injection hb with hb; subst hb; exact hk)
theorem RSR.below (h : RSR B w g c l) (hb : Below w.heap.size w w') : RSR B w' g c l := h.same (hb.block g h.lt.2)
theorem RSR.type (h : RSR B w g c l) : ∃ cur, w.heap[g]? = some (.cells cur 74 (0, 0)) := by
  obtain ⟨cur, hc, _⟩ := own_heap h
  exact ⟨cur, hc⟩
end

/-- Where the document's disk lies. -/
structure RLoc where
  g : Nat
  gs : Nat
  cs : Nat
  gd : Nat
  cd : Nat
  p : Value
def RLoc.has (L : RLoc) (b : Nat) : Prop := b = L.g ∨ b = L.gs ∨ b = L.gd ∨ L.p.ownBlock = some b
def RLoc.ptr (L : RLoc) : Value := .pointer (some ⟨L.g, 0, none⟩)
structure RAt (B : Nat) (w : World) (L : RLoc) (dur : List Sec) (pend : List Wr) : Prop where
  base : B ≤ L.g
  top : w.heap[L.g]? = some (.cells #[.slice (some ⟨L.gd, 0, none⟩) dur.length L.cd, .slice (some ⟨L.gs, 0, none⟩) dur.length L.cs, L.p] 71 (0, 0))
  seen : RSR B w L.gs L.cs (seenOf dur pend)
  sure : RSR B w L.gd L.cd dur
  waits : w.ownsRow B 89 3 L.p pend.length (rwrsV pend)
  ne : L.gs ≠ L.gd
  pos : 0 < dur.length
  max : dur.length ≤ 16384
  okS : ∀ s ∈ dur, OkB s.b
  okW : ∀ x ∈ pend, OkB x.b ∧ x.n < dur.length
def RStep (w w' : World) (L L' : RLoc) : Prop := Turns w w' L.has ∧ ∀ b, L'.has b → L.has b ∨ w.heap.size ≤ b
section
variable {B : Nat} {w w' : World} {L : RLoc} {dur : List Sec} {pend : List Wr}
theorem RAt.keep (h : RAt B w L dur pend) (hk : ∀ b, L.has b → w'.heap[b]? = w.heap[b]?) : RAt B w' L dur pend :=
  ⟨h.base, (hk _ (.inl rfl)).trans h.top, h.seen.same (hk _ (.inr (.inl rfl))), h.sure.same (hk _ (.inr (.inr (.inl rfl)))), ownsRow_same h.waits (fun b hb => hk b (.inr (.inr (.inr hb)))), h.ne, h.pos, h.max, h.okS, h.okW⟩
theorem RAt.lt (h : RAt B w L dur pend) : ∀ b, L.has b → B ≤ b ∧ b < w.heap.size := by
  rintro b (rfl | rfl | rfl | hb)
  · exact ⟨h.base, lt_of_heap h.top⟩
  · exact h.seen.lt
  · exact h.sure.lt
  · exact h.waits.lt _ hb
theorem RAt.below (h : RAt B w L dur pend) (hb : Below w.heap.size w w') : RAt B w' L dur pend := h.keep fun b hh => hb.block b (h.lt b hh).2
theorem RAt.turns (h : RAt B w L dur pend) {H : Nat → Prop} (ht : Turns w w' H) (hd : ∀ b, L.has b → ¬ H b) : RAt B w' L dur pend := h.keep fun b hh => ht.block b (h.lt b hh).2 (hd b hh)
theorem RAt.cell (h : RAt B w L dur pend) : w.cell? ⟨L.g, 0, none⟩ = some (.slice (some ⟨L.gd, 0, none⟩) dur.length L.cd) ∧ w.cell? ⟨L.g, 1, none⟩ = some (.slice (some ⟨L.gs, 0, none⟩) dur.length L.cs) ∧ w.cell? ⟨L.g, 2, none⟩ = some L.p := by
  refine ⟨?_, ?_, ?_⟩ <;> rw [cell_of_row _ _ _ _ _ _ h.top] <;> rfl
theorem RAt.frozen (h : RAt B w L dur pend) (j : Nat) : w.frozen? ⟨L.g, j, none⟩ = false := frozen_of_row w L.g j _ _ h.top
theorem RAt.p_form (h : RAt B w L dur pend) : (L.p = .slice none 0 0 ∧ pend = []) ∨ ∃ g c, L.p = .slice (some ⟨g, 0, none⟩) pend.length c ∧ B ≤ g ∧ ∃ cur, w.heap[g]? = some (.cells cur 89 (0, 0)) := by
  rcases h.waits.2 with ⟨e, h0⟩ | ⟨g, cap, cur, e, hg, hh, _⟩
  · exact .inl ⟨e, List.eq_nil_of_length_eq_zero h0⟩
  · exact .inr ⟨g, cap, e, hg, cur, hh⟩
theorem RAt.p_ty (h : RAt B w L dur pend) {b : Nat} (hb : L.p.ownBlock = some b) : ∃ cur, w.heap[b]? = some (.cells cur 89 (0, 0)) := by
  rcases h.p_form with ⟨e, _⟩ | ⟨g, c, e, _, cur, hh⟩
  · rw [e] at hb; cases hb
  · rw [e] at hb
    injection hb with hb
    exact ⟨cur, hb ▸ hh⟩
theorem RAt.p_ne_g (h : RAt B w L dur pend) : L.p.ownBlock ≠ some L.g := fun e => by
  obtain ⟨cur, hh⟩ := h.p_ty e
  exact ty_ne hh h.top (by decide) rfl
theorem RAt.p_ne_s (h : RAt B w L dur pend) : L.p.ownBlock ≠ some L.gs := fun e => by
  obtain ⟨cur, hh⟩ := h.p_ty e
  obtain ⟨c2, h2⟩ := h.seen.type
  exact ty_ne hh h2 (by decide) rfl
theorem RAt.p_ne_d (h : RAt B w L dur pend) : L.p.ownBlock ≠ some L.gd := fun e => by
  obtain ⟨cur, hh⟩ := h.p_ty e
  obtain ⟨c2, h2⟩ := h.sure.type
  exact ty_ne hh h2 (by decide) rfl
theorem RAt.g_ne_s (h : RAt B w L dur pend) : L.g ≠ L.gs := by
  obtain ⟨c2, h2⟩ := h.seen.type
  exact ty_ne h.top h2 (by decide)
theorem RAt.g_ne_d (h : RAt B w L dur pend) : L.g ≠ L.gd := by
  obtain ⟨c2, h2⟩ := h.sure.type
  exact ty_ne h.top h2 (by decide)
end
end Go.Proofs.YtapdaeafeejknaaGreatDoor
