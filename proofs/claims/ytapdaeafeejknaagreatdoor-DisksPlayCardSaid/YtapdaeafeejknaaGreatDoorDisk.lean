/- Disks in plain words: sectors, writes that wait, what each call makes of them; and where they lie in memory. -/
import Derived.Test.YtapdaeafeejknaaGreatDoorRowsOf
import Derived.Test.YtapdaeafeejknaaGreatDoorCells
namespace Go.Proofs.YtapdaeafeejknaaGreatDoor
open Go.RowKit

structure Sec where
  b : List Int
  bad : Bool
structure Wr where
  n : Nat
  b : List Int
  old : Bool
def OkB (b : List Int) : Prop := b.length = 64 ∧ ∀ x ∈ b, 0 ≤ x ∧ x < 256
def secV (s : Sec) : List Value := s.b.map (Value.int .u8) ++ [.bool s.bad]
def wrV (i : Nat) (x : Wr) : List Value := .int .i64 x.n :: .int .i64 i :: (x.b.map (Value.int .u8) ++ [.bool x.old])
def secsL (l : List Sec) : List (List Value) := l.map secV
def wrsL (l : List Wr) : List (List Value) := l.mapIdx wrV
def secsV (l : List Sec) : List Value := (secsL l).flatten
def wrsV (l : List Wr) : List Value := (wrsL l).flatten
def noSec : Sec := ⟨[], false⟩
def noWr : Wr := ⟨0, [], false⟩
def secAt (l : List Sec) (n : Nat) : Sec := l.getD n noSec
def wrAt (l : List Wr) (n : Nat) : Wr := l.getD n noWr

theorem secV_len {s : Sec} (h : OkB s.b) : (secV s).length = 65 := by simp [secV, h.1]
theorem wrV_len {i : Nat} {x : Wr} (h : OkB x.b) : (wrV i x).length = 67 := by simp [wrV, h.1]
theorem secs_row {l : List Sec} (h : ∀ s ∈ l, OkB s.b) : ∀ x ∈ secsL l, x.length = 65 := by
  intro x hx
  obtain ⟨s, hs, rfl⟩ := List.mem_map.1 hx
  exact secV_len (h s hs)
theorem wrs_row {l : List Wr} (h : ∀ x ∈ l, OkB x.b) : ∀ x ∈ wrsL l, x.length = 67 := by
  intro x hx
  obtain ⟨i, hi, rfl⟩ := List.mem_mapIdx.1 hx
  exact wrV_len (h _ (List.getElem_mem _))
theorem secs_at {l : List Sec} {n : Nat} (hn : n < l.length) : (secsL l)[n]? = some (secV (secAt l n)) := by
  simp [secsL, secAt, List.getD, hn]
theorem wrs_at {l : List Wr} {n : Nat} (hn : n < l.length) : (wrsL l)[n]? = some (wrV n (wrAt l n)) := by
  simp [wrsL, wrAt, List.getD, hn]
theorem secs_set (l : List Sec) (n : Nat) (s : Sec) : (secsL l).set n (secV s) = secsL (l.set n s) := by
  simp [secsL, List.map_set]
theorem wrs_set (l : List Wr) (n : Nat) (x : Wr) : (wrsL l).set n (wrV n x) = wrsL (l.set n x) := by
  apply List.ext_getElem?
  intro j
  simp only [wrsL, List.getElem?_set, List.getElem?_mapIdx, List.length_mapIdx]
  by_cases e : n = j
  · subst e
    by_cases h : n < l.length <;> simp [h]
  · simp [e]
theorem wrs_snoc (l : List Wr) (x : Wr) : wrsV (l ++ [x]) = wrsV l ++ wrV l.length x := by
  simp [wrsV, wrsL, List.mapIdx_append]
theorem secV_one (s : Sec) : ∀ v ∈ secV s, v.oneCell' = true := by
  intro v hv
  rcases List.mem_append.1 hv with h | h
  · obtain ⟨z, _, rfl⟩ := List.mem_map.1 h; rfl
  · simp at h; subst h; rfl
theorem wrV_one (i : Nat) (x : Wr) : ∀ v ∈ wrV i x, v.oneCell' = true := by
  intro v hv
  rcases List.mem_cons.1 hv with rfl | h
  · rfl
  rcases List.mem_cons.1 h with rfl | h
  · rfl
  rcases List.mem_append.1 h with h | h
  · obtain ⟨z, _, rfl⟩ := List.mem_map.1 h; rfl
  · simp at h; subst h; rfl
theorem secsV_one (l : List Sec) : ∀ v ∈ secsV l, v.oneCell' = true := by
  intro v hv
  obtain ⟨r, hr, hv⟩ := List.mem_flatten.1 hv
  obtain ⟨s, _, rfl⟩ := List.mem_map.1 hr
  exact secV_one s v hv

/-- What a whole write does. -/
def applyW (l : List Sec) (x : Wr) : List Sec := l.set x.n ⟨x.b, (secAt l x.n).bad && x.old⟩
/-- What a torn write does. -/
def tearW (l : List Sec) (x : Wr) : List Sec := l.set x.n ⟨x.b.take 32 ++ (secAt l x.n).b.drop 32, (secAt l x.n).bad⟩
/-- What is seen. -/
def seenOf (dur : List Sec) (pend : List Wr) : List Sec := pend.foldl applyW dur
/-- One write, when the disk fails. -/
def stepF (keep : Nat) (torn : Int) (i : Nat) (l : List Sec) (x : Wr) : List Sec :=
  if (i : Int) = torn then tearW l x else if keep / 2 ^ (i % 64) % 2 = 1 then applyW l x else l
/-- What is left, k writes gone through. -/
def leftN (keep : Nat) (torn : Int) (dur : List Sec) (pend : List Wr) : Nat → List Sec
  | 0 => dur
  | k + 1 => stepF keep torn k (leftN keep torn dur pend k) (wrAt pend k)
def leftOf (keep : Nat) (torn : Int) (dur : List Sec) (pend : List Wr) : List Sec := leftN keep torn dur pend pend.length
theorem apply_len (l : List Sec) (x : Wr) : (applyW l x).length = l.length := by simp [applyW]
theorem tear_len (l : List Sec) (x : Wr) : (tearW l x).length = l.length := by simp [tearW]
theorem seen_len (dur : List Sec) (pend : List Wr) : (seenOf dur pend).length = dur.length := by
  induction pend generalizing dur with
  | nil => rfl
  | cons x r ih => rw [seenOf, List.foldl_cons]; exact (ih _).trans (apply_len _ _)
theorem step_len (keep : Nat) (torn : Int) (i : Nat) (l : List Sec) (x : Wr) : (stepF keep torn i l x).length = l.length := by
  unfold stepF
  split
  · exact tear_len _ _
  · split
    · exact apply_len _ _
    · rfl
theorem left_len (keep : Nat) (torn : Int) (dur : List Sec) (pend : List Wr) (k : Nat) : (leftN keep torn dur pend k).length = dur.length := by
  induction k with
  | zero => rfl
  | succ k ih => rw [leftN, step_len, ih]
theorem secAt_ok {l : List Sec} (h : ∀ s ∈ l, OkB s.b) {n : Nat} (hn : n < l.length) : OkB (secAt l n).b := by
  have : secAt l n = l[n] := by simp [secAt, List.getD, hn]
  rw [this]
  exact h _ (List.getElem_mem _)
theorem wrAt_mem {l : List Wr} {n : Nat} (hn : n < l.length) : wrAt l n ∈ l := by
  have : wrAt l n = l[n] := by simp [wrAt, List.getD, hn]
  rw [this]
  exact List.getElem_mem _
theorem set_ok {l : List Sec} (h : ∀ s ∈ l, OkB s.b) {n : Nat} {s : Sec} (hs : OkB s.b) : ∀ x ∈ l.set n s, OkB x.b := by
  intro x hx
  rcases List.mem_or_eq_of_mem_set hx with hx | rfl
  · exact h x hx
  · exact hs
theorem apply_ok {l : List Sec} (h : ∀ s ∈ l, OkB s.b) {x : Wr} (hx : OkB x.b) : ∀ s ∈ applyW l x, OkB s.b := set_ok h hx
theorem half_ok {a b : List Int} (ha : OkB a) (hb : OkB b) : OkB (a.take 32 ++ b.drop 32) := by
  refine ⟨by simp [ha.1, hb.1], fun x hx => ?_⟩
  rcases List.mem_append.1 hx with h | h
  · exact ha.2 x (List.mem_of_mem_take h)
  · exact hb.2 x (List.mem_of_mem_drop h)
theorem tear_ok {l : List Sec} (h : ∀ s ∈ l, OkB s.b) {x : Wr} (hx : OkB x.b) (hn : x.n < l.length) : ∀ s ∈ tearW l x, OkB s.b := set_ok h (half_ok hx (secAt_ok h hn))
theorem seen_ok {dur : List Sec} {pend : List Wr} (h : ∀ s ∈ dur, OkB s.b) (hp : ∀ x ∈ pend, OkB x.b) : ∀ s ∈ seenOf dur pend, OkB s.b := by
  induction pend generalizing dur with
  | nil => exact h
  | cons x r ih => exact ih (apply_ok h (hp x List.mem_cons_self)) (fun y hy => hp y (List.mem_cons_of_mem _ hy))
theorem left_ok {keep : Nat} {torn : Int} {dur : List Sec} {pend : List Wr} (h : ∀ s ∈ dur, OkB s.b) (hp : ∀ x ∈ pend, OkB x.b ∧ x.n < dur.length) (k : Nat) (hk : k ≤ pend.length) : ∀ s ∈ leftN keep torn dur pend k, OkB s.b := by
  induction k with
  | zero => exact h
  | succ k ih =>
    have hm := hp _ (wrAt_mem (l := pend) (n := k) (by omega))
    have i1 := ih (by omega)
    rw [leftN]
    unfold stepF
    split
    · exact tear_ok i1 hm.1 (by rw [left_len]; exact hm.2)
    · split
      · exact apply_ok i1 hm.1
      · exact i1
theorem seen_snoc (dur : List Sec) (pend : List Wr) (x : Wr) : seenOf dur (pend ++ [x]) = applyW (seenOf dur pend) x := by
  simp [seenOf]

/-- Where a disk lies. -/
structure Loc where
  g : Nat
  gs : Nat
  cs : Nat
  gd : Nat
  cd : Nat
  p : Value
def Loc.has (L : Loc) (b : Nat) : Prop := b = L.g ∨ b = L.gs ∨ b = L.gd ∨ L.p.ownBlock = some b
def Loc.ptr (L : Loc) : Value := .pointer (some ⟨L.g, 0, none⟩)
structure DiskAt (B : Nat) (w : World) (L : Loc) (dur : List Sec) (pend : List Wr) : Prop where
  base : B ≤ L.g
  top : w.heap[L.g]? = some (.cells #[.slice (some ⟨L.gs, 0, none⟩) dur.length L.cs, .slice (some ⟨L.gd, 0, none⟩) dur.length L.cd, L.p] 77 (0, 0))
  seen : w.ownsRow B 87 65 (.slice (some ⟨L.gs, 0, none⟩) dur.length L.cs) dur.length (secsV (seenOf dur pend))
  sure : w.ownsRow B 87 65 (.slice (some ⟨L.gd, 0, none⟩) dur.length L.cd) dur.length (secsV dur)
  waits : w.ownsRow B 83 67 L.p pend.length (wrsV pend)
  ne : L.gs ≠ L.gd
  pos : 0 < dur.length
  max : dur.length ≤ 16384
  okS : ∀ s ∈ dur, OkB s.b
  okW : ∀ x ∈ pend, OkB x.b ∧ x.n < dur.length
/-- Nothing turns but what the set holds, and what is new. -/
structure Turns (w w' : World) (H : Nat → Prop) : Prop where
  os : w'.os = w.os
  tape : w'.tape = w.tape
  output : w'.output = w.output
  size : w.heap.size ≤ w'.heap.size
  block : ∀ i, i < w.heap.size → ¬ H i → w'.heap[i]? = w.heap[i]?
theorem Turns.refl (w : World) (H : Nat → Prop) : Turns w w H := ⟨rfl, rfl, rfl, Nat.le_refl _, fun _ _ _ => rfl⟩
theorem Turns.below {B : Nat} {a w w' : World} {H : Nat → Prop} (h : Turns w w' H) (hb : Below B a w) (hB : B ≤ w.heap.size) (hH : ∀ i, H i → B ≤ i) : Below B a w' :=
  ⟨h.os.trans hb.os, h.tape.trans hb.tape, h.output.trans hb.output, Nat.le_trans hb.size h.size, fun i hi => (h.block i (by omega) (fun hh => by have := hH i hh; omega)).trans (hb.block i hi)⟩
theorem Turns.of_below {w w' : World} (h : Below w.heap.size w w') (H : Nat → Prop) : Turns w w' H := ⟨h.os, h.tape, h.output, h.size, fun i hi _ => h.block i hi⟩
theorem Turns.of_grown {w w' : World} {g : Nat} {H : Nat → Prop} (h : w.grownBy w' (some g)) (hg : H g) : Turns w w' H :=
  ⟨h.os, h.tape, h.output, h.size, fun i hi hn => h.block i hi (by rintro e; injection e with e; exact hn (e ▸ hg))⟩
theorem Turns.trans {a b c : World} {H : Nat → Prop} (h : Turns a b H) (k : Turns b c H) : Turns a c H :=
  ⟨k.os.trans h.os, k.tape.trans h.tape, k.output.trans h.output, Nat.le_trans h.size k.size, fun i hi hn => (k.block i (Nat.lt_of_lt_of_le hi h.size) hn).trans (h.block i hi hn)⟩
section
variable {B : Nat} {w w' : World} {L : Loc} {dur : List Sec} {pend : List Wr}
theorem ownsRow_same {e : TypeId} {s n : Nat} {v : Value} {xs : List Value} (h : w.ownsRow B e s v n xs) (hk : ∀ b, v.ownBlock = some b → w'.heap[b]? = w.heap[b]?) : w'.ownsRow B e s v n xs := by
  refine ⟨h.1, ?_⟩
  rcases h.2 with h2 | ⟨g, cap, cur, rfl, hg, hh, r⟩
  · exact .inl h2
  · exact .inr ⟨g, cap, cur, rfl, hg, (hk g rfl).trans hh, r⟩
theorem DiskAt.keep (h : DiskAt B w L dur pend) (hk : ∀ b, L.has b → w'.heap[b]? = w.heap[b]?) : DiskAt B w' L dur pend :=
  ⟨h.base, (hk _ (.inl rfl)).trans h.top, ownsRow_same h.seen (fun b hb => hk b (by injection hb with hb; exact .inr (.inl hb.symm))), ownsRow_same h.sure (fun b hb => hk b (by injection hb with hb; exact .inr (.inr (.inl hb.symm)))),
    ownsRow_same h.waits (fun b hb => hk b (.inr (.inr (.inr hb)))), h.ne, h.pos, h.max, h.okS, h.okW⟩
theorem DiskAt.lt (h : DiskAt B w L dur pend) : ∀ b, L.has b → B ≤ b ∧ b < w.heap.size := by
  rintro b (rfl | rfl | rfl | hb)
  · exact ⟨h.base, lt_of_heap h.top⟩
  · exact h.seen.lt _ rfl
  · exact h.sure.lt _ rfl
  · exact h.waits.lt _ hb
theorem DiskAt.below (h : DiskAt B w L dur pend) (hb : Below w.heap.size w w') : DiskAt B w' L dur pend := h.keep fun b hh => hb.block b (h.lt b hh).2
theorem DiskAt.alloc (h : DiskAt B w L dur pend) (o : Obj) : DiskAt B (w.alloc o) L dur pend := h.below ((Below.refl _ _).alloc (Nat.le_refl _) o)
/-- Another disk stays. -/
theorem DiskAt.turns (h : DiskAt B w L dur pend) {H : Nat → Prop} (ht : Turns w w' H) (hd : ∀ b, L.has b → ¬ H b) : DiskAt B w' L dur pend := h.keep fun b hh => ht.block b (h.lt b hh).2 (hd b hh)
theorem DiskAt.cell (h : DiskAt B w L dur pend) : w.cell? ⟨L.g, 0, none⟩ = some (.slice (some ⟨L.gs, 0, none⟩) dur.length L.cs) ∧ w.cell? ⟨L.g, 1, none⟩ = some (.slice (some ⟨L.gd, 0, none⟩) dur.length L.cd) ∧ w.cell? ⟨L.g, 2, none⟩ = some L.p := by
  refine ⟨?_, ?_, ?_⟩ <;> rw [cell_of_row _ _ _ _ _ _ h.top] <;> rfl
theorem ty_ne {b b' : Nat} {cs cs' : Array Value} {t t' : TypeId} {fr fr' : Nat × Nat} (h : w.heap[b]? = some (.cells cs t fr)) (h' : w.heap[b']? = some (.cells cs' t' fr')) (hne : t ≠ t') : b ≠ b' := by
  rintro rfl
  rw [h] at h'
  injection h' with h'
  injection h' with _ h'
  exact hne h'
theorem DiskAt.p_form (h : DiskAt B w L dur pend) : (L.p = .slice none 0 0 ∧ pend = []) ∨ ∃ g c, L.p = .slice (some ⟨g, 0, none⟩) pend.length c ∧ B ≤ g ∧ ∃ cur, w.heap[g]? = some (.cells cur 83 (0, 0)) := by
  rcases h.waits.2 with ⟨e, h0⟩ | ⟨g, cap, cur, e, hg, hh, _⟩
  · exact .inl ⟨e, List.eq_nil_of_length_eq_zero h0⟩
  · exact .inr ⟨g, cap, e, hg, cur, hh⟩
theorem DiskAt.p_ty (h : DiskAt B w L dur pend) {b : Nat} (hb : L.p.ownBlock = some b) : ∃ cur, w.heap[b]? = some (.cells cur 83 (0, 0)) := by
  rcases h.p_form with ⟨e, _⟩ | ⟨g, c, e, _, cur, hh⟩
  · rw [e] at hb; cases hb
  · rw [e] at hb
    injection hb with hb
    exact ⟨cur, hb ▸ hh⟩
theorem DiskAt.p_ne_g (h : DiskAt B w L dur pend) : L.p.ownBlock ≠ some L.g := fun e => by
  obtain ⟨cur, hh⟩ := h.p_ty e
  exact ty_ne hh h.top (by decide) rfl
theorem DiskAt.p_ne_s (h : DiskAt B w L dur pend) : L.p.ownBlock ≠ some L.gs := fun e => by
  obtain ⟨cur, hh⟩ := h.p_ty e
  obtain ⟨c2, h2, _⟩ := own_heap h.seen
  exact ty_ne hh h2 (by decide) rfl
theorem DiskAt.p_ne_d (h : DiskAt B w L dur pend) : L.p.ownBlock ≠ some L.gd := fun e => by
  obtain ⟨cur, hh⟩ := h.p_ty e
  obtain ⟨c2, h2, _⟩ := own_heap h.sure
  exact ty_ne hh h2 (by decide) rfl
theorem DiskAt.g_ne_s (h : DiskAt B w L dur pend) : L.g ≠ L.gs := by
  obtain ⟨c2, h2, _⟩ := own_heap h.seen
  exact ty_ne h.top h2 (by decide)
theorem DiskAt.g_ne_d (h : DiskAt B w L dur pend) : L.g ≠ L.gd := by
  obtain ⟨c2, h2, _⟩ := own_heap h.sure
  exact ty_ne h.top h2 (by decide)
theorem DiskAt.seenAt (h : DiskAt B w L dur pend) {n : Nat} (hn : n < dur.length) : ∀ j u, (secV (secAt (seenOf dur pend) n))[j]? = some u → w.cell? ⟨L.gs, n * 65 + j, none⟩ = some u := by
  intro j u hj
  have hok := seen_ok h.okS (fun x hx => (h.okW x hx).1)
  have hl := seen_len dur pend
  have hj2 : j < 65 := by have := (List.getElem?_eq_some_iff.1 hj).1; rw [secV_len (secAt_ok hok (by omega))] at this; exact this
  rw [h.seen.cellAt (n * 65 + j) (by omega)]
  exact (flat_get (secs_row hok) (secs_at (by omega)) hj2).trans hj
theorem DiskAt.sureAt (h : DiskAt B w L dur pend) {n : Nat} (hn : n < dur.length) : ∀ j u, (secV (secAt dur n))[j]? = some u → w.cell? ⟨L.gd, n * 65 + j, none⟩ = some u := by
  intro j u hj
  have hj2 : j < 65 := by have := (List.getElem?_eq_some_iff.1 hj).1; rw [secV_len (secAt_ok h.okS hn)] at this; exact this
  rw [h.sure.cellAt (n * 65 + j) (by omega)]
  exact (flat_get (secs_row h.okS) (secs_at hn) hj2).trans hj
theorem waits_at {m c gp : Nat} (hw : w.ownsRow B 83 67 (.slice (some ⟨gp, 0, none⟩) m c) m (wrsV pend)) (hm : m = pend.length) (hok : ∀ x ∈ pend, OkB x.b) {k : Nat} (hk : k < pend.length) : ∀ j u, (wrV k (wrAt pend k))[j]? = some u → w.cell? ⟨gp, k * 67 + j, none⟩ = some u := by
  intro j u hj
  have hj2 : j < 67 := by have := (List.getElem?_eq_some_iff.1 hj).1; rw [wrV_len (hok _ (wrAt_mem hk))] at this; exact this
  rw [hw.cellAt (k * 67 + j) (by omega)]
  exact (flat_get (wrs_row hok) (wrs_at hk) hj2).trans hj
end
end Go.Proofs.YtapdaeafeejknaaGreatDoor
