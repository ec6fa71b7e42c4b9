/- A disk, the document's own disk and the book side by side in memory, each in blocks of its own; what each call leaves of the others. -/
import Derived.Test.YtapdaeafeejknaaGreatDoorPlay1
import Derived.Test.YtapdaeafeejknaaGreatDoorPAct
import Derived.Test.YtapdaeafeejknaaGreatDoorTwinB
namespace Go.Proofs.YtapdaeafeejknaaGreatDoor
open Go.RowKit
set_option maxRecDepth 20000
set_option linter.unusedVariables false
set_option linter.unusedSimpArgs false

abbrev BT : List TypeId := [47, 95]
/-- A block whose type is none of the book's own. -/
def NotB (w : World) (b : Nat) : Prop := ∃ cur t, w.heap[b]? = some (.cells cur t (0, 0)) ∧ t ∉ BT
theorem NotB.ne {w : World} {b b' : Nat} {cur : Array Value} {t : TypeId} {fr : Nat × Nat} (h : NotB w b) (h' : w.heap[b']? = some (.cells cur t fr)) (ht : t ∈ BT) : b ≠ b' := by
  rintro rfl
  obtain ⟨c2, t2, h2, h3⟩ := h
  rw [h2] at h'
  injection h' with h'
  injection h' with _ h'
  exact h3 (h' ▸ ht)
theorem NotB.lt {w : World} {b : Nat} (h : NotB w b) : b < w.heap.size := by
  obtain ⟨c2, t2, h2, h3⟩ := h
  exact lt_of_heap h2
theorem NotB.same {w w' : World} {b : Nat} (h : NotB w b) (hk : w'.heap[b]? = w.heap[b]?) : NotB w' b := by
  obtain ⟨c2, t2, h2, h3⟩ := h
  exact ⟨c2, t2, hk.trans h2, h3⟩
theorem NotB.kept {w w' : World} {b : Nat} (h : NotB w b) (hk : KeepT BT w w') : w'.heap[b]? = w.heap[b]? := by
  obtain ⟨c2, t2, h2, h3⟩ := h
  exact (hk.blk h2 h3).trans h2.symm
theorem DiskAt.notB {B : Nat} {w : World} {L : Loc} {dur : List Sec} {pend : List Wr} (h : DiskAt B w L dur pend) : ∀ b, L.has b → NotB w b := by
  rintro b (rfl | rfl | rfl | hb)
  · exact ⟨_, _, h.top, by decide⟩
  · obtain ⟨c, hc⟩ := own_type2 h.seen (g := L.gs) rfl
    exact ⟨c, _, hc, by decide⟩
  · obtain ⟨c, hc⟩ := own_type2 h.sure (g := L.gd) rfl
    exact ⟨c, _, hc, by decide⟩
  · obtain ⟨c, hc⟩ := own_type2 h.waits hb
    exact ⟨c, _, hc, by decide⟩
theorem RAt.notB {B : Nat} {w : World} {L : RLoc} {dur : List Sec} {pend : List Wr} (h : RAt B w L dur pend) : ∀ b, L.has b → NotB w b := by
  rintro b (rfl | rfl | rfl | hb)
  · exact ⟨_, _, h.top, by decide⟩
  · obtain ⟨c, hc⟩ := h.seen.type
    exact ⟨c, _, hc, by decide⟩
  · obtain ⟨c, hc⟩ := h.sure.type
    exact ⟨c, _, hc, by decide⟩
  · obtain ⟨c, hc⟩ := own_type2 h.waits hb
    exact ⟨c, _, hc, by decide⟩
theorem DiskAt.base_le {B B' : Nat} {w : World} {L : Loc} {dur : List Sec} {pend : List Wr} (hd : DiskAt B' w L dur pend) (hB : B ≤ B') : DiskAt B w L dur pend :=
  ⟨Nat.le_trans hB hd.base, hd.top, own_base' hd.seen hB, own_base' hd.sure hB, own_base' hd.waits hB, hd.ne, hd.pos, hd.max, hd.okS, hd.okW⟩
theorem RAt.base_le {B B' : Nat} {w : World} {L : RLoc} {dur : List Sec} {pend : List Wr} (hd : RAt B' w L dur pend) (hB : B ≤ B') : RAt B w L dur pend :=
  ⟨Nat.le_trans hB hd.base, hd.top, own_base' hd.seen hB, own_base' hd.sure hB, own_base' hd.waits hB, hd.ne, hd.pos, hd.max, hd.okS, hd.okW⟩

/-- The blocks of the book: itself, the row of what is held, each list. -/
def bkHas (K : Nat) (H : Option Addr) (its : List It) (b : Nat) : Prop := b = K ∨ (Value.slice H 0 0).ownBlock = some b ∨ ∃ (i : Nat) (t : It), its[i]? = some t ∧ t.l.ownBlock = some b
theorem slice_blk (H : Option Addr) (n c n' c' : Nat) : (Value.slice H n c).ownBlock = (Value.slice H n' c').ownBlock := by cases H <;> rfl
section
variable {B K N c : Nat} {H : Option Addr} {its : List It} {w w' : World}
theorem BkAt.lt (h : BkAt w K B N H c its) : ∀ b, bkHas K H its b → B ≤ b ∧ b < w.heap.size := by
  rintro b (rfl | hb | ⟨i, t, ht, hb⟩)
  · exact ⟨h.baseB, lt_of_heap h.blk⟩
  · exact own_lt h.rowByte (by rw [slice_blk H _ _ 0 0]; exact hb)
  · obtain ⟨xs, hx⟩ := h.listsByte.own i t ht
    exact hx.lt _ hb
theorem BkAt.keep (h : BkAt w K B N H c its) (hs : w.heap.size ≤ w'.heap.size) (hk : ∀ b, bkHas K H its b → w'.heap[b]? = w.heap[b]?) : BkAt w' K B N H c its :=
  ⟨(hk K (.inl rfl)).trans h.blk, ownsRow_same h.rowByte (fun b hb => hk b (.inr (.inl (by rw [slice_blk H 0 0 its.length c]; exact hb)))),
    ⟨fun i t ht => by
      obtain ⟨xs, hx⟩ := h.listsByte.own i t ht
      exact ⟨xs, hx.same fun g hg => hk g (.inr (.inr ⟨i, t, ht, hg⟩))⟩, h.listsByte.apart⟩, h.manyByte, h.smallByte, Nat.le_trans h.baseW hs, h.baseB, h.few⟩
end

/-- What is carried through is as it was. -/
def Kp (B : Nat) (xs : List Nat) (w w' : World) : Prop := Below B w w' ∧ ∀ b ∈ xs, w'.heap[b]? = w.heap[b]?
structure PlayAt (B : Nat) (w : World) (L : Loc) (M : RLoc) (dur : List Sec) (pend : List Wr) (dur2 : List Sec) (pend2 : List Wr) (K N : Nat) (H : Option Addr) (c : Nat) (its : List It) (xs : List Nat) : Prop where
  disk : DiskAt B w L dur pend
  ref : RAt B w M dur2 pend2
  book : BkAt w K B N H c its
  dr : ∀ b, L.has b → ¬ M.has b
  db : ∀ b, L.has b → ¬ bkHas K H its b
  rb : ∀ b, M.has b → ¬ bkHas K H its b
  ext : ∀ b ∈ xs, NotB w b ∧ ¬ L.has b ∧ ¬ M.has b ∧ ¬ bkHas K H its b
section
variable {B : Nat} {w w' : World} {L L' : Loc} {M M' : RLoc} {dur dur2 dur' : List Sec} {pend pend2 pend' : List Wr} {K N : Nat} {H : Option Addr} {c : Nat} {its : List It} {xs : List Nat}
theorem PlayAt.turns {G : Nat → Prop} (h : PlayAt B w L M dur pend dur2 pend2 K N H c its xs) (ht : Turns w w' G) (hG : ∀ b, G b → B ≤ b ∧ ¬ L.has b ∧ ¬ M.has b ∧ ¬ bkHas K H its b ∧ b ∉ xs) :
    PlayAt B w' L M dur pend dur2 pend2 K N H c its xs ∧ Kp B xs w w' := by
  have hx : ∀ b ∈ xs, w'.heap[b]? = w.heap[b]? := fun b hb => ht.block b (h.ext b hb).1.lt (fun hg => (hG b hg).2.2.2.2 hb)
  refine ⟨⟨h.disk.turns ht (fun b hb hg => (hG b hg).2.1 hb), h.ref.turns ht (fun b hb hg => (hG b hg).2.2.1 hb), h.book.keep ht.size (fun b hb => ht.block b (h.book.lt b hb).2 (fun hg => (hG b hg).2.2.2.1 hb)), h.dr, h.db, h.rb, fun b hb => ⟨(h.ext b hb).1.same (hx b hb), (h.ext b hb).2⟩⟩, ?_, hx⟩
  exact ht.below (Below.refl _ _) h.book.baseW (fun i hi => (hG i hi).1)
theorem PlayAt.below (h : PlayAt B w L M dur pend dur2 pend2 K N H c its xs) (hb : Below w.heap.size w w') : PlayAt B w' L M dur pend dur2 pend2 K N H c its xs ∧ Kp B xs w w' :=
  h.turns (Turns.of_below hb (fun _ => False)) (fun _ hg => hg.elim)
theorem PlayAt.disk_to (h : PlayAt B w L M dur pend dur2 pend2 K N H c its xs) (hd : DiskAt B w' L' dur' pend') (hs : Step w w' L L') : PlayAt B w' L' M dur' pend' dur2 pend2 K N H c its xs ∧ Kp B xs w w' := by
  have ht := hs.1
  have hx : ∀ b ∈ xs, w'.heap[b]? = w.heap[b]? := fun b hb => ht.block b (h.ext b hb).1.lt (h.ext b hb).2.1
  refine ⟨⟨hd, h.ref.turns ht (fun b hb hg => h.dr b hg hb), h.book.keep ht.size (fun b hb => ht.block b (h.book.lt b hb).2 (fun hg => h.db b hg hb)), ?_, ?_, h.rb, fun b hb => ⟨(h.ext b hb).1.same (hx b hb), ?_, (h.ext b hb).2.2⟩⟩, ?_, hx⟩
  · intro b hb hm
    rcases hs.2 b hb with h1 | h1
    · exact h.dr b h1 hm
    · have := (h.ref.lt b hm).2; omega
  · intro b hb hm
    rcases hs.2 b hb with h1 | h1
    · exact h.db b h1 hm
    · have := (h.book.lt b hm).2; omega
  · intro hl
    rcases hs.2 b hl with h1 | h1
    · exact (h.ext b hb).2.1 h1
    · have := (h.ext b hb).1.lt; omega
  · exact ht.below (Below.refl _ _) h.book.baseW (fun i hi => (h.disk.lt i hi).1)
theorem PlayAt.ref_to (h : PlayAt B w L M dur pend dur2 pend2 K N H c its xs) (hd : RAt B w' M' dur' pend') (hs : RStep w w' M M') : PlayAt B w' L M' dur pend dur' pend' K N H c its xs ∧ Kp B xs w w' := by
  have ht := hs.1
  have hx : ∀ b ∈ xs, w'.heap[b]? = w.heap[b]? := fun b hb => ht.block b (h.ext b hb).1.lt (h.ext b hb).2.2.1
  refine ⟨⟨h.disk.turns ht (fun b hb hg => h.dr b hb hg), hd, h.book.keep ht.size (fun b hb => ht.block b (h.book.lt b hb).2 (fun hg => h.rb b hg hb)), ?_, h.db, ?_, fun b hb => ⟨(h.ext b hb).1.same (hx b hb), (h.ext b hb).2.1, ?_, (h.ext b hb).2.2.2⟩⟩, ?_, hx⟩
  · intro b hb hm
    rcases hs.2 b hm with h1 | h1
    · exact h.dr b hb h1
    · have := (h.disk.lt b hb).2; omega
  · intro b hb hm
    rcases hs.2 b hb with h1 | h1
    · exact h.rb b h1 hm
    · have := (h.book.lt b hm).2; omega
  · intro hl
    rcases hs.2 b hl with h1 | h1
    · exact (h.ext b hb).2.2.1 h1
    · have := (h.ext b hb).1.lt; omega
  · exact ht.below (Below.refl _ _) h.book.baseW (fun i hi => (h.ref.lt i hi).1)
/-- A disk that is there no longer for the others: it and they lie apart. -/
structure Was (B : Nat) (w : World) (J : Loc) (du : List Sec) (pe : List Wr) (L : Loc) (M : RLoc) (K : Nat) (H : Option Addr) (its : List It) (xs : List Nat) : Prop where
  disk : DiskAt B w J du pe
  free : ∀ b, J.has b → ¬ L.has b ∧ ¬ M.has b ∧ ¬ bkHas K H its b ∧ b ∉ xs
theorem PlayAt.disk_new (h : PlayAt B w L M dur pend dur2 pend2 K N H c its xs) (hd : DiskAt w.heap.size w' L' dur' pend') (hn : ∀ b, L'.has b → w.heap.size ≤ b) (hb : Below w.heap.size w w') :
    PlayAt B w' L' M dur' pend' dur2 pend2 K N H c its xs ∧ Kp B xs w w' ∧ Was B w' L dur pend L' M K H its xs := by
  obtain ⟨h1, h2⟩ := h.below hb
  refine ⟨⟨hd.base_le h.book.baseW, h1.ref, h1.book, ?_, ?_, h1.rb, fun b hb => ⟨(h1.ext b hb).1, ?_, (h1.ext b hb).2.2⟩⟩, h2, h1.disk, ?_⟩
  · intro b hb hm
    have := hn b hb
    have := (h.ref.lt b hm).2
    omega
  · intro b hb hm
    have := hn b hb
    have := (h.book.lt b hm).2
    omega
  · intro hl
    have := hn b hl
    have := (h.ext b hb).1.lt
    omega
  · intro b hb
    refine ⟨fun hl => ?_, h.dr b hb, h.db b hb, fun hx => (h.ext b hx).2.1 hb⟩
    have := hn b hl
    have := (h.disk.lt b hb).2
    omega
theorem PlayAt.ref_new (h : PlayAt B w L M dur pend dur2 pend2 K N H c its xs) (hd : RAt w.heap.size w' M' dur' pend') (hn : ∀ b, M'.has b → w.heap.size ≤ b) (hb : Below w.heap.size w w') :
    PlayAt B w' L M' dur pend dur' pend' K N H c its xs ∧ Kp B xs w w' := by
  obtain ⟨h1, h2⟩ := h.below hb
  refine ⟨⟨h1.disk, hd.base_le h.book.baseW, h1.book, ?_, h1.db, ?_, fun b hb => ⟨(h1.ext b hb).1, (h1.ext b hb).2.1, ?_, (h1.ext b hb).2.2.2⟩⟩, h2⟩
  · intro b hb hm
    have := hn b hm
    have := (h.disk.lt b hb).2
    omega
  · intro b hb hm
    have := hn b hb
    have := (h.book.lt b hm).2
    omega
  · intro hl
    have := hn b hl
    have := (h.ext b hb).1.lt
    omega
theorem Was.ref_new {J : Loc} {du : List Sec} {pe : List Wr} (h : Was B w J du pe L M K H its xs) (hn : ∀ b, M'.has b → w.heap.size ≤ b) (hb : Below w.heap.size w w') : Was B w' J du pe L M' K H its xs :=
  ⟨h.disk.below hb, fun b hj => ⟨(h.free b hj).1, fun hm => by
    have := hn b hm
    have := (h.disk.lt b hj).2
    omega, (h.free b hj).2.2⟩⟩
theorem Was.below {J : Loc} {du : List Sec} {pe : List Wr} (h : Was B w J du pe L M K H its xs) (hb : Below w.heap.size w w') : Was B w' J du pe L M K H its xs := ⟨h.disk.below hb, h.free⟩
theorem PlayAt.was_to {J J' : Loc} {du du' : List Sec} {pe pe' : List Wr} (h : PlayAt B w L M dur pend dur2 pend2 K N H c its xs) (hw : Was B w J du pe L M K H its xs) (hd : DiskAt B w' J' du' pe') (hs : Step w w' J J') :
    PlayAt B w' L M dur pend dur2 pend2 K N H c its xs ∧ Kp B xs w w' ∧ Was B w' J' du' pe' L M K H its xs := by
  obtain ⟨h1, h2⟩ := h.turns hs.1 (fun b hb => ⟨(hw.disk.lt b hb).1, hw.free b hb⟩)
  refine ⟨h1, h2, hd, fun b hj => ?_⟩
  rcases hs.2 b hj with e | e
  · exact hw.free b e
  · refine ⟨fun hl => ?_, fun hl => ?_, fun hl => ?_, fun hl => ?_⟩
    · have := (h.disk.lt b hl).2; omega
    · have := (h.ref.lt b hl).2; omega
    · have := (h.book.lt b hl).2; omega
    · have := (h.ext b hl).1.lt; omega
/-- One more block that is carried through. -/
theorem PlayAt.push (h : PlayAt B w L M dur pend dur2 pend2 K N H c its xs) (hb : Below w.heap.size w w') {x : Nat} (hx : w.heap.size ≤ x) (hn : NotB w' x) :
    PlayAt B w' L M dur pend dur2 pend2 K N H c its (x :: xs) ∧ Kp B xs w w' ∧ x ∉ xs := by
  obtain ⟨h1, h2⟩ := h.below hb
  refine ⟨⟨h1.disk, h1.ref, h1.book, h1.dr, h1.db, h1.rb, fun b hb => ?_⟩, h2, fun hm => by have := (h.ext x hm).1.lt; omega⟩
  rcases List.mem_cons.1 hb with rfl | hb
  · refine ⟨hn, fun hl => ?_, fun hl => ?_, fun hl => ?_⟩
    · have := (h.disk.lt b hl).2; omega
    · have := (h.ref.lt b hl).2; omega
    · have := (h.book.lt b hl).2; omega
  · exact h1.ext b hb
theorem PlayAt.drop {x : Nat} (h : PlayAt B w L M dur pend dur2 pend2 K N H c its (x :: xs)) : PlayAt B w L M dur pend dur2 pend2 K N H c its xs :=
  ⟨h.disk, h.ref, h.book, h.dr, h.db, h.rb, fun b hb => h.ext b (List.mem_cons_of_mem _ hb)⟩
theorem PlayAt.add {A : Option Addr} {n cc : Nat} {H' : Option Addr} {c' : Nat} {ys : List Value} (h : PlayAt B w L M dur pend dur2 pend2 K N H c its xs)
    (hk : KeptIn w w' K B 47 95 (bookCells N H c its) 1 N its A n cc H' c') (ho : Rw w B 5 ES (.slice A n cc) n ys) (hn : n ≤ 1073741824) (hN : N + 1 ≤ 1048000)
    (ha : ∀ g, (Value.slice A n cc).ownBlock = some g → ¬ L.has g ∧ ¬ M.has g ∧ ¬ bkHas K H its g ∧ g ∉ xs) :
    PlayAt B w' L M dur pend dur2 pend2 K (N + 1) H' c' (its ++ [⟨A, n, cc, none, 0, 0, N + 1⟩]) xs ∧ Kp B xs w w' := by
  have hx : ∀ b ∈ xs, w'.heap[b]? = w.heap[b]? := fun b hb => (h.ext b hb).1.kept hk.keep
  have hD : ∀ b, L.has b → w'.heap[b]? = w.heap[b]? := fun b hb => (h.disk.notB b hb).kept hk.keep
  have hR : ∀ b, M.has b → w'.heap[b]? = w.heap[b]? := fun b hb => (h.ref.notB b hb).kept hk.keep
  have hnot : ∀ b, NotB w' b → ¬ bkHas K H its b → (Value.slice A n cc).ownBlock ≠ some b → ¬ bkHas K H' (its ++ [⟨A, n, cc, none, 0, 0, N + 1⟩]) b := by
    rintro b hb ho2 hne (rfl | h1 | ⟨i, t, ht, h1⟩)
    · exact ho2 (.inl rfl)
    · obtain ⟨cur, hc⟩ := own_type2 hk.row (g := b) (by rw [slice_blk H' _ _ 0 0]; exact h1)
      exact hb.ne hc (by simp) rfl
    · by_cases hi : i < its.length
      · rw [List.getElem?_append_left hi] at ht
        exact ho2 (.inr (.inr ⟨i, t, ht, h1⟩))
      · rw [List.getElem?_append_right (by omega)] at ht
        have h0 : i - its.length = 0 := by have := (List.getElem?_eq_some_iff.1 ht).1; simp at this; omega
        rw [h0] at ht
        simp at ht
        subst ht
        exact hne h1
  refine ⟨⟨h.disk.keep hD, h.ref.keep hR, h.book.addByte hk ho hn hN ?_, h.dr, ?_, ?_, ?_⟩, hk.below, hx⟩
  · intro i t ht
    have e1 : (t.l.ownBlock = none ∨ t.l.ownBlock ≠ (Value.slice A n cc).ownBlock) := by
      rcases hv : t.l.ownBlock with _ | g
      · exact .inl rfl
      · refine .inr fun e => ?_
        exact (ha g e.symm).2.2.1 (.inr (.inr ⟨i, t, ht, hv⟩))
    refine ⟨e1, ?_⟩
    rcases hv : (Value.slice A n cc).ownBlock with _ | g
    · exact .inl rfl
    · refine .inr fun e => ?_
      exact (ha g hv).2.2.1 (.inr (.inr ⟨i, t, ht, e.symm⟩))
  · exact fun b hb => hnot b ((h.disk.notB b hb).same (hD b hb)) (h.db b hb) (fun e => (ha b e).1 hb)
  · exact fun b hb => hnot b ((h.ref.notB b hb).same (hR b hb)) (h.rb b hb) (fun e => (ha b e).2.1 hb)
  · exact fun b hb => ⟨(h.ext b hb).1.same (hx b hb), (h.ext b hb).2.1, (h.ext b hb).2.2.1, hnot b ((h.ext b hb).1.same (hx b hb)) (h.ext b hb).2.2.2 (fun e => (ha b e).2.2.2 hb)⟩
theorem Kp.trans {w'' : World} (h : Kp B xs w w') (k : Kp B xs w' w'') : Kp B xs w w'' := ⟨h.1.trans k.1, fun b hb => (k.2 b hb).trans (h.2 b hb)⟩
theorem Kp.drop {x : Nat} (h : Kp B (x :: xs) w w') : Kp B xs w w' := ⟨h.1, fun b hb => h.2 b (List.mem_cons_of_mem _ hb)⟩
end

/-- Not refused: few acts, and none of them long. -/
def GreatQ (n : Nat) (l : List Act1) (w : World) (e : Ending) (w' : World) : Prop := ∃ bd, e = .returned (.bool bd) ∧ (bd = false → n ≤ 150 ∧ ∀ x ∈ l, x.m ≤ 30000) ∧ w = w'
theorem sum_ge : ∀ (l : List Act1) (x : Act1), x ∈ l → x.m ≤ (l.map fun x => 1 + x.m).sum
  | [], x, h => by cases h
  | y :: r, x, h => by
    rcases List.mem_cons.1 h with rfl | h
    · simp; omega
    · have := sum_ge r x h
      simp
      omega
set_option maxHeartbeats 800000 in
theorem greatQ_any (A : Option Addr) (n c : Nat) (l : List Act1) (w : World) (h : ActsAt w A n l) (hn : n ≤ 140737488355328) :
    Calls Tryz.prog 4 #[.slice A n c] w fun e w' => GreatQ n l w e w' := by
  have HA := hide h
  clear h
  go_enter Tryz.func4, Tryz.ntmps4
  go_wp2
  go_loop [3, 4] (fun s i => ∃ k : Nat, k ≤ n ∧ i = .int .i64 k ∧ s = .int .i64 (sumTo l k : Nat) ∧ sumTo l k ≤ 30000) (fun _ i => n - (intOf i).toNat)
  case atStart => exact ⟨0, Nat.zero_le _, rfl, rfl, by simp [sumTo]⟩
  case round =>
    obtain ⟨k, hk, rfl, rfl, hs⟩ := hrel
    by_cases hlt : k < n
    · obtain ⟨b, o, rfl, _, hc⟩ := HA.out.cells (by omega)
      have hkl : k < l.length := by rw [HA.out.len]; exact hlt
      obtain ⟨x, hx⟩ : ∃ x, x = actAt l k := ⟨_, rfl⟩
      have hox : OkAct w x := by rw [hx]; exact HA.out.each _ (actAt_mem hkl)
      have hm := hox.size
      have c3 : w.cell? ⟨b, o + k * 5 + 3, none⟩ = some (.slice x.A x.m x.c) := hc k hlt 3 _ (by rw [← hx]; rfl)
      have hsu : sumTo l (k + 1) = sumTo l k + 1 + x.m := by rw [sumTo_succ l k hkl, hx]
      obtain ⟨s0, hs0⟩ : ∃ s0, s0 = sumTo l k := ⟨_, rfl⟩
      rw [← hs0] at hs hsu ⊢
      have HSU := hide hsu
      have k0 : (0 : Int) ≤ (k : Int) := by omega
      have k1 : (k : Int) < (n : Int) := by omega
      clear hc hox hx hs0 hsu
      by_cases hg : 30000 < s0 + 1 + x.m
      · have g1 : (30000 : Int) < (s0 : Int) + 1 + (x.m : Int) := by omega
        go_wp2
        go_ret
        exact ⟨true, rfl, (fun h => by cases h), rfl⟩
      · have g1 : (s0 : Int) + 1 + (x.m : Int) ≤ 30000 := by omega
        go_wp2
        go_round
        case rel => exact ⟨k + 1, by omega, by go_num, by rw [HSU.out]; go_num, by rw [HSU.out]; omega⟩
        case measure => simp [intOf]; omega
    · obtain rfl : k = n := by omega
      have hall : ∀ x ∈ l, x.m ≤ 30000 := fun x hx => by
        have h1 := sum_ge l x hx
        have h2 : sumTo l k = (l.map fun x => 1 + x.m).sum := by unfold sumTo; rw [← HA.out.len, List.take_length]
        omega
      have HALL := hide hall
      clear hall
      by_cases hg : 150 < k
      · have g1 : (150 : Int) < (k : Int) := by omega
        go_wp2
        go_ret
        exact ⟨true, by simp [Act.eval, g1], (fun h => by cases h), rfl⟩
      · have g1 : (k : Int) ≤ 150 := by omega
        go_wp2
        go_ret
        exact ⟨false, by simp [Act.eval]; omega, (fun _ => ⟨by omega, HALL.out⟩), rfl⟩
end Go.Proofs.YtapdaeafeejknaaGreatDoor
