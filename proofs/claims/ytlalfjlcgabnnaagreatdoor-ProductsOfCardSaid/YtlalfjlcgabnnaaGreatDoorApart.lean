/- The contract of the book's Apart: lists in rows of the call's own, no two in one, are found apart. -/
import Derived.Test.YtlalfjlcgabnnaaGreatDoorLook
import Derived.Test.YtlalfjlcgabnnaaGreatDoorKeep
import Derived.Test.YtlalfjlcgabnnaaGreatDoorNone
namespace Go.Proofs.YtlalfjlcgabnnaaGreatDoor
open Go.RowKit

theorem rows1_keep {T : List TypeId} {w w' : World} {base : Nat} {e : TypeId} {its : List It} (h : Rows1 w base e its) (hk : KeepT T w w') (he : e ∉ T) : Rows1 w' base e its :=
  ⟨fun i t ht => by obtain ⟨xs, hx⟩ := h.own i t ht; exact ⟨xs, hk.own hx he⟩, h.apart⟩

/-- Each list that is held is full of its mark. -/
def Full (w : World) (base : Nat) (e : TypeId) (mk : Nat → Value) (its : List It) : Prop := ∀ (i : Nat) (t : It), its[i]? = some t → w.ownsRow base e 1 t.l t.n (List.replicate t.n (mk t.m))

theorem full_keep {T : List TypeId} {w w' : World} {base : Nat} {e : TypeId} {mk : Nat → Value} {its : List It} (h : Full w base e mk its) (hk : KeepT T w w') (he : e ∉ T) : Full w' base e mk its :=
  fun i t ht => hk.own (h i t ht) he

/-- Each list that is held, and the longer one behind it, are full of their mark. -/
structure Long (w : World) (base : Nat) (e : TypeId) (mk : Nat → Value) (its0 its : List It) : Prop where
  len : its.length = its0.length
  all : ∀ (i : Nat) (t : It), its[i]? = some t → t.n2 = t.n + 40 ∧ Lies w t.A t.n (List.replicate t.n (mk t.m)) ∧ w.ownsRow base e 1 t.long (t.n + 40) (List.replicate (t.n + 40) (mk t.m)) ∧ ∀ g, t.l.ownBlock = some g → ∃ cur, w.heap[g]? = some (.cells cur e (0, 0))
  same : ∀ (i : Nat) (t t0 : It), its[i]? = some t → its0[i]? = some t0 → t.A = t0.A ∧ t.n = t0.n ∧ t.c = t0.c ∧ t.m = t0.m

theorem Long.of {w wr : World} {base : Nat} {e hT : TypeId} {mk : Nat → Value} {H : Option Addr} {c : Nat} {its0 its : List It} (h : GrowTo w wr base e hT mk H c its0 its its.length) : Long wr base e mk its0 its :=
  ⟨h.len, fun i t ht => by
    obtain ⟨a, b, c, _, d⟩ := h.done i t (List.getElem?_eq_some_iff.1 ht).1 ht
    exact ⟨a, b, c, d⟩, h.same⟩

theorem long_keep {T : List TypeId} {w w' : World} {base : Nat} {e : TypeId} {mk : Nat → Value} {its0 its : List It} (h : Long w base e mk its0 its) (hk : KeepT T w w') (he : e ∉ T) : Long w' base e mk its0 its :=
  ⟨h.len, fun i t ht => by
    obtain ⟨a, b, c, d⟩ := h.all i t ht
    refine ⟨a, b.keepT (c := t.c) hk d he, hk.own c he, fun g hg => ?_⟩
    obtain ⟨cur, hc⟩ := d g hg
    exact ⟨cur, hk.blk hc he⟩, h.same⟩

theorem long_look {w : World} {base : Nat} {e : TypeId} {mk : Nat → Value} {its0 its : List It} (h : Long w base e mk its0 its) (hs : ∀ (i : Nat) (t : It), its0[i]? = some t → t.n ≤ 1073741824 ∧ t.m ≤ 1048576) :
    ∀ (i : Nat) (t : It), its[i]? = some t → t.n ≤ 1073741824 ∧ t.m ≤ 1048576 ∧ t.n2 = t.n + 40 ∧ Lies w t.A t.n (List.replicate t.n (mk t.m)) ∧ Lies w t.A2 (t.n + 40) (List.replicate (t.n + 40) (mk t.m)) := by
  intro i t ht
  obtain ⟨a, b, c, _⟩ := h.all i t ht
  obtain ⟨t0, ht0⟩ : ∃ t0, its0[i]? = some t0 := ⟨its0[i]'(by rw [← h.len]; exact (List.getElem?_eq_some_iff.1 ht).1), List.getElem?_eq_getElem _⟩
  obtain ⟨_, e2, _, e4⟩ := h.same i t t0 ht ht0
  obtain ⟨s1, s2⟩ := hs i t0 ht0
  refine ⟨e2 ▸ s1, e4 ▸ s2, a, b, ?_⟩
  rw [It.long, a] at c
  exact lies_of_own c

theorem add_Int (B base N c n cc : Nat) (H A : Option Addr) (L : List Value) (its : List It) (w : World)
    (hB : w.heap[B]? = some (.cells L.toArray 54 (0, 0))) (hL0 : L[0]? = some (.int .i64 (N : Int))) (hL : L[2]? = some (.slice H its.length c))
    (hH : w.ownsRow base 74 3 (.slice H its.length c) its.length (held its)) (hb : base ≤ w.heap.size) (hbB : base ≤ B) (hN : N ≤ 1048576) (hn : its.length ≤ 1048576) :
    Calls Tryz.prog 17 #[.pointer (some ⟨B, 0, none⟩), .slice A n cc] w fun e w' => e = .returned (.tuple #[]) ∧
      ∃ H' c', KeptIn w w' B base 54 74 L 2 N its A n cc H' c' := by
  have HC := hide (keep_Int B base N c n cc H A L its w hB hL0 hL hH hb hbB hN hn)
  clear hB hL0 hL hH
  go_enter Tryz.func17, Tryz.ntmps17
  go_wp2_with fail
  refine Calls.mono HC.out ?_
  rintro e w1 ⟨rfl, h⟩
  have HK := hide h
  clear h
  go_wp2
  go_end0
  exact ⟨rfl, HK.out⟩

theorem add_Number (B base N c n cc : Nat) (H A : Option Addr) (L : List Value) (its : List It) (w : World)
    (hB : w.heap[B]? = some (.cells L.toArray 54 (0, 0))) (hL0 : L[0]? = some (.int .i64 (N : Int))) (hL : L[3]? = some (.slice H its.length c))
    (hH : w.ownsRow base 81 3 (.slice H its.length c) its.length (held its)) (hb : base ≤ w.heap.size) (hbB : base ≤ B) (hN : N ≤ 1048576) (hn : its.length ≤ 1048576) :
    Calls Tryz.prog 31 #[.pointer (some ⟨B, 0, none⟩), .slice A n cc] w fun e w' => e = .returned (.tuple #[]) ∧
      ∃ H' c', KeptIn w w' B base 54 81 L 3 N its A n cc H' c' := by
  have HC := hide (keep_Number B base N c n cc H A L its w hB hL0 hL hH hb hbB hN hn)
  clear hB hL0 hL hH
  go_enter Tryz.func31, Tryz.ntmps31
  go_wp2_with fail
  refine Calls.mono HC.out ?_
  rintro e w1 ⟨rfl, h⟩
  have HK := hide h
  clear h
  go_wp2
  go_end0
  exact ⟨rfl, HK.out⟩

def bookCells (N : Nat) (HByte : Option Addr) (cByte : Nat) (iByte : List It) (HInt : Option Addr) (cInt : Nat) (iInt : List It) (HNumber : Option Addr) (cNumber : Nat) (iNumber : List It) : List Value := [.int .i64 (N : Int), .slice HByte iByte.length cByte, .slice HInt iInt.length cInt, .slice HNumber iNumber.length cNumber, .slice none 0 0, .slice none 0 0, .slice none 0 0, .slice none 0 0, .slice none 0 0, .slice none 0 0, .slice none 0 0, .slice none 0 0, .slice none 0 0, .slice none 0 0, .slice none 0 0, .slice none 0 0]

structure BkAt (w : World) (B base N : Nat) (HByte : Option Addr) (cByte : Nat) (iByte : List It) (HInt : Option Addr) (cInt : Nat) (iInt : List It) (HNumber : Option Addr) (cNumber : Nat) (iNumber : List It) : Prop where
  blk : w.heap[B]? = some (.cells (bookCells N HByte cByte iByte HInt cInt iInt HNumber cNumber iNumber).toArray 54 (0, 0))
  rowByte : w.ownsRow base 77 3 (.slice HByte iByte.length cByte) iByte.length (held iByte)
  listsByte : Rows1 w base 5 iByte
  manyByte : iByte.length ≤ N
  smallByte : ∀ (i : Nat) (t : It), iByte[i]? = some t → t.n ≤ 1073741824 ∧ t.m ≤ 1048576
  rowInt : w.ownsRow base 74 3 (.slice HInt iInt.length cInt) iInt.length (held iInt)
  listsInt : Rows1 w base 3 iInt
  manyInt : iInt.length ≤ N
  smallInt : ∀ (i : Nat) (t : It), iInt[i]? = some t → t.n ≤ 1073741824 ∧ t.m ≤ 1048576
  rowNumber : w.ownsRow base 81 3 (.slice HNumber iNumber.length cNumber) iNumber.length (held iNumber)
  listsNumber : Rows1 w base 21 iNumber
  manyNumber : iNumber.length ≤ N
  smallNumber : ∀ (i : Nat) (t : It), iNumber[i]? = some t → t.n ≤ 1073741824 ∧ t.m ≤ 1048576
  baseW : base ≤ w.heap.size
  baseB : base ≤ B
  few : N ≤ 1048000

theorem BkAt.addByte {w w' : World} {B base N : Nat} {HByte : Option Addr} {cByte : Nat} {iByte : List It} {HInt : Option Addr} {cInt : Nat} {iInt : List It} {HNumber : Option Addr} {cNumber : Nat} {iNumber : List It} {A H' : Option Addr} {n c c' : Nat} {xs : List Value} (h : BkAt w B base N HByte cByte iByte HInt cInt iInt HNumber cNumber iNumber)
    (hk : KeptIn w w' B base 54 77 (bookCells N HByte cByte iByte HInt cInt iInt HNumber cNumber iNumber) 1 N iByte A n c H' c') (ho : w.ownsRow base 5 1 (.slice A n c) n xs) (hn : n ≤ 1073741824) (hN : N + 1 ≤ 1048000)
    (ha : ∀ (i : Nat) (t : It), iByte[i]? = some t → (t.l.ownBlock = none ∨ t.l.ownBlock ≠ (Value.slice A n c).ownBlock) ∧ ((Value.slice A n c).ownBlock = none ∨ (Value.slice A n c).ownBlock ≠ t.l.ownBlock)) :
    BkAt w' B base (N + 1) H' c' (iByte ++ [⟨A, n, c, none, 0, 0, N + 1⟩]) HInt cInt iInt HNumber cNumber iNumber := by
  have hat : ∀ (i : Nat) (t : It), (iByte ++ [⟨A, n, c, none, 0, 0, N + 1⟩])[i]? = some t → iByte[i]? = some t ∨ (i = iByte.length ∧ t = ⟨A, n, c, none, 0, 0, N + 1⟩) := by
    intro i t ht
    by_cases hi : i < iByte.length
    · rw [List.getElem?_append_left hi] at ht; exact .inl ht
    · rw [List.getElem?_append_right (by omega)] at ht
      have h0 : i - iByte.length = 0 := by have := (List.getElem?_eq_some_iff.1 ht).1; simp at this; omega
      rw [h0] at ht
      simp at ht
      exact .inr ⟨by omega, ht.symm⟩
  have hlt : ∀ (i : Nat) (t : It), iByte[i]? = some t → i < iByte.length := fun i t ht => (List.getElem?_eq_some_iff.1 ht).1
  refine ⟨?_, ?_, ?_, ?_, ?_, hk.keep.own h.rowInt (by decide), rows1_keep h.listsInt hk.keep (by decide), Nat.le_succ_of_le h.manyInt, h.smallInt, hk.keep.own h.rowNumber (by decide), rows1_keep h.listsNumber hk.keep (by decide), Nat.le_succ_of_le h.manyNumber, h.smallNumber, Nat.le_trans h.baseW hk.keep.size, h.baseB, hN⟩
  · have hb := hk.blk
    simpa [bookCells] using hb
  · have hr := hk.row
    simpa using hr
  · refine ⟨fun i t ht => ?_, fun i j t u hij ht hu => ?_⟩
    · rcases hat i t ht with h1 | ⟨_, rfl⟩
      · obtain ⟨ys, hy⟩ := h.listsByte.own i t h1
        exact ⟨ys, hk.keep.own hy (by decide)⟩
      · exact ⟨xs, hk.keep.own ho (by decide)⟩
    · rcases hat i t ht with h1 | ⟨e1, rfl⟩
      · rcases hat j u hu with h2 | ⟨e2, rfl⟩
        · exact h.listsByte.apart i j t u hij h1 h2
        · exact (ha i t h1).1
      · rcases hat j u hu with h2 | ⟨e2, rfl⟩
        · exact (ha j u h2).2
        · omega
  · have := h.manyByte
    simp
    omega
  · intro i t ht
    rcases hat i t ht with h1 | ⟨_, rfl⟩
    · exact h.smallByte i t h1
    · exact ⟨hn, by show N + 1 ≤ 1048576; omega⟩

theorem BkAt.addInt {w w' : World} {B base N : Nat} {HByte : Option Addr} {cByte : Nat} {iByte : List It} {HInt : Option Addr} {cInt : Nat} {iInt : List It} {HNumber : Option Addr} {cNumber : Nat} {iNumber : List It} {A H' : Option Addr} {n c c' : Nat} {xs : List Value} (h : BkAt w B base N HByte cByte iByte HInt cInt iInt HNumber cNumber iNumber)
    (hk : KeptIn w w' B base 54 74 (bookCells N HByte cByte iByte HInt cInt iInt HNumber cNumber iNumber) 2 N iInt A n c H' c') (ho : w.ownsRow base 3 1 (.slice A n c) n xs) (hn : n ≤ 1073741824) (hN : N + 1 ≤ 1048000)
    (ha : ∀ (i : Nat) (t : It), iInt[i]? = some t → (t.l.ownBlock = none ∨ t.l.ownBlock ≠ (Value.slice A n c).ownBlock) ∧ ((Value.slice A n c).ownBlock = none ∨ (Value.slice A n c).ownBlock ≠ t.l.ownBlock)) :
    BkAt w' B base (N + 1) HByte cByte iByte H' c' (iInt ++ [⟨A, n, c, none, 0, 0, N + 1⟩]) HNumber cNumber iNumber := by
  have hat : ∀ (i : Nat) (t : It), (iInt ++ [⟨A, n, c, none, 0, 0, N + 1⟩])[i]? = some t → iInt[i]? = some t ∨ (i = iInt.length ∧ t = ⟨A, n, c, none, 0, 0, N + 1⟩) := by
    intro i t ht
    by_cases hi : i < iInt.length
    · rw [List.getElem?_append_left hi] at ht; exact .inl ht
    · rw [List.getElem?_append_right (by omega)] at ht
      have h0 : i - iInt.length = 0 := by have := (List.getElem?_eq_some_iff.1 ht).1; simp at this; omega
      rw [h0] at ht
      simp at ht
      exact .inr ⟨by omega, ht.symm⟩
  have hlt : ∀ (i : Nat) (t : It), iInt[i]? = some t → i < iInt.length := fun i t ht => (List.getElem?_eq_some_iff.1 ht).1
  refine ⟨?_, hk.keep.own h.rowByte (by decide), rows1_keep h.listsByte hk.keep (by decide), Nat.le_succ_of_le h.manyByte, h.smallByte, ?_, ?_, ?_, ?_, hk.keep.own h.rowNumber (by decide), rows1_keep h.listsNumber hk.keep (by decide), Nat.le_succ_of_le h.manyNumber, h.smallNumber, Nat.le_trans h.baseW hk.keep.size, h.baseB, hN⟩
  · have hb := hk.blk
    simpa [bookCells] using hb
  · have hr := hk.row
    simpa using hr
  · refine ⟨fun i t ht => ?_, fun i j t u hij ht hu => ?_⟩
    · rcases hat i t ht with h1 | ⟨_, rfl⟩
      · obtain ⟨ys, hy⟩ := h.listsInt.own i t h1
        exact ⟨ys, hk.keep.own hy (by decide)⟩
      · exact ⟨xs, hk.keep.own ho (by decide)⟩
    · rcases hat i t ht with h1 | ⟨e1, rfl⟩
      · rcases hat j u hu with h2 | ⟨e2, rfl⟩
        · exact h.listsInt.apart i j t u hij h1 h2
        · exact (ha i t h1).1
      · rcases hat j u hu with h2 | ⟨e2, rfl⟩
        · exact (ha j u h2).2
        · omega
  · have := h.manyInt
    simp
    omega
  · intro i t ht
    rcases hat i t ht with h1 | ⟨_, rfl⟩
    · exact h.smallInt i t h1
    · exact ⟨hn, by show N + 1 ≤ 1048576; omega⟩

theorem BkAt.addNumber {w w' : World} {B base N : Nat} {HByte : Option Addr} {cByte : Nat} {iByte : List It} {HInt : Option Addr} {cInt : Nat} {iInt : List It} {HNumber : Option Addr} {cNumber : Nat} {iNumber : List It} {A H' : Option Addr} {n c c' : Nat} {xs : List Value} (h : BkAt w B base N HByte cByte iByte HInt cInt iInt HNumber cNumber iNumber)
    (hk : KeptIn w w' B base 54 81 (bookCells N HByte cByte iByte HInt cInt iInt HNumber cNumber iNumber) 3 N iNumber A n c H' c') (ho : w.ownsRow base 21 1 (.slice A n c) n xs) (hn : n ≤ 1073741824) (hN : N + 1 ≤ 1048000)
    (ha : ∀ (i : Nat) (t : It), iNumber[i]? = some t → (t.l.ownBlock = none ∨ t.l.ownBlock ≠ (Value.slice A n c).ownBlock) ∧ ((Value.slice A n c).ownBlock = none ∨ (Value.slice A n c).ownBlock ≠ t.l.ownBlock)) :
    BkAt w' B base (N + 1) HByte cByte iByte HInt cInt iInt H' c' (iNumber ++ [⟨A, n, c, none, 0, 0, N + 1⟩]) := by
  have hat : ∀ (i : Nat) (t : It), (iNumber ++ [⟨A, n, c, none, 0, 0, N + 1⟩])[i]? = some t → iNumber[i]? = some t ∨ (i = iNumber.length ∧ t = ⟨A, n, c, none, 0, 0, N + 1⟩) := by
    intro i t ht
    by_cases hi : i < iNumber.length
    · rw [List.getElem?_append_left hi] at ht; exact .inl ht
    · rw [List.getElem?_append_right (by omega)] at ht
      have h0 : i - iNumber.length = 0 := by have := (List.getElem?_eq_some_iff.1 ht).1; simp at this; omega
      rw [h0] at ht
      simp at ht
      exact .inr ⟨by omega, ht.symm⟩
  have hlt : ∀ (i : Nat) (t : It), iNumber[i]? = some t → i < iNumber.length := fun i t ht => (List.getElem?_eq_some_iff.1 ht).1
  refine ⟨?_, hk.keep.own h.rowByte (by decide), rows1_keep h.listsByte hk.keep (by decide), Nat.le_succ_of_le h.manyByte, h.smallByte, hk.keep.own h.rowInt (by decide), rows1_keep h.listsInt hk.keep (by decide), Nat.le_succ_of_le h.manyInt, h.smallInt, ?_, ?_, ?_, ?_, Nat.le_trans h.baseW hk.keep.size, h.baseB, hN⟩
  · have hb := hk.blk
    simpa [bookCells] using hb
  · have hr := hk.row
    simpa using hr
  · refine ⟨fun i t ht => ?_, fun i j t u hij ht hu => ?_⟩
    · rcases hat i t ht with h1 | ⟨_, rfl⟩
      · obtain ⟨ys, hy⟩ := h.listsNumber.own i t h1
        exact ⟨ys, hk.keep.own hy (by decide)⟩
      · exact ⟨xs, hk.keep.own ho (by decide)⟩
    · rcases hat i t ht with h1 | ⟨e1, rfl⟩
      · rcases hat j u hu with h2 | ⟨e2, rfl⟩
        · exact h.listsNumber.apart i j t u hij h1 h2
        · exact (ha i t h1).1
      · rcases hat j u hu with h2 | ⟨e2, rfl⟩
        · exact (ha j u h2).2
        · omega
  · have := h.manyNumber
    simp
    omega
  · intro i t ht
    rcases hat i t ht with h1 | ⟨_, rfl⟩
    · exact h.smallNumber i t h1
    · exact ⟨hn, by show N + 1 ≤ 1048576; omega⟩

set_option maxRecDepth 100000 in
set_option maxHeartbeats 4000000 in
theorem apart_any (w : World) (B base N : Nat) (HByte : Option Addr) (cByte : Nat) (iByte : List It) (HInt : Option Addr) (cInt : Nat) (iInt : List It) (HNumber : Option Addr) (cNumber : Nat) (iNumber : List It) (h : BkAt w B base N HByte cByte iByte HInt cInt iInt HNumber cNumber iNumber) :
    Calls Tryz.prog 18 #[.pointer (some ⟨B, 0, none⟩)] w fun e w' => e = .returned (.bool true) ∧ Below base w w' := by
  have hbase := h.baseW
  have HBK0 := hide h.blk
  have HRByte0 := hide h.rowByte
  have HFByte0 := hide h.listsByte
  have HSByte := hide h.smallByte
  have hmByte : iByte.length ≤ 1048576 := by have := h.manyByte; have := h.few; omega
  have HRInt0 := hide h.rowInt
  have HFInt0 := hide h.listsInt
  have HSInt := hide h.smallInt
  have hmInt : iInt.length ≤ 1048576 := by have := h.manyInt; have := h.few; omega
  have HRNumber0 := hide h.rowNumber
  have HFNumber0 := hide h.listsNumber
  have HSNumber := hide h.smallNumber
  have hmNumber : iNumber.length ≤ 1048576 := by have := h.manyNumber; have := h.few; omega
  have HBB0 : Hid (Below base w w) := hide (Below.refl _ _)
  have hsz0 : base ≤ w.heap.size := hbase
  clear h hbase
  obtain ⟨w0, hw0⟩ : ∃ w0, w0 = w := ⟨_, rfl⟩
  have HW0 := hide hw0
  go_enter Tryz.func18, Tryz.ntmps18
  clear hw0 HW0 w0
  go_wp2_with fail
  refine (fill_Byte B base cByte HByte _ iByte _ HBK0.out rfl HRByte0.out HFByte0.out hsz0 hmByte (fun i t ht => ⟨Nat.le_trans (HSByte.out i t ht).1 (by omega), (HSByte.out i t ht).2⟩)).mono ?_
  rintro e w1 ⟨rfl, hF⟩
  have HAByte := hide HFByte0.out.apart
  have HBK1 := hide (hF.keep.blk HBK0.out (by decide))
  have HRByte1 := hide (hF.keep.own HRByte0.out (by decide))
  have HFByte1 : Hid (Full w1 base 5 mk_Byte iByte) := hide (fun i t ht => hF.done i t (List.getElem?_eq_some_iff.1 ht).1 ht)
  have HRInt1 := hide (hF.keep.own HRInt0.out (by decide))
  have HFInt1 := hide (rows1_keep HFInt0.out hF.keep (by decide))
  have HRNumber1 := hide (hF.keep.own HRNumber0.out (by decide))
  have HFNumber1 := hide (rows1_keep HFNumber0.out hF.keep (by decide))
  have HBB1 := hide (HBB0.out.trans hF.below)
  have hsz1 : base ≤ w1.heap.size := Nat.le_trans hsz0 hF.keep.size
  clear hF HRByte0 HFByte0 HRInt0 HFInt0 HRNumber0 HFNumber0 HBK0 HBB0
  go_wp2_with fail
  refine (fill_Int B base cInt HInt _ iInt _ HBK1.out rfl HRInt1.out HFInt1.out hsz1 hmInt (fun i t ht => ⟨Nat.le_trans (HSInt.out i t ht).1 (by omega), (HSInt.out i t ht).2⟩)).mono ?_
  rintro e w2 ⟨rfl, hF⟩
  have HAInt := hide HFInt1.out.apart
  have HBK2 := hide (hF.keep.blk HBK1.out (by decide))
  have HRByte2 := hide (hF.keep.own HRByte1.out (by decide))
  have HFByte2 := hide (full_keep HFByte1.out hF.keep (by decide))
  have HRInt2 := hide (hF.keep.own HRInt1.out (by decide))
  have HFInt2 : Hid (Full w2 base 3 mk_Int iInt) := hide (fun i t ht => hF.done i t (List.getElem?_eq_some_iff.1 ht).1 ht)
  have HRNumber2 := hide (hF.keep.own HRNumber1.out (by decide))
  have HFNumber2 := hide (rows1_keep HFNumber1.out hF.keep (by decide))
  have HBB2 := hide (HBB1.out.trans hF.below)
  have hsz2 : base ≤ w2.heap.size := Nat.le_trans hsz1 hF.keep.size
  clear hF HRByte1 HFByte1 HRInt1 HFInt1 HRNumber1 HFNumber1 HBK1 HBB1
  go_wp2_with fail
  refine (fill_Number B base cNumber HNumber _ iNumber _ HBK2.out rfl HRNumber2.out HFNumber2.out hsz2 hmNumber (fun i t ht => ⟨Nat.le_trans (HSNumber.out i t ht).1 (by omega), (HSNumber.out i t ht).2⟩)).mono ?_
  rintro e w3 ⟨rfl, hF⟩
  have HANumber := hide HFNumber2.out.apart
  have HBK3 := hide (hF.keep.blk HBK2.out (by decide))
  have HRByte3 := hide (hF.keep.own HRByte2.out (by decide))
  have HFByte3 := hide (full_keep HFByte2.out hF.keep (by decide))
  have HRInt3 := hide (hF.keep.own HRInt2.out (by decide))
  have HFInt3 := hide (full_keep HFInt2.out hF.keep (by decide))
  have HRNumber3 := hide (hF.keep.own HRNumber2.out (by decide))
  have HFNumber3 : Hid (Full w3 base 21 mk_Number iNumber) := hide (fun i t ht => hF.done i t (List.getElem?_eq_some_iff.1 ht).1 ht)
  have HBB3 := hide (HBB2.out.trans hF.below)
  have hsz3 : base ≤ w3.heap.size := Nat.le_trans hsz2 hF.keep.size
  clear hF HRByte2 HFByte2 HRInt2 HFInt2 HRNumber2 HFNumber2 HBK2 HBB2
  go_wp2_with fail
  refine (fill0_Id B _ (cell_blk HBK3.out 4)).mono ?_
  rintro e w' ⟨rfl, rfl⟩
  go_wp2_with fail
  refine (fill0_Text B _ (cell_blk HBK3.out 5)).mono ?_
  rintro e w' ⟨rfl, rfl⟩
  go_wp2_with fail
  refine (fill0_Tensor B _ (cell_blk HBK3.out 6)).mono ?_
  rintro e w' ⟨rfl, rfl⟩
  go_wp2_with fail
  refine (fill0_Node B _ (cell_blk HBK3.out 7)).mono ?_
  rintro e w' ⟨rfl, rfl⟩
  go_wp2_with fail
  refine (fill0_Step B _ (cell_blk HBK3.out 8)).mono ?_
  rintro e w' ⟨rfl, rfl⟩
  go_wp2_with fail
  refine (fill0_Cost B _ (cell_blk HBK3.out 9)).mono ?_
  rintro e w' ⟨rfl, rfl⟩
  go_wp2_with fail
  refine (fill0_Record B _ (cell_blk HBK3.out 10)).mono ?_
  rintro e w' ⟨rfl, rfl⟩
  go_wp2_with fail
  refine (fill0_Place B _ (cell_blk HBK3.out 11)).mono ?_
  rintro e w' ⟨rfl, rfl⟩
  go_wp2_with fail
  refine (fill0_Ask B _ (cell_blk HBK3.out 12)).mono ?_
  rintro e w' ⟨rfl, rfl⟩
  go_wp2_with fail
  refine (fill0_Done B _ (cell_blk HBK3.out 13)).mono ?_
  rintro e w' ⟨rfl, rfl⟩
  go_wp2_with fail
  refine (fill0_Grid B _ (cell_blk HBK3.out 14)).mono ?_
  rintro e w' ⟨rfl, rfl⟩
  go_wp2_with fail
  refine (fill0_List B _ (cell_blk HBK3.out 15)).mono ?_
  rintro e w' ⟨rfl, rfl⟩
  go_wp2_with fail
  refine (grow_Byte B base cByte HByte _ iByte _ HBK3.out rfl (GrowTo.start (by decide) HRByte3.out HFByte3.out HAByte.out) hsz3 hmByte HSByte.out).mono ?_
  rintro e w4 ⟨rfl, jByte, hF⟩
  have HBK4 := hide (hF.keep.blk HBK3.out (by decide))
  have HRByte4 := hide hF.row
  have HFByte4 := hide (Long.of hF)
  have HRInt4 := hide (hF.keep.own HRInt3.out (by decide))
  have HFInt4 := hide (full_keep HFInt3.out hF.keep (by decide))
  have HRNumber4 := hide (hF.keep.own HRNumber3.out (by decide))
  have HFNumber4 := hide (full_keep HFNumber3.out hF.keep (by decide))
  have HBB4 := hide (HBB3.out.trans hF.below)
  have hsz4 : base ≤ w4.heap.size := Nat.le_trans hsz3 hF.keep.size
  clear hF HRByte3 HFByte3 HRInt3 HFInt3 HRNumber3 HFNumber3 HBK3 HBB3
  go_wp2_with fail
  refine (grow_Int B base cInt HInt _ iInt _ HBK4.out rfl (GrowTo.start (by decide) HRInt4.out HFInt4.out HAInt.out) hsz4 hmInt HSInt.out).mono ?_
  rintro e w5 ⟨rfl, jInt, hF⟩
  have HBK5 := hide (hF.keep.blk HBK4.out (by decide))
  have HRByte5 := hide (hF.keep.own HRByte4.out (by decide))
  have HFByte5 := hide (long_keep HFByte4.out hF.keep (by decide))
  have HRInt5 := hide hF.row
  have HFInt5 := hide (Long.of hF)
  have HRNumber5 := hide (hF.keep.own HRNumber4.out (by decide))
  have HFNumber5 := hide (full_keep HFNumber4.out hF.keep (by decide))
  have HBB5 := hide (HBB4.out.trans hF.below)
  have hsz5 : base ≤ w5.heap.size := Nat.le_trans hsz4 hF.keep.size
  clear hF HRByte4 HFByte4 HRInt4 HFInt4 HRNumber4 HFNumber4 HBK4 HBB4
  go_wp2_with fail
  refine (grow_Number B base cNumber HNumber _ iNumber _ HBK5.out rfl (GrowTo.start (by decide) HRNumber5.out HFNumber5.out HANumber.out) hsz5 hmNumber HSNumber.out).mono ?_
  rintro e w6 ⟨rfl, jNumber, hF⟩
  have HBK6 := hide (hF.keep.blk HBK5.out (by decide))
  have HRByte6 := hide (hF.keep.own HRByte5.out (by decide))
  have HFByte6 := hide (long_keep HFByte5.out hF.keep (by decide))
  have HRInt6 := hide (hF.keep.own HRInt5.out (by decide))
  have HFInt6 := hide (long_keep HFInt5.out hF.keep (by decide))
  have HRNumber6 := hide hF.row
  have HFNumber6 := hide (Long.of hF)
  have HBB6 := hide (HBB5.out.trans hF.below)
  have hsz6 : base ≤ w6.heap.size := Nat.le_trans hsz5 hF.keep.size
  clear hF HRByte5 HFByte5 HRInt5 HFInt5 HRNumber5 HFNumber5 HBK5 HBB5
  go_wp2_with fail
  refine (grow0_Id B _ (cell_blk HBK6.out 4)).mono ?_
  rintro e w' ⟨rfl, rfl⟩
  go_wp2_with fail
  refine (grow0_Text B _ (cell_blk HBK6.out 5)).mono ?_
  rintro e w' ⟨rfl, rfl⟩
  go_wp2_with fail
  refine (grow0_Tensor B _ (cell_blk HBK6.out 6)).mono ?_
  rintro e w' ⟨rfl, rfl⟩
  go_wp2_with fail
  refine (grow0_Node B _ (cell_blk HBK6.out 7)).mono ?_
  rintro e w' ⟨rfl, rfl⟩
  go_wp2_with fail
  refine (grow0_Step B _ (cell_blk HBK6.out 8)).mono ?_
  rintro e w' ⟨rfl, rfl⟩
  go_wp2_with fail
  refine (grow0_Cost B _ (cell_blk HBK6.out 9)).mono ?_
  rintro e w' ⟨rfl, rfl⟩
  go_wp2_with fail
  refine (grow0_Record B _ (cell_blk HBK6.out 10)).mono ?_
  rintro e w' ⟨rfl, rfl⟩
  go_wp2_with fail
  refine (grow0_Place B _ (cell_blk HBK6.out 11)).mono ?_
  rintro e w' ⟨rfl, rfl⟩
  go_wp2_with fail
  refine (grow0_Ask B _ (cell_blk HBK6.out 12)).mono ?_
  rintro e w' ⟨rfl, rfl⟩
  go_wp2_with fail
  refine (grow0_Done B _ (cell_blk HBK6.out 13)).mono ?_
  rintro e w' ⟨rfl, rfl⟩
  go_wp2_with fail
  refine (grow0_Grid B _ (cell_blk HBK6.out 14)).mono ?_
  rintro e w' ⟨rfl, rfl⟩
  go_wp2_with fail
  refine (grow0_List B _ (cell_blk HBK6.out 15)).mono ?_
  rintro e w' ⟨rfl, rfl⟩
  go_wp2_with fail
  refine (look_Byte B base cByte HByte _ jByte _ HBK6.out (by rw [HFByte6.out.len]; rfl) HRByte6.out (by rw [HFByte6.out.len]; exact hmByte) (long_look HFByte6.out HSByte.out)).mono ?_
  rintro e w7 ⟨rfl, hF⟩
  have hkT : KeepT [] w6 w7 := KeepT.below hF
  have HBK7 := hide (hkT.blk HBK6.out (by decide))
  have HRByte7 := hide (hkT.own HRByte6.out (by decide))
  have HFByte7 := hide (long_keep HFByte6.out hkT (by decide))
  have HRInt7 := hide (hkT.own HRInt6.out (by decide))
  have HFInt7 := hide (long_keep HFInt6.out hkT (by decide))
  have HRNumber7 := hide (hkT.own HRNumber6.out (by decide))
  have HFNumber7 := hide (long_keep HFNumber6.out hkT (by decide))
  have HBB7 := hide (HBB6.out.trans (hF.mono hsz6))
  have hsz7 : base ≤ w7.heap.size := Nat.le_trans hsz6 hF.size
  clear hF hkT HRByte6 HFByte6 HRInt6 HFInt6 HRNumber6 HFNumber6 HBK6 HBB6
  go_wp2_with fail
  refine (look_Int B base cInt HInt _ jInt _ HBK7.out (by rw [HFInt7.out.len]; rfl) HRInt7.out (by rw [HFInt7.out.len]; exact hmInt) (long_look HFInt7.out HSInt.out)).mono ?_
  rintro e w8 ⟨rfl, hF⟩
  have hkT : KeepT [] w7 w8 := KeepT.below hF
  have HBK8 := hide (hkT.blk HBK7.out (by decide))
  have HRByte8 := hide (hkT.own HRByte7.out (by decide))
  have HFByte8 := hide (long_keep HFByte7.out hkT (by decide))
  have HRInt8 := hide (hkT.own HRInt7.out (by decide))
  have HFInt8 := hide (long_keep HFInt7.out hkT (by decide))
  have HRNumber8 := hide (hkT.own HRNumber7.out (by decide))
  have HFNumber8 := hide (long_keep HFNumber7.out hkT (by decide))
  have HBB8 := hide (HBB7.out.trans (hF.mono hsz7))
  have hsz8 : base ≤ w8.heap.size := Nat.le_trans hsz7 hF.size
  clear hF hkT HRByte7 HFByte7 HRInt7 HFInt7 HRNumber7 HFNumber7 HBK7 HBB7
  go_wp2_with fail
  refine (look_Number B base cNumber HNumber _ jNumber _ HBK8.out (by rw [HFNumber8.out.len]; rfl) HRNumber8.out (by rw [HFNumber8.out.len]; exact hmNumber) (long_look HFNumber8.out HSNumber.out)).mono ?_
  rintro e w9 ⟨rfl, hF⟩
  have hkT : KeepT [] w8 w9 := KeepT.below hF
  have HBK9 := hide (hkT.blk HBK8.out (by decide))
  have HRByte9 := hide (hkT.own HRByte8.out (by decide))
  have HFByte9 := hide (long_keep HFByte8.out hkT (by decide))
  have HRInt9 := hide (hkT.own HRInt8.out (by decide))
  have HFInt9 := hide (long_keep HFInt8.out hkT (by decide))
  have HRNumber9 := hide (hkT.own HRNumber8.out (by decide))
  have HFNumber9 := hide (long_keep HFNumber8.out hkT (by decide))
  have HBB9 := hide (HBB8.out.trans (hF.mono hsz8))
  have hsz9 : base ≤ w9.heap.size := Nat.le_trans hsz8 hF.size
  clear hF hkT HRByte8 HFByte8 HRInt8 HFInt8 HRNumber8 HFNumber8 HBK8 HBB8
  go_wp2_with fail
  refine (look0_Id B _ (cell_blk HBK9.out 4)).mono ?_
  rintro e w' ⟨rfl, rfl⟩
  go_wp2_with fail
  refine (look0_Text B _ (cell_blk HBK9.out 5)).mono ?_
  rintro e w' ⟨rfl, rfl⟩
  go_wp2_with fail
  refine (look0_Tensor B _ (cell_blk HBK9.out 6)).mono ?_
  rintro e w' ⟨rfl, rfl⟩
  go_wp2_with fail
  refine (look0_Node B _ (cell_blk HBK9.out 7)).mono ?_
  rintro e w' ⟨rfl, rfl⟩
  go_wp2_with fail
  refine (look0_Step B _ (cell_blk HBK9.out 8)).mono ?_
  rintro e w' ⟨rfl, rfl⟩
  go_wp2_with fail
  refine (look0_Cost B _ (cell_blk HBK9.out 9)).mono ?_
  rintro e w' ⟨rfl, rfl⟩
  go_wp2_with fail
  refine (look0_Record B _ (cell_blk HBK9.out 10)).mono ?_
  rintro e w' ⟨rfl, rfl⟩
  go_wp2_with fail
  refine (look0_Place B _ (cell_blk HBK9.out 11)).mono ?_
  rintro e w' ⟨rfl, rfl⟩
  go_wp2_with fail
  refine (look0_Ask B _ (cell_blk HBK9.out 12)).mono ?_
  rintro e w' ⟨rfl, rfl⟩
  go_wp2_with fail
  refine (look0_Done B _ (cell_blk HBK9.out 13)).mono ?_
  rintro e w' ⟨rfl, rfl⟩
  go_wp2_with fail
  refine (look0_Grid B _ (cell_blk HBK9.out 14)).mono ?_
  rintro e w' ⟨rfl, rfl⟩
  go_wp2_with fail
  refine (look0_List B _ (cell_blk HBK9.out 15)).mono ?_
  rintro e w' ⟨rfl, rfl⟩
  go_wp2
  go_ret
  exact ⟨rfl, HBB9.out⟩

end Go.Proofs.YtlalfjlcgabnnaaGreatDoor
