/- The contract of the book's Apart: lists in rows of the call's own, no two in one, are found apart. -/
import Derived.Test.YtapdaeafeejknaaGreatDoorLookR
import Derived.Test.YtapdaeafeejknaaGreatDoorKeepR
import Derived.Test.YtapdaeafeejknaaGreatDoorNone
namespace Go.Proofs.YtapdaeafeejknaaGreatDoor
open Go.RowKit

theorem rowsR_keep {T E : List TypeId} {w w' : World} {base : Nat} {e : TypeId} {its : List It} (h : RowsR w base e E its) (hk : KeepT T w w') (he : ∀ t ∈ E, t ∉ T) : RowsR w' base e E its :=
  ⟨fun i t ht => by obtain ⟨xs, hx⟩ := h.own i t ht; exact ⟨xs, hk.rw hx he⟩, h.apart⟩
/-- Each list that is held is full of its mark. -/
def FullR (w : World) (base : Nat) (e : TypeId) (E : List TypeId) (mk : Nat → Value) (its : List It) : Prop := ∀ (i : Nat) (t : It), its[i]? = some t → Rw w base e E t.l t.n (List.replicate t.n (mk t.m))
theorem fullR_keep {T E : List TypeId} {w w' : World} {base : Nat} {e : TypeId} {mk : Nat → Value} {its : List It} (h : FullR w base e E mk its) (hk : KeepT T w w') (he : ∀ t ∈ E, t ∉ T) : FullR w' base e E mk its :=
  fun i t ht => hk.rw (h i t ht) he
/-- Each list that is held, and the longer one behind it, are full of their mark. -/
structure LongR (w : World) (base : Nat) (e : TypeId) (E : List TypeId) (mk : Nat → Value) (its0 its : List It) : Prop where
  len : its.length = its0.length
  all : ∀ (i : Nat) (t : It), its[i]? = some t → t.n2 = t.n + 40 ∧ Lies w t.A t.n (List.replicate t.n (mk t.m)) ∧ Rw w base e E t.long (t.n + 40) (List.replicate (t.n + 40) (mk t.m)) ∧ ∀ g, t.l.ownBlock = some g → ∃ cur tt, tt ∈ E ∧ w.heap[g]? = some (.cells cur tt (0, 0))
  same : ∀ (i : Nat) (t t0 : It), its[i]? = some t → its0[i]? = some t0 → t.A = t0.A ∧ t.n = t0.n ∧ t.c = t0.c ∧ t.m = t0.m
theorem LongR.of {w wr : World} {base : Nat} {e hT : TypeId} {E : List TypeId} {mk : Nat → Value} {H : Option Addr} {c : Nat} {its0 its : List It} (h : GrowToR w wr base e hT E mk H c its0 its its.length) : LongR wr base e E mk its0 its :=
  ⟨h.len, fun i t ht => by
    obtain ⟨a, b, c, _, d⟩ := h.done i t (List.getElem?_eq_some_iff.1 ht).1 ht
    exact ⟨a, b, c, d⟩, h.same⟩
theorem longR_keep {T E : List TypeId} {w w' : World} {base : Nat} {e : TypeId} {mk : Nat → Value} {its0 its : List It} (h : LongR w base e E mk its0 its) (hk : KeepT T w w') (he : ∀ t ∈ E, t ∉ T) : LongR w' base e E mk its0 its :=
  ⟨h.len, fun i t ht => by
    obtain ⟨a, b, c, d⟩ := h.all i t ht
    refine ⟨a, b.keepR (c := t.c) hk d he, hk.rw c he, fun g hg => ?_⟩
    obtain ⟨cur, tt, htt, hc⟩ := d g hg
    exact ⟨cur, tt, htt, hk.blk hc (he tt htt)⟩, h.same⟩
theorem longR_look {w : World} {base : Nat} {e : TypeId} {E : List TypeId} {mk : Nat → Value} {its0 its : List It} (h : LongR w base e E mk its0 its) (hs : ∀ (i : Nat) (t : It), its0[i]? = some t → t.n ≤ 1073741824 ∧ t.m ≤ 1048576) :
    ∀ (i : Nat) (t : It), its[i]? = some t → t.n ≤ 1073741824 ∧ t.m ≤ 1048576 ∧ t.n2 = t.n + 40 ∧ Lies w t.A t.n (List.replicate t.n (mk t.m)) ∧ Lies w t.A2 (t.n + 40) (List.replicate (t.n + 40) (mk t.m)) := by
  intro i t ht
  obtain ⟨a, b, c, _⟩ := h.all i t ht
  obtain ⟨t0, ht0⟩ : ∃ t0, its0[i]? = some t0 := ⟨its0[i]'(by rw [← h.len]; exact (List.getElem?_eq_some_iff.1 ht).1), List.getElem?_eq_getElem _⟩
  obtain ⟨_, e2, _, e4⟩ := h.same i t t0 ht ht0
  obtain ⟨s1, s2⟩ := hs i t0 ht0
  refine ⟨e2 ▸ s1, e4 ▸ s2, a, b, ?_⟩
  rw [It.long, a] at c
  exact c.lies

theorem add_Byte (B base N c n cc : Nat) (H A : Option Addr) (L : List Value) (its : List It) (w : World)
    (hB : w.heap[B]? = some (.cells L.toArray 47 (0, 0))) (hL0 : L[0]? = some (.int .i64 (N : Int))) (hL : L[1]? = some (.slice H its.length c))
    (hH : w.ownsRow base 95 3 (.slice H its.length c) its.length (held its)) (hb : base ≤ w.heap.size) (hbB : base ≤ B) (hN : N ≤ 1048576) (hn : its.length ≤ 1048576) :
    Calls Tryz.prog 26 #[.pointer (some ⟨B, 0, none⟩), .slice A n cc] w fun e w' => e = .returned (.tuple #[]) ∧
      ∃ H' c', KeptIn w w' B base 47 95 L 1 N its A n cc H' c' := by
  have HC := hide (keep_Byte B base N c n cc H A L its w hB hL0 hL hH hb hbB hN hn)
  clear hB hL0 hL hH
  go_enter Tryz.func26, Tryz.ntmps26
  go_wp2_with fail
  refine Calls.mono HC.out ?_
  rintro e w1 ⟨rfl, h⟩
  have HK := hide h
  clear h
  go_wp2
  go_end0
  exact ⟨rfl, HK.out⟩

def bookCells (N : Nat) (HByte : Option Addr) (cByte : Nat) (iByte : List It) : List Value := [.int .i64 (N : Int), .slice HByte iByte.length cByte, .slice none 0 0, .slice none 0 0, .slice none 0 0, .slice none 0 0, .slice none 0 0, .slice none 0 0, .slice none 0 0, .slice none 0 0, .slice none 0 0, .slice none 0 0, .slice none 0 0, .slice none 0 0, .slice none 0 0, .slice none 0 0]
structure BkAt (w : World) (B base N : Nat) (HByte : Option Addr) (cByte : Nat) (iByte : List It) : Prop where
  blk : w.heap[B]? = some (.cells (bookCells N HByte cByte iByte).toArray 47 (0, 0))
  rowByte : w.ownsRow base 95 3 (.slice HByte iByte.length cByte) iByte.length (held iByte)
  listsByte : RowsR w base 5 ES iByte
  manyByte : iByte.length ≤ N
  smallByte : ∀ (i : Nat) (t : It), iByte[i]? = some t → t.n ≤ 1073741824 ∧ t.m ≤ 1048576
  baseW : base ≤ w.heap.size
  baseB : base ≤ B
  few : N ≤ 1048000
theorem BkAt.addByte {w w' : World} {B base N : Nat} {HByte : Option Addr} {cByte : Nat} {iByte : List It} {A H' : Option Addr} {n c c' : Nat} {xs : List Value} (h : BkAt w B base N HByte cByte iByte)
    (hk : KeptIn w w' B base 47 95 (bookCells N HByte cByte iByte) 1 N iByte A n c H' c') (ho : Rw w base 5 ES (.slice A n c) n xs) (hn : n ≤ 1073741824) (hN : N + 1 ≤ 1048000)
    (ha : ∀ (i : Nat) (t : It), iByte[i]? = some t → (t.l.ownBlock = none ∨ t.l.ownBlock ≠ (Value.slice A n c).ownBlock) ∧ ((Value.slice A n c).ownBlock = none ∨ (Value.slice A n c).ownBlock ≠ t.l.ownBlock)) :
    BkAt w' B base (N + 1) H' c' (iByte ++ [⟨A, n, c, none, 0, 0, N + 1⟩]) := by
  have hat : ∀ (i : Nat) (t : It), (iByte ++ [⟨A, n, c, none, 0, 0, N + 1⟩])[i]? = some t → iByte[i]? = some t ∨ (i = iByte.length ∧ t = ⟨A, n, c, none, 0, 0, N + 1⟩) := by
    intro i t ht
    by_cases hi : i < iByte.length
    · rw [List.getElem?_append_left hi] at ht; exact .inl ht
    · rw [List.getElem?_append_right (by omega)] at ht
      have h0 : i - iByte.length = 0 := by have := (List.getElem?_eq_some_iff.1 ht).1; simp at this; omega
      rw [h0] at ht
      simp at ht
      exact .inr ⟨by omega, ht.symm⟩
  have hlt : ∀ (i : Nat) (t : It), iByte[i]? = some t → i < iByte.length := fun i t ht => (List.getElem?_eq_some_iff.1 ht).1
  refine ⟨?_, ?_, ?_, ?_, ?_, Nat.le_trans h.baseW hk.keep.size, h.baseB, hN⟩
  · have hb := hk.blk
    simpa [bookCells] using hb
  · have hr := hk.row
    simpa using hr
  · refine ⟨fun i t ht => ?_, fun i j t u hij ht hu => ?_⟩
    · rcases hat i t ht with h1 | ⟨_, rfl⟩
      · obtain ⟨ys, hy⟩ := h.listsByte.own i t h1
        exact ⟨ys, hk.keep.rw hy (by decide)⟩
      · exact ⟨xs, hk.keep.rw ho (by decide)⟩
    · rcases hat i t ht with h1 | ⟨e1, rfl⟩
      · rcases hat j u hu with h2 | ⟨e2, rfl⟩
        · exact h.listsByte.apart i j t u hij h1 h2
        · exact (ha i t h1).1
      · rcases hat j u hu with h2 | ⟨e2, rfl⟩
        · exact (ha j u h2).2
        · omega
  · have := h.manyByte
    simp
    omega
  · intro i t ht
    rcases hat i t ht with h1 | ⟨_, rfl⟩
    · exact h.smallByte i t h1
    · exact ⟨hn, by show N + 1 ≤ 1048576; omega⟩

set_option maxRecDepth 100000 in
set_option maxHeartbeats 4000000 in
theorem apart_any (w : World) (B base N : Nat) (HByte : Option Addr) (cByte : Nat) (iByte : List It) (h : BkAt w B base N HByte cByte iByte) :
    Calls Tryz.prog 27 #[.pointer (some ⟨B, 0, none⟩)] w fun e w' => e = .returned (.bool true) ∧ Below base w w' := by
  have hbase := h.baseW
  have HBK0 := hide h.blk
  have HRByte0 := hide h.rowByte
  have HFByte0 := hide h.listsByte
  have HSByte := hide h.smallByte
  have hmByte : iByte.length ≤ 1048576 := by have := h.manyByte; have := h.few; omega
  have HBB0 : Hid (Below base w w) := hide (Below.refl _ _)
  have hsz0 : base ≤ w.heap.size := hbase
  clear h hbase
  obtain ⟨w0, hw0⟩ : ∃ w0, w0 = w := ⟨_, rfl⟩
  have HW0 := hide hw0
  go_enter Tryz.func27, Tryz.ntmps27
  clear hw0 HW0 w0
  go_wp2_with fail
  refine (fill_Byte B base cByte HByte _ iByte _ HBK0.out rfl HRByte0.out HFByte0.out hsz0 hmByte (fun i t ht => ⟨Nat.le_trans (HSByte.out i t ht).1 (by omega), (HSByte.out i t ht).2⟩)).mono ?_
  rintro e w1 ⟨rfl, hF⟩
  have HAByte := hide HFByte0.out.apart
  have HBK1 := hide (hF.keep.blk HBK0.out (by decide))
  have HRByte1 := hide (hF.keep.own HRByte0.out (by decide))
  have HFByte1 : Hid (FullR w1 base 5 ES mk_Byte iByte) := hide (fun i t ht => hF.done i t (List.getElem?_eq_some_iff.1 ht).1 ht)
  have HBB1 := hide (HBB0.out.trans hF.below)
  have hsz1 : base ≤ w1.heap.size := Nat.le_trans hsz0 hF.keep.size
  clear hF HRByte0 HFByte0 HBK0 HBB0
  go_wp2_with fail
  refine (fill0_Int B _ (cell_blk HBK1.out 2)).mono ?_
  rintro e w' ⟨rfl, rfl⟩
  go_wp2_with fail
  refine (fill0_Number B _ (cell_blk HBK1.out 3)).mono ?_
  rintro e w' ⟨rfl, rfl⟩
  go_wp2_with fail
  refine (fill0_Id B _ (cell_blk HBK1.out 4)).mono ?_
  rintro e w' ⟨rfl, rfl⟩
  go_wp2_with fail
  refine (fill0_Text B _ (cell_blk HBK1.out 5)).mono ?_
  rintro e w' ⟨rfl, rfl⟩
  go_wp2_with fail
  refine (fill0_Tensor B _ (cell_blk HBK1.out 6)).mono ?_
  rintro e w' ⟨rfl, rfl⟩
  go_wp2_with fail
  refine (fill0_Node B _ (cell_blk HBK1.out 7)).mono ?_
  rintro e w' ⟨rfl, rfl⟩
  go_wp2_with fail
  refine (fill0_Step B _ (cell_blk HBK1.out 8)).mono ?_
  rintro e w' ⟨rfl, rfl⟩
  go_wp2_with fail
  refine (fill0_Cost B _ (cell_blk HBK1.out 9)).mono ?_
  rintro e w' ⟨rfl, rfl⟩
  go_wp2_with fail
  refine (fill0_Record B _ (cell_blk HBK1.out 10)).mono ?_
  rintro e w' ⟨rfl, rfl⟩
  go_wp2_with fail
  refine (fill0_Place B _ (cell_blk HBK1.out 11)).mono ?_
  rintro e w' ⟨rfl, rfl⟩
  go_wp2_with fail
  refine (fill0_Ask B _ (cell_blk HBK1.out 12)).mono ?_
  rintro e w' ⟨rfl, rfl⟩
  go_wp2_with fail
  refine (fill0_Done B _ (cell_blk HBK1.out 13)).mono ?_
  rintro e w' ⟨rfl, rfl⟩
  go_wp2_with fail
  refine (fill0_Grid B _ (cell_blk HBK1.out 14)).mono ?_
  rintro e w' ⟨rfl, rfl⟩
  go_wp2_with fail
  refine (fill0_List B _ (cell_blk HBK1.out 15)).mono ?_
  rintro e w' ⟨rfl, rfl⟩
  go_wp2_with fail
  refine (grow_Byte B base cByte HByte _ iByte _ HBK1.out rfl (GrowToR.start (by decide) HRByte1.out HFByte1.out HAByte.out) hsz1 hmByte HSByte.out).mono ?_
  rintro e w2 ⟨rfl, jByte, hF⟩
  have HBK2 := hide (hF.keep.blk HBK1.out (by decide))
  have HRByte2 := hide hF.row
  have HFByte2 := hide (LongR.of hF)
  have HBB2 := hide (HBB1.out.trans hF.below)
  have hsz2 : base ≤ w2.heap.size := Nat.le_trans hsz1 hF.keep.size
  clear hF HRByte1 HFByte1 HBK1 HBB1
  go_wp2_with fail
  refine (grow0_Int B _ (cell_blk HBK2.out 2)).mono ?_
  rintro e w' ⟨rfl, rfl⟩
  go_wp2_with fail
  refine (grow0_Number B _ (cell_blk HBK2.out 3)).mono ?_
  rintro e w' ⟨rfl, rfl⟩
  go_wp2_with fail
  refine (grow0_Id B _ (cell_blk HBK2.out 4)).mono ?_
  rintro e w' ⟨rfl, rfl⟩
  go_wp2_with fail
  refine (grow0_Text B _ (cell_blk HBK2.out 5)).mono ?_
  rintro e w' ⟨rfl, rfl⟩
  go_wp2_with fail
  refine (grow0_Tensor B _ (cell_blk HBK2.out 6)).mono ?_
  rintro e w' ⟨rfl, rfl⟩
  go_wp2_with fail
  refine (grow0_Node B _ (cell_blk HBK2.out 7)).mono ?_
  rintro e w' ⟨rfl, rfl⟩
  go_wp2_with fail
  refine (grow0_Step B _ (cell_blk HBK2.out 8)).mono ?_
  rintro e w' ⟨rfl, rfl⟩
  go_wp2_with fail
  refine (grow0_Cost B _ (cell_blk HBK2.out 9)).mono ?_
  rintro e w' ⟨rfl, rfl⟩
  go_wp2_with fail
  refine (grow0_Record B _ (cell_blk HBK2.out 10)).mono ?_
  rintro e w' ⟨rfl, rfl⟩
  go_wp2_with fail
  refine (grow0_Place B _ (cell_blk HBK2.out 11)).mono ?_
  rintro e w' ⟨rfl, rfl⟩
  go_wp2_with fail
  refine (grow0_Ask B _ (cell_blk HBK2.out 12)).mono ?_
  rintro e w' ⟨rfl, rfl⟩
  go_wp2_with fail
  refine (grow0_Done B _ (cell_blk HBK2.out 13)).mono ?_
  rintro e w' ⟨rfl, rfl⟩
  go_wp2_with fail
  refine (grow0_Grid B _ (cell_blk HBK2.out 14)).mono ?_
  rintro e w' ⟨rfl, rfl⟩
  go_wp2_with fail
  refine (grow0_List B _ (cell_blk HBK2.out 15)).mono ?_
  rintro e w' ⟨rfl, rfl⟩
  go_wp2_with fail
  refine (look_Byte B base cByte HByte _ jByte _ HBK2.out (by rw [HFByte2.out.len]; rfl) HRByte2.out (by rw [HFByte2.out.len]; exact hmByte) (longR_look HFByte2.out HSByte.out)).mono ?_
  rintro e w3 ⟨rfl, hF⟩
  have hkT : KeepT [] w2 w3 := KeepT.below hF
  have HBK3 := hide (hkT.blk HBK2.out (by decide))
  have HRByte3 := hide (hkT.own HRByte2.out (by decide))
  have HFByte3 := hide (longR_keep HFByte2.out hkT (by decide))
  have HBB3 := hide (HBB2.out.trans (hF.mono hsz2))
  have hsz3 : base ≤ w3.heap.size := Nat.le_trans hsz2 hF.size
  clear hF hkT HRByte2 HFByte2 HBK2 HBB2
  go_wp2_with fail
  refine (look0_Int B _ (cell_blk HBK3.out 2)).mono ?_
  rintro e w' ⟨rfl, rfl⟩
  go_wp2_with fail
  refine (look0_Number B _ (cell_blk HBK3.out 3)).mono ?_
  rintro e w' ⟨rfl, rfl⟩
  go_wp2_with fail
  refine (look0_Id B _ (cell_blk HBK3.out 4)).mono ?_
  rintro e w' ⟨rfl, rfl⟩
  go_wp2_with fail
  refine (look0_Text B _ (cell_blk HBK3.out 5)).mono ?_
  rintro e w' ⟨rfl, rfl⟩
  go_wp2_with fail
  refine (look0_Tensor B _ (cell_blk HBK3.out 6)).mono ?_
  rintro e w' ⟨rfl, rfl⟩
  go_wp2_with fail
  refine (look0_Node B _ (cell_blk HBK3.out 7)).mono ?_
  rintro e w' ⟨rfl, rfl⟩
  go_wp2_with fail
  refine (look0_Step B _ (cell_blk HBK3.out 8)).mono ?_
  rintro e w' ⟨rfl, rfl⟩
  go_wp2_with fail
  refine (look0_Cost B _ (cell_blk HBK3.out 9)).mono ?_
  rintro e w' ⟨rfl, rfl⟩
  go_wp2_with fail
  refine (look0_Record B _ (cell_blk HBK3.out 10)).mono ?_
  rintro e w' ⟨rfl, rfl⟩
  go_wp2_with fail
  refine (look0_Place B _ (cell_blk HBK3.out 11)).mono ?_
  rintro e w' ⟨rfl, rfl⟩
  go_wp2_with fail
  refine (look0_Ask B _ (cell_blk HBK3.out 12)).mono ?_
  rintro e w' ⟨rfl, rfl⟩
  go_wp2_with fail
  refine (look0_Done B _ (cell_blk HBK3.out 13)).mono ?_
  rintro e w' ⟨rfl, rfl⟩
  go_wp2_with fail
  refine (look0_Grid B _ (cell_blk HBK3.out 14)).mono ?_
  rintro e w' ⟨rfl, rfl⟩
  go_wp2_with fail
  refine (look0_List B _ (cell_blk HBK3.out 15)).mono ?_
  rintro e w' ⟨rfl, rfl⟩
  go_wp2
  go_ret
  exact ⟨rfl, HBB3.out⟩
end Go.Proofs.YtapdaeafeejknaaGreatDoor

