/- The contract of the book's Apart: lists in rows of the call's own, no two in one, are found apart. -/
import Derived.Test.YtlkldodkoeaedaaGreatDoorLook
import Derived.Test.YtlkldodkoeaedaaGreatDoorKeep
import Derived.Test.YtlkldodkoeaedaaGreatDoorNone
namespace Go.Proofs.YtlkldodkoeaedaaGreatDoor
open Go.RowKit

theorem rows1_keep {T : List TypeId} {w w' : World} {base : Nat} {e : TypeId} {its : List It} (h : Rows1 w base e its) (hk : KeepT T w w') (he : e ∉ T) : Rows1 w' base e its :=
  ⟨fun i t ht => by obtain ⟨xs, hx⟩ := h.own i t ht; exact ⟨xs, hk.own hx he⟩, h.apart⟩
/-- Each list that is held is full of its mark. -/
def Full (w : World) (base : Nat) (e : TypeId) (mk : Nat → Value) (its : List It) : Prop := ∀ (i : Nat) (t : It), its[i]? = some t → w.ownsRow base e 1 t.l t.n (List.replicate t.n (mk t.m))
theorem full_keep {T : List TypeId} {w w' : World} {base : Nat} {e : TypeId} {mk : Nat → Value} {its : List It} (h : Full w base e mk its) (hk : KeepT T w w') (he : e ∉ T) : Full w' base e mk its :=
  fun i t ht => hk.own (h i t ht) he
/-- Each list that is held, and the longer one behind it, are full of their mark. -/
structure Long (w : World) (base : Nat) (e : TypeId) (mk : Nat → Value) (its0 its : List It) : Prop where
  len : its.length = its0.length
  all : ∀ (i : Nat) (t : It), its[i]? = some t → t.n2 = t.n + 40 ∧ Lies w t.A t.n (List.replicate t.n (mk t.m)) ∧ w.ownsRow base e 1 t.long (t.n + 40) (List.replicate (t.n + 40) (mk t.m)) ∧ ∀ g, t.l.ownBlock = some g → ∃ cur, w.heap[g]? = some (.cells cur e (0, 0))
  same : ∀ (i : Nat) (t t0 : It), its[i]? = some t → its0[i]? = some t0 → t.A = t0.A ∧ t.n = t0.n ∧ t.c = t0.c ∧ t.m = t0.m
theorem Long.of {w wr : World} {base : Nat} {e hT : TypeId} {mk : Nat → Value} {H : Option Addr} {c : Nat} {its0 its : List It} (h : GrowTo w wr base e hT mk H c its0 its its.length) : Long wr base e mk its0 its :=
  ⟨h.len, fun i t ht => by
    obtain ⟨a, b, c, _, d⟩ := h.done i t (List.getElem?_eq_some_iff.1 ht).1 ht
    exact ⟨a, b, c, d⟩, h.same⟩
theorem long_keep {T : List TypeId} {w w' : World} {base : Nat} {e : TypeId} {mk : Nat → Value} {its0 its : List It} (h : Long w base e mk its0 its) (hk : KeepT T w w') (he : e ∉ T) : Long w' base e mk its0 its :=
  ⟨h.len, fun i t ht => by
    obtain ⟨a, b, c, d⟩ := h.all i t ht
    refine ⟨a, b.keepT (c := t.c) hk d he, hk.own c he, fun g hg => ?_⟩
    obtain ⟨cur, hc⟩ := d g hg
    exact ⟨cur, hk.blk hc he⟩, h.same⟩
theorem long_look {w : World} {base : Nat} {e : TypeId} {mk : Nat → Value} {its0 its : List It} (h : Long w base e mk its0 its) (hs : ∀ (i : Nat) (t : It), its0[i]? = some t → t.n ≤ 1073741824 ∧ t.m ≤ 1048576) :
    ∀ (i : Nat) (t : It), its[i]? = some t → t.n ≤ 1073741824 ∧ t.m ≤ 1048576 ∧ t.n2 = t.n + 40 ∧ Lies w t.A t.n (List.replicate t.n (mk t.m)) ∧ Lies w t.A2 (t.n + 40) (List.replicate (t.n + 40) (mk t.m)) := by
  intro i t ht
  obtain ⟨a, b, c, _⟩ := h.all i t ht
  obtain ⟨t0, ht0⟩ : ∃ t0, its0[i]? = some t0 := ⟨its0[i]'(by rw [← h.len]; exact (List.getElem?_eq_some_iff.1 ht).1), List.getElem?_eq_getElem _⟩
  obtain ⟨_, e2, _, e4⟩ := h.same i t t0 ht ht0
  obtain ⟨s1, s2⟩ := hs i t0 ht0
  refine ⟨e2 ▸ s1, e4 ▸ s2, a, b, ?_⟩
  rw [It.long, a] at c
  exact lies_of_own c

theorem add_Int (B base N c n cc : Nat) (H A : Option Addr) (L : List Value) (its : List It) (w : World)
    (hB : w.heap[B]? = some (.cells L.toArray 49 (0, 0))) (hL0 : L[0]? = some (.int .i64 (N : Int))) (hL : L[2]? = some (.slice H its.length c))
    (hH : w.ownsRow base 58 3 (.slice H its.length c) its.length (held its)) (hb : base ≤ w.heap.size) (hbB : base ≤ B) (hN : N ≤ 1048576) (hn : its.length ≤ 1048576) :
    Calls Tryz.prog 16 #[.pointer (some ⟨B, 0, none⟩), .slice A n cc] w fun e w' => e = .returned (.tuple #[]) ∧
      ∃ H' c', KeptIn w w' B base 49 58 L 2 N its A n cc H' c' := by
  have HC := hide (keep_Int B base N c n cc H A L its w hB hL0 hL hH hb hbB hN hn)
  clear hB hL0 hL hH
  go_enter Tryz.func16, Tryz.ntmps16
  go_wp2_with fail
  refine Calls.mono HC.out ?_
  rintro e w1 ⟨rfl, h⟩
  have HK := hide h
  clear h
  go_wp2
  go_end0
  exact ⟨rfl, HK.out⟩

def bookCells (N : Nat) (HInt : Option Addr) (cInt : Nat) (iInt : List It) : List Value := [.int .i64 (N : Int), .slice none 0 0, .slice HInt iInt.length cInt, .slice none 0 0, .slice none 0 0, .slice none 0 0, .slice none 0 0, .slice none 0 0, .slice none 0 0, .slice none 0 0, .slice none 0 0, .slice none 0 0, .slice none 0 0, .slice none 0 0, .slice none 0 0, .slice none 0 0]
structure BkAt (w : World) (B base N : Nat) (HInt : Option Addr) (cInt : Nat) (iInt : List It) : Prop where
  blk : w.heap[B]? = some (.cells (bookCells N HInt cInt iInt).toArray 49 (0, 0))
  rowInt : w.ownsRow base 58 3 (.slice HInt iInt.length cInt) iInt.length (held iInt)
  listsInt : Rows1 w base 3 iInt
  manyInt : iInt.length ≤ N
  smallInt : ∀ (i : Nat) (t : It), iInt[i]? = some t → t.n ≤ 1073741824 ∧ t.m ≤ 1048576
  baseW : base ≤ w.heap.size
  baseB : base ≤ B
  few : N ≤ 1048000
theorem BkAt.addInt {w w' : World} {B base N : Nat} {HInt : Option Addr} {cInt : Nat} {iInt : List It} {A H' : Option Addr} {n c c' : Nat} {xs : List Value} (h : BkAt w B base N HInt cInt iInt)
    (hk : KeptIn w w' B base 49 58 (bookCells N HInt cInt iInt) 2 N iInt A n c H' c') (ho : w.ownsRow base 3 1 (.slice A n c) n xs) (hn : n ≤ 1073741824) (hN : N + 1 ≤ 1048000)
    (ha : ∀ (i : Nat) (t : It), iInt[i]? = some t → (t.l.ownBlock = none ∨ t.l.ownBlock ≠ (Value.slice A n c).ownBlock) ∧ ((Value.slice A n c).ownBlock = none ∨ (Value.slice A n c).ownBlock ≠ t.l.ownBlock)) :
    BkAt w' B base (N + 1) H' c' (iInt ++ [⟨A, n, c, none, 0, 0, N + 1⟩]) := by
  have hat : ∀ (i : Nat) (t : It), (iInt ++ [⟨A, n, c, none, 0, 0, N + 1⟩])[i]? = some t → iInt[i]? = some t ∨ (i = iInt.length ∧ t = ⟨A, n, c, none, 0, 0, N + 1⟩) := by
    intro i t ht
    by_cases hi : i < iInt.length
    · rw [List.getElem?_append_left hi] at ht; exact .inl ht
    · rw [List.getElem?_append_right (by omega)] at ht
      have h0 : i - iInt.length = 0 := by have := (List.getElem?_eq_some_iff.1 ht).1; simp at this; omega
      rw [h0] at ht
      simp at ht
      exact .inr ⟨by omega, ht.symm⟩
  have hlt : ∀ (i : Nat) (t : It), iInt[i]? = some t → i < iInt.length := fun i t ht => (List.getElem?_eq_some_iff.1 ht).1
  refine ⟨?_, ?_, ?_, ?_, ?_, Nat.le_trans h.baseW hk.keep.size, h.baseB, hN⟩
  · have hb := hk.blk
    simpa [bookCells] using hb
  · have hr := hk.row
    simpa using hr
  · refine ⟨fun i t ht => ?_, fun i j t u hij ht hu => ?_⟩
    · rcases hat i t ht with h1 | ⟨_, rfl⟩
      · obtain ⟨ys, hy⟩ := h.listsInt.own i t h1
        exact ⟨ys, hk.keep.own hy (by decide)⟩
      · exact ⟨xs, hk.keep.own ho (by decide)⟩
    · rcases hat i t ht with h1 | ⟨e1, rfl⟩
      · rcases hat j u hu with h2 | ⟨e2, rfl⟩
        · exact h.listsInt.apart i j t u hij h1 h2
        · exact (ha i t h1).1
      · rcases hat j u hu with h2 | ⟨e2, rfl⟩
        · exact (ha j u h2).2
        · omega
  · have := h.manyInt
    simp
    omega
  · intro i t ht
    rcases hat i t ht with h1 | ⟨_, rfl⟩
    · exact h.smallInt i t h1
    · exact ⟨hn, by show N + 1 ≤ 1048576; omega⟩

set_option maxRecDepth 100000 in
set_option maxHeartbeats 4000000 in
theorem apart_any (w : World) (B base N : Nat) (HInt : Option Addr) (cInt : Nat) (iInt : List It) (h : BkAt w B base N HInt cInt iInt) :
    Calls Tryz.prog 17 #[.pointer (some ⟨B, 0, none⟩)] w fun e w' => e = .returned (.bool true) ∧ Below base w w' := by
  have hbase := h.baseW
  have HBK0 := hide h.blk
  have HRInt0 := hide h.rowInt
  have HFInt0 := hide h.listsInt
  have HSInt := hide h.smallInt
  have hmInt : iInt.length ≤ 1048576 := by have := h.manyInt; have := h.few; omega
  have HBB0 : Hid (Below base w w) := hide (Below.refl _ _)
  have hsz0 : base ≤ w.heap.size := hbase
  clear h hbase
  obtain ⟨w0, hw0⟩ : ∃ w0, w0 = w := ⟨_, rfl⟩
  have HW0 := hide hw0
  go_enter Tryz.func17, Tryz.ntmps17
  clear hw0 HW0 w0
  go_wp2_with fail
  refine (fill0_Byte B _ (cell_blk HBK0.out 1)).mono ?_
  rintro e w' ⟨rfl, rfl⟩
  go_wp2_with fail
  refine (fill_Int B base cInt HInt _ iInt _ HBK0.out rfl HRInt0.out HFInt0.out hsz0 hmInt (fun i t ht => ⟨Nat.le_trans (HSInt.out i t ht).1 (by omega), (HSInt.out i t ht).2⟩)).mono ?_
  rintro e w1 ⟨rfl, hF⟩
  have HAInt := hide HFInt0.out.apart
  have HBK1 := hide (hF.keep.blk HBK0.out (by decide))
  have HRInt1 := hide (hF.keep.own HRInt0.out (by decide))
  have HFInt1 : Hid (Full w1 base 3 mk_Int iInt) := hide (fun i t ht => hF.done i t (List.getElem?_eq_some_iff.1 ht).1 ht)
  have HBB1 := hide (HBB0.out.trans hF.below)
  have hsz1 : base ≤ w1.heap.size := Nat.le_trans hsz0 hF.keep.size
  clear hF HRInt0 HFInt0 HBK0 HBB0
  go_wp2_with fail
  refine (fill0_Number B _ (cell_blk HBK1.out 3)).mono ?_
  rintro e w' ⟨rfl, rfl⟩
  go_wp2_with fail
  refine (fill0_Id B _ (cell_blk HBK1.out 4)).mono ?_
  rintro e w' ⟨rfl, rfl⟩
  go_wp2_with fail
  refine (fill0_Text B _ (cell_blk HBK1.out 5)).mono ?_
  rintro e w' ⟨rfl, rfl⟩
  go_wp2_with fail
  refine (fill0_Tensor B _ (cell_blk HBK1.out 6)).mono ?_
  rintro e w' ⟨rfl, rfl⟩
  go_wp2_with fail
  refine (fill0_Node B _ (cell_blk HBK1.out 7)).mono ?_
  rintro e w' ⟨rfl, rfl⟩
  go_wp2_with fail
  refine (fill0_Step B _ (cell_blk HBK1.out 8)).mono ?_
  rintro e w' ⟨rfl, rfl⟩
  go_wp2_with fail
  refine (fill0_Cost B _ (cell_blk HBK1.out 9)).mono ?_
  rintro e w' ⟨rfl, rfl⟩
  go_wp2_with fail
  refine (fill0_Record B _ (cell_blk HBK1.out 10)).mono ?_
  rintro e w' ⟨rfl, rfl⟩
  go_wp2_with fail
  refine (fill0_Place B _ (cell_blk HBK1.out 11)).mono ?_
  rintro e w' ⟨rfl, rfl⟩
  go_wp2_with fail
  refine (fill0_Ask B _ (cell_blk HBK1.out 12)).mono ?_
  rintro e w' ⟨rfl, rfl⟩
  go_wp2_with fail
  refine (fill0_Done B _ (cell_blk HBK1.out 13)).mono ?_
  rintro e w' ⟨rfl, rfl⟩
  go_wp2_with fail
  refine (fill0_Grid B _ (cell_blk HBK1.out 14)).mono ?_
  rintro e w' ⟨rfl, rfl⟩
  go_wp2_with fail
  refine (fill0_List B _ (cell_blk HBK1.out 15)).mono ?_
  rintro e w' ⟨rfl, rfl⟩
  go_wp2_with fail
  refine (grow0_Byte B _ (cell_blk HBK1.out 1)).mono ?_
  rintro e w' ⟨rfl, rfl⟩
  go_wp2_with fail
  refine (grow_Int B base cInt HInt _ iInt _ HBK1.out rfl (GrowTo.start (by decide) HRInt1.out HFInt1.out HAInt.out) hsz1 hmInt HSInt.out).mono ?_
  rintro e w2 ⟨rfl, jInt, hF⟩
  have HBK2 := hide (hF.keep.blk HBK1.out (by decide))
  have HRInt2 := hide hF.row
  have HFInt2 := hide (Long.of hF)
  have HBB2 := hide (HBB1.out.trans hF.below)
  have hsz2 : base ≤ w2.heap.size := Nat.le_trans hsz1 hF.keep.size
  clear hF HRInt1 HFInt1 HBK1 HBB1
  go_wp2_with fail
  refine (grow0_Number B _ (cell_blk HBK2.out 3)).mono ?_
  rintro e w' ⟨rfl, rfl⟩
  go_wp2_with fail
  refine (grow0_Id B _ (cell_blk HBK2.out 4)).mono ?_
  rintro e w' ⟨rfl, rfl⟩
  go_wp2_with fail
  refine (grow0_Text B _ (cell_blk HBK2.out 5)).mono ?_
  rintro e w' ⟨rfl, rfl⟩
  go_wp2_with fail
  refine (grow0_Tensor B _ (cell_blk HBK2.out 6)).mono ?_
  rintro e w' ⟨rfl, rfl⟩
  go_wp2_with fail
  refine (grow0_Node B _ (cell_blk HBK2.out 7)).mono ?_
  rintro e w' ⟨rfl, rfl⟩
  go_wp2_with fail
  refine (grow0_Step B _ (cell_blk HBK2.out 8)).mono ?_
  rintro e w' ⟨rfl, rfl⟩
  go_wp2_with fail
  refine (grow0_Cost B _ (cell_blk HBK2.out 9)).mono ?_
  rintro e w' ⟨rfl, rfl⟩
  go_wp2_with fail
  refine (grow0_Record B _ (cell_blk HBK2.out 10)).mono ?_
  rintro e w' ⟨rfl, rfl⟩
  go_wp2_with fail
  refine (grow0_Place B _ (cell_blk HBK2.out 11)).mono ?_
  rintro e w' ⟨rfl, rfl⟩
  go_wp2_with fail
  refine (grow0_Ask B _ (cell_blk HBK2.out 12)).mono ?_
  rintro e w' ⟨rfl, rfl⟩
  go_wp2_with fail
  refine (grow0_Done B _ (cell_blk HBK2.out 13)).mono ?_
  rintro e w' ⟨rfl, rfl⟩
  go_wp2_with fail
  refine (grow0_Grid B _ (cell_blk HBK2.out 14)).mono ?_
  rintro e w' ⟨rfl, rfl⟩
  go_wp2_with fail
  refine (grow0_List B _ (cell_blk HBK2.out 15)).mono ?_
  rintro e w' ⟨rfl, rfl⟩
  go_wp2_with fail
  refine (look0_Byte B _ (cell_blk HBK2.out 1)).mono ?_
  rintro e w' ⟨rfl, rfl⟩
  go_wp2_with fail
  refine (look_Int B base cInt HInt _ jInt _ HBK2.out (by rw [HFInt2.out.len]; rfl) HRInt2.out (by rw [HFInt2.out.len]; exact hmInt) (long_look HFInt2.out HSInt.out)).mono ?_
  rintro e w3 ⟨rfl, hF⟩
  have hkT : KeepT [] w2 w3 := KeepT.below hF
  have HBK3 := hide (hkT.blk HBK2.out (by decide))
  have HRInt3 := hide (hkT.own HRInt2.out (by decide))
  have HFInt3 := hide (long_keep HFInt2.out hkT (by decide))
  have HBB3 := hide (HBB2.out.trans (hF.mono hsz2))
  have hsz3 : base ≤ w3.heap.size := Nat.le_trans hsz2 hF.size
  clear hF hkT HRInt2 HFInt2 HBK2 HBB2
  go_wp2_with fail
  refine (look0_Number B _ (cell_blk HBK3.out 3)).mono ?_
  rintro e w' ⟨rfl, rfl⟩
  go_wp2_with fail
  refine (look0_Id B _ (cell_blk HBK3.out 4)).mono ?_
  rintro e w' ⟨rfl, rfl⟩
  go_wp2_with fail
  refine (look0_Text B _ (cell_blk HBK3.out 5)).mono ?_
  rintro e w' ⟨rfl, rfl⟩
  go_wp2_with fail
  refine (look0_Tensor B _ (cell_blk HBK3.out 6)).mono ?_
  rintro e w' ⟨rfl, rfl⟩
  go_wp2_with fail
  refine (look0_Node B _ (cell_blk HBK3.out 7)).mono ?_
  rintro e w' ⟨rfl, rfl⟩
  go_wp2_with fail
  refine (look0_Step B _ (cell_blk HBK3.out 8)).mono ?_
  rintro e w' ⟨rfl, rfl⟩
  go_wp2_with fail
  refine (look0_Cost B _ (cell_blk HBK3.out 9)).mono ?_
  rintro e w' ⟨rfl, rfl⟩
  go_wp2_with fail
  refine (look0_Record B _ (cell_blk HBK3.out 10)).mono ?_
  rintro e w' ⟨rfl, rfl⟩
  go_wp2_with fail
  refine (look0_Place B _ (cell_blk HBK3.out 11)).mono ?_
  rintro e w' ⟨rfl, rfl⟩
  go_wp2_with fail
  refine (look0_Ask B _ (cell_blk HBK3.out 12)).mono ?_
  rintro e w' ⟨rfl, rfl⟩
  go_wp2_with fail
  refine (look0_Done B _ (cell_blk HBK3.out 13)).mono ?_
  rintro e w' ⟨rfl, rfl⟩
  go_wp2_with fail
  refine (look0_Grid B _ (cell_blk HBK3.out 14)).mono ?_
  rintro e w' ⟨rfl, rfl⟩
  go_wp2_with fail
  refine (look0_List B _ (cell_blk HBK3.out 15)).mono ?_
  rintro e w' ⟨rfl, rfl⟩
  go_wp2
  go_ret
  exact ⟨rfl, HBB3.out⟩
end Go.Proofs.YtlkldodkoeaedaaGreatDoor
