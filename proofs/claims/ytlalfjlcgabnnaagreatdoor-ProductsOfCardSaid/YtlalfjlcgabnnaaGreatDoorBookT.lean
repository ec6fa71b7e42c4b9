/- The book of lists takes a tensor: its shape and its numbers are two lists more. -/
import Derived.Test.YtlalfjlcgabnnaaGreatDoorApart
import Derived.Test.YtlalfjlcgabnnaaGreatDoorTLaw
namespace Go.Proofs.YtlalfjlcgabnnaaGreatDoor
open Go.RowKit
set_option linter.unusedVariables false
set_option linter.unusedSimpArgs false

theorem BkAt.below {w w' : World} {B base N : Nat} {HByte : Option Addr} {cByte : Nat} {iByte : List It} {HInt : Option Addr} {cInt : Nat} {iInt : List It} {HNumber : Option Addr} {cNumber : Nat} {iNumber : List It} (h : BkAt w B base N HByte cByte iByte HInt cInt iInt HNumber cNumber iNumber) (hb : Below w.heap.size w w') :
    BkAt w' B base N HByte cByte iByte HInt cInt iInt HNumber cNumber iNumber :=
  have k : KeepT [] w w' := KeepT.below hb
  ⟨k.blk h.blk (by simp), k.own h.rowByte (by simp), rows1_keep h.listsByte k (by simp), h.manyByte, h.smallByte, k.own h.rowInt (by simp), rows1_keep h.listsInt k (by simp), h.manyInt, h.smallInt,
    k.own h.rowNumber (by simp), rows1_keep h.listsNumber k (by simp), h.manyNumber, h.smallNumber, Nat.le_trans h.baseW hb.size, h.baseB, h.few⟩

/-- A list apart from all that are held. -/
def ApartOf (its : List It) (v : Value) : Prop := ∀ (i : Nat) (t : It), its[i]? = some t → (t.l.ownBlock = none ∨ t.l.ownBlock ≠ v.ownBlock) ∧ (v.ownBlock = none ∨ v.ownBlock ≠ t.l.ownBlock)

set_option maxHeartbeats 1000000 in
theorem book_tensor (w : World) (B base N : Nat) (HByte : Option Addr) (cByte : Nat) (iByte : List It) (HInt : Option Addr) (cInt : Nat) (iInt : List It) (HNumber : Option Addr) (cNumber : Nat) (iNumber : List It)
    (A A2 : Option Addr) (n c m d : Nat) (xs ys : List Value) (h : BkAt w B base N HByte cByte iByte HInt cInt iInt HNumber cNumber iNumber)
    (ho : w.ownsRow base 3 1 (.slice A n c) n xs) (hp : w.ownsRow base 21 1 (.slice A2 m d) m ys) (hn : n ≤ 1073741824) (hm : m ≤ 1073741824) (hN : N + 2 ≤ 1048000)
    (ha : ApartOf iInt (.slice A n c)) (hc : ApartOf iNumber (.slice A2 m d)) :
    Calls Tryz.prog 16 #[.pointer (some ⟨B, 0, none⟩), tenV A n c A2 m d] w fun e w' => e = .returned (.tuple #[]) ∧
      (∃ H1 c1 H2 c2, BkAt w' B base (N + 2) HByte cByte iByte H1 c1 (iInt ++ [⟨A, n, c, none, 0, 0, N + 1⟩]) H2 c2 (iNumber ++ [⟨A2, m, d, none, 0, 0, N + 2⟩])) ∧
      KeepT [54, 74, 81] w w' ∧ Below base w w' := by
  have hBW := h.baseW
  have hBB := h.baseB
  have hlt : B < w.heap.size := lt_of_heap h.blk
  have hf := h.few
  have hi := h.manyInt
  have hj := h.manyNumber
  obtain ⟨W, hW⟩ : ∃ W, W = w.alloc (.cells #[.slice A n c, .slice A2 m d] 25) := ⟨_, rfl⟩
  have HX0 : Hid (BoxT W w.heap.size (.slice A n c) (.slice A2 m d)) := hide (by rw [hW]; exact BoxT.new w _ _)
  have hbw : Below w.heap.size w W := by rw [hW]; exact (Below.refl w.heap.size w).alloc (Nat.le_refl _) _
  have HK0 := hide (h.below hbw)
  have HO0 := hide (own_below ho hbw)
  have HP0 := hide (own_below hp hbw)
  have HKe0 : Hid (KeepT [54, 74, 81] w W) := hide (KeepT.below hbw)
  have HB0 : Hid (Below base w W) := hide (hbw.mono hBW)
  have hW' := hW.symm
  have HAI := hide ha
  have HAN := hide hc
  have a0 := HX0.out.c0
  clear hW h ho hp hbw ha hc
  go_enter Tryz.func16, Tryz.ntmps16
  go_wp2_with fail
  refine Calls.mono (add_Int B base N cInt n c HInt A _ iInt _ HK0.out.blk rfl rfl HK0.out.rowInt HK0.out.baseW HK0.out.baseB (by omega) (by omega)) ?_
  rintro e w1 ⟨rfl, H1, c1, hk⟩
  have HK1 := hide (HK0.out.addInt hk HO0.out hn (by omega) HAI.out)
  have HX1 := hide (hk.keep.blk HX0.out (by decide))
  have a1 := BoxT.c1 HX1.out
  have HP1 := hide (hk.keep.own HP0.out (by decide))
  have HKe1 := hide (HKe0.out.trans (hk.keep.mono (by intro e he; simp at he ⊢; rcases he with rfl | rfl <;> simp)))
  have HB1 := hide (HB0.out.trans hk.below)
  clear hk HK0 HX0 a0 HO0 HP0 HKe0 HB0
  go_wp2_with fail
  refine Calls.mono (add_Number B base (N + 1) cNumber m d HNumber A2 _ iNumber _ HK1.out.blk rfl rfl HK1.out.rowNumber HK1.out.baseW HK1.out.baseB (by omega) (by omega)) ?_
  rintro e w2 ⟨rfl, H2, c2, hk⟩
  have HK2 := hide (HK1.out.addNumber hk HP1.out hm (by omega) HAN.out)
  have HKe2 := hide (HKe1.out.trans (hk.keep.mono (by intro e he; simp at he ⊢; rcases he with rfl | rfl <;> simp)))
  have HB2 := hide (HB1.out.trans hk.below)
  clear hk HK1
  go_wp2
  go_end0
  exact ⟨rfl, ⟨H1, c1, H2, c2, HK2.out⟩, HKe2.out, HB2.out⟩

/-- Are two tensors, of which each has its own cells, one as the other? -/
theorem sameT_yes (A B A' B' : Option Addr) (n c m d c' d' : Nat) (s l : List Int) (w : World) (hA : Lies w A n (s.map (Value.int .i64))) (hB : Lies w B m (l.map (Value.int .i32))) (hA' : Lies w A' n (s.map (Value.int .i64))) (hB' : Lies w B' m (l.map (Value.int .i32))) (hn : n ≤ 281474976710656) (hm : m ≤ 281474976710656) :
    Calls Tryz.prog 12 #[tenV A n c B m d, tenV A' n c' B' m d'] w fun e w' => e = .returned (.bool true) ∧ Below w.heap.size w w' := by
  obtain ⟨W, hW⟩ : ∃ W, W = (w.alloc (.cells #[.slice A n c, .slice B m d] 25)).alloc (.cells #[.slice A' n c', .slice B' m d'] 25) := ⟨_, rfl⟩
  have HX0 : Hid (BoxT W w.heap.size (.slice A n c) (.slice B m d)) := hide (by rw [hW]; exact (BoxT.new w _ _).alloc _)
  have HX1 : Hid (BoxT W (w.heap.size + 1) (.slice A' n c') (.slice B' m d')) := hide (by
    rw [hW]
    have h := (BoxT.new (w.alloc (.cells #[.slice A n c, .slice B m d] 25)) (.slice A' n c') (.slice B' m d'))
    rwa [World.size_alloc] at h)
  have HB0 : Hid (Below w.heap.size w W) := hide (by rw [hW]; exact ((Below.refl w.heap.size w).alloc (Nat.le_refl _) _).alloc (by simp) _)
  have HA := hide (hA.below HB0.out)
  have HB := hide (hB.below HB0.out)
  have HA' := hide (hA'.below HB0.out)
  have HB' := hide (hB'.below HB0.out)
  have hW' := hW.symm
  clear hW hA hB hA' hB'
  have hsW := HB0.out.size
  have a0 := HX0.out.c0
  have b0 := HX1.out.c0
  go_enter Tryz.func12, Tryz.ntmps12
  go_wp2_with fail
  refine Calls.mono (sameG_Ints A A' n c n c' s s _ HA.out HA'.out hn) ?_
  rw [show decide (s = s) = true by simp]
  rintro e w1 ⟨rfl, j, hj⟩
  have hb1 : Below W.heap.size W w1 := by rw [hj]; exact below_drewN (Below.refl _ W) j
  clear hj a0 b0
  have a1 := (HX0.out.kept hb1).c1
  have b1 := (HX1.out.kept hb1).c1
  go_wp2_with fail
  refine Calls.mono (sameG_Numbers B B' m d m d' l l _ (HB.out.below hb1) (HB'.out.below hb1) hm) ?_
  rw [show decide (l = l) = true by simp]
  rintro e w2 ⟨rfl, j, hj⟩
  have hb2 : Below W.heap.size W w2 := by rw [hj]; exact below_drewN hb1 j
  have HB2 := hide (HB0.out.trans (hb2.mono hsW))
  clear hj a1 b1
  go_wp2
  go_ret
  exact ⟨rfl, HB2.out⟩

/-- A copy with a mark behind is as it was. -/
theorem leftT_yes (g1 g2 : Nat) (A B : Option Addr) (n m c' d' : Nat) (s l : List Int) (w : World) (h1 : Lies w (some ⟨g1, 0, none⟩) (n + 1) (s.map (Value.int .i64) ++ [.int .i64 77])) (h2 : Lies w (some ⟨g2, 0, none⟩) (m + 1) (l.map (Value.int .i32) ++ [.int .i32 77])) (hA : Lies w A n (s.map (Value.int .i64))) (hB : Lies w B m (l.map (Value.int .i32))) (hn : n ≤ 1073741824) (hm : m ≤ 1073741824) :
    Calls Tryz.prog 14 #[tenV (some ⟨g1, 0, none⟩) n (n + 1) (some ⟨g2, 0, none⟩) m (m + 1), tenV A n c' B m d'] w fun e w' => e = .returned (.bool true) ∧ Below w.heap.size w w' := by
  obtain ⟨W, hW⟩ : ∃ W, W = (w.alloc (.cells #[.slice (some ⟨g1, 0, none⟩) n (n + 1), .slice (some ⟨g2, 0, none⟩) m (m + 1)] 25)).alloc (.cells #[.slice A n c', .slice B m d'] 25) := ⟨_, rfl⟩
  have HX0 : Hid (BoxT W w.heap.size (.slice (some ⟨g1, 0, none⟩) n (n + 1)) (.slice (some ⟨g2, 0, none⟩) m (m + 1))) := hide (by rw [hW]; exact (BoxT.new w _ _).alloc _)
  have HX1 : Hid (BoxT W (w.heap.size + 1) (.slice A n c') (.slice B m d')) := hide (by
    rw [hW]
    have h := (BoxT.new (w.alloc (.cells #[.slice (some ⟨g1, 0, none⟩) n (n + 1), .slice (some ⟨g2, 0, none⟩) m (m + 1)] 25)) (.slice A n c') (.slice B m d'))
    rwa [World.size_alloc] at h)
  have HB0 : Hid (Below w.heap.size w W) := hide (by rw [hW]; exact ((Below.refl w.heap.size w).alloc (Nat.le_refl _) _).alloc (by simp) _)
  have HA := hide (hA.below HB0.out)
  have HB := hide (hB.below HB0.out)
  have HA' := hide (h1.below HB0.out)
  have HB' := hide (h2.below HB0.out)
  have hW' := hW.symm
  clear hW hA hB h1 h2
  have hsW := HB0.out.size
  have a0 := HX0.out.c0
  have b0 := HX1.out.c0
  go_enter Tryz.func14, Tryz.ntmps14
  go_wp2_with fail
  refine Calls.mono (left_Ints g1 n (n + 1) c' A s _ HA'.out HA.out (Nat.le_refl _) hn) ?_
  rintro e w1 ⟨rfl, j, hj⟩
  have hb1 : Below W.heap.size W w1 := by rw [hj]; exact below_drewN (Below.refl _ W) j
  clear hj a0 b0
  have a1 := (HX0.out.kept hb1).c1
  have b1 := (HX1.out.kept hb1).c1
  go_wp2_with fail
  refine Calls.mono (left_Numbers g2 m (m + 1) d' B l _ (HB'.out.below hb1) (HB.out.below hb1) (Nat.le_refl _) hm) ?_
  rintro e w2 ⟨rfl, j, hj⟩
  have hb2 : Below W.heap.size W w2 := by rw [hj]; exact below_drewN hb1 j
  have HB2 := hide (HB0.out.trans (hb2.mono hsW))
  clear hj a1 b1
  go_wp2
  go_ret
  exact ⟨rfl, HB2.out⟩

end Go.Proofs.YtlalfjlcgabnnaaGreatDoor
