/- Contracts of the book's keep: one list more is held, with the next mark. -/
import Derived.Test.YtlalfjlcgabnnaaGreatDoorGrowLaws
import Derived.Deep.RegionLaw
namespace Go.Proofs.YtlalfjlcgabnnaaGreatDoor
open Go.RowKit

theorem KeepT.drew {T : List TypeId} {w w' : World} (h : KeepT T w w') : KeepT T w w'.drew := ⟨h.os, h.tape, h.output, h.size, h.block⟩

structure KeptIn (w w' : World) (B base : Nat) (bT hT : TypeId) (L : List Value) (f N : Nat) (its : List It) (A : Option Addr) (n c : Nat) (H' : Option Addr) (c' : Nat) : Prop where
  blk : w'.heap[B]? = some (.cells ((L.set 0 (.int .i64 ((N + 1 : Nat) : Int))).set f (.slice H' (its.length + 1) c')).toArray bT (0, 0))
  row : w'.ownsRow base hT 3 (.slice H' (its.length + 1) c') (its.length + 1) (held (its ++ [⟨A, n, c, none, 0, 0, N + 1⟩]))
  keep : KeepT [bT, hT] w w'
  below : Below base w w'

theorem keep_blk {w w' : World} {B : Nat} {o : Obj} {row : Option Nat} (h : w.heap[B]? = some o) (hg : w.grownBy w' row) (hne : some B ≠ row) : w'.heap[B]? = some o := (hg.block B (lt_of_heap h) hne).trans h

theorem blk_set {w : World} {B : Nat} {L : List Value} {t : TypeId} (h : w.heap[B]? = some (.cells L.toArray t (0, 0))) (i : Nat) (u : Value) : (w.setCell ⟨B, i, none⟩ u).heap[B]? = some (.cells (L.set i u).toArray t (0, 0)) := by
  rw [heap_setCell_same w B i L.toArray t u h]
  simp

theorem Tryz.infoH_Byte : (Tryz.prog.info? 77).map (fun i => (i.zero, i.size, i.bytes)) = some (some (.agg #[.slice none 0 0, .slice none 0 0, .int .i64 0]), 3, 56) := by kernel_rfl

theorem Tryz.infoH_Int : (Tryz.prog.info? 74).map (fun i => (i.zero, i.size, i.bytes)) = some (some (.agg #[.slice none 0 0, .slice none 0 0, .int .i64 0]), 3, 56) := by kernel_rfl

set_option maxRecDepth 100000 in
set_option maxHeartbeats 2000000 in
theorem keep_Int (B base N c n cc : Nat) (H A : Option Addr) (L : List Value) (its : List It) (w : World)
    (hB : w.heap[B]? = some (.cells L.toArray 54 (0, 0))) (hL0 : L[0]? = some (.int .i64 (N : Int))) (hL : L[2]? = some (.slice H its.length c))
    (hH : w.ownsRow base 74 3 (.slice H its.length c) its.length (held its)) (hb : base ≤ w.heap.size) (hbB : base ≤ B) (hN : N ≤ 1048576) (hn : its.length ≤ 1048576) :
    Calls Tryz.prog 32 #[.pointer (some ⟨B, 0, none⟩), .slice A n cc] w fun e w' => e = .returned (.tuple #[]) ∧
      ∃ H' c', KeptIn w w' B base 54 74 L 2 N its A n cc H' c' := by
  have a1 := (cell_blk hB 0).trans hL0
  have a2 := (cell_blk hB 2).trans hL
  have a3 : w.frozen? ⟨B, 0, none⟩ = false := by simp [World.frozen?, hB]
  have hB2 := blk_set hB 0 (.int .i64 ((N : Int) + 1))
  have a4 : (w.setCell ⟨B, 0, none⟩ (.int .i64 ((N : Int) + 1))).cell? ⟨B, 2, none⟩ = some (.slice H its.length c) := by
    rw [cell_blk hB2 2, List.getElem?_set_ne (by decide)]
    exact hL
  have HL0 : Hid (0 < L.length) := hide (List.getElem?_eq_some_iff.1 hL0).1
  have hgs := grown_setCell w ⟨B, 0, none⟩ (.int .i64 ((N : Int) + 1))
  obtain ⟨cB, hcB⟩ : ∃ cB, w.heap[B]? = some (.cells cB 54 (0, 0)) := ⟨_, hB⟩
  have hneB : ∀ (w : World) (cs : List Value) (hB : w.heap[B]? = some (.cells cs.toArray 54 (0, 0))) {v : Value} {k : Nat} {xs : List Value}, w.ownsRow base 74 3 v k xs → v.ownBlock ≠ some B := by
    intro w cs hB v k xs ho e
    obtain ⟨c1, h1⟩ := own_type ho e
    rw [hB] at h1
    injection h1 with h1
    injection h1 with _ h1
    exact absurd h1 (by decide)
  have hH2 : (w.setCell ⟨B, 0, none⟩ (.int .i64 ((N : Int) + 1))).ownsRow base 74 3 (.slice H its.length c) its.length (held its) := hH.kept hgs (.inr (hneB w L hB hH))
  have HLF := hide hL
  have HB := hide hB
  have HB2 := hide hB2
  have HH2 := hide hH2
  have HNE := hide hneB
  have HGS := hide hgs
  clear hB hL0 hL hH hB2 hH2 hneB hgs hcB
  obtain ⟨i0, hi, hz0, hz1, hz2⟩ := info_parts Tryz.infoH_Int
  have HI := hide hi
  have HZ0 := hide hz0
  have HZ1 := hide hz1
  have HZ2 := hide hz2
  clear hi hz0 hz1 hz2
  go_enter Tryz.func32, Tryz.ntmps32
  go_wp2
  obtain ⟨w1, hw1⟩ : ∃ w1, w1 = w.setCell ⟨B, 0, none⟩ (.int .i64 ((N : Int) + 1)) := ⟨_, rfl⟩
  rw [← hw1] at HB2 HH2 HGS a4 ⊢
  have HW1 := hide hw1
  clear hw1 a1 a2 a3
  have a5 : w1.cell? ⟨B, 0, none⟩ = some (.int .i64 ((N : Int) + 1)) := by
    rw [cell_blk HB2.out 0, List.getElem?_set_self HL0.out]
  have hs1 : w.heap.size ≤ w1.heap.size := HGS.out.size
  have hbs : base ≤ (w1.alloc (.cells #[.slice A n cc, .slice none 0 0, .int .i64 ((N : Int) + 1)] 74)).drew.heap.size := Nat.le_trans hb (Nat.le_trans hs1 (by show w1.heap.size ≤ (w1.alloc _).heap.size; simp))
  have HO3 : Hid ((w1.alloc (.cells #[.slice A n cc, .slice none 0 0, .int .i64 ((N : Int) + 1)] 74)).drew.ownsRow base 74 3 (.slice H its.length c) its.length (held its)) := hide (HH2.out.alloc _)
  have HB3 : Hid ((w1.alloc (.cells #[.slice A n cc, .slice none 0 0, .int .i64 ((N : Int) + 1)] 74)).drew.heap[B]? = some (.cells (L.set 0 (.int .i64 ((N : Int) + 1))).toArray 54 (0, 0))) := hide ((Below.heap_alloc w1 _ B (lt_of_heap HB2.out)).trans HB2.out)
  have HX3 := hide (cells_new w1 [.slice A n cc, .slice none 0 0, .int .i64 ((N : Int) + 1)] 74)
  have a8 : (w1.alloc (.cells #[.slice A n cc, .slice none 0 0, .int .i64 ((N : Int) + 1)] 74)).cell? ⟨B, 2, none⟩ = some (.slice H its.length c) := (World.cell?_of_block (w := w1) (Below.heap_alloc w1 _ B (lt_of_heap HB2.out))).trans a4
  have a6 : w1.frozen? ⟨B, 0, none⟩ = false := by simp [World.frozen?, HB2.out]
  have a7 : w1.frozen? ⟨B, 2, none⟩ = false := by simp [World.frozen?, HB2.out]
  go_region_law (refine step_append_held rfl (.tmp 15) (.tmp 22) 39 rfl 74 i0 (.agg #[.slice none 0 0, .slice none 0 0, .int .i64 0]) 3 56 Tryz.underlying39 HI.out HZ0.out HZ1.out HZ2.out rfl (by decide) base (.slice H its.length c) its.length (held its) rfl HO3.out hbs ⟨w1.heap.size, 0, none⟩ [.slice A n cc, .slice none 0 0, .int .i64 ((N : Int) + 1)] rfl rfl HX3.out (by simp [Value.oneCell']) (by omega) (by unfold maxLen; omega) ?_; intro g2 c2 w2 ho2 hg2; have hb4 := keep_blk HB3.out hg2 (fun e => HNE.out _ _ HB3.out HO3.out e.symm); have k0 : w2.cell? ⟨B, 2, none⟩ = some (.slice H its.length c) := (by rw [cell_blk hb4 2, List.getElem?_set_ne (by decide)]; exact HLF.out); have k1 : w2.frozen? ⟨B, 2, none⟩ = false := (by simp [World.frozen?, hb4]))
  all_goals go_wp2
  all_goals go_end0
  all_goals
    refine ⟨rfl, some ⟨g2, 0, none⟩, c2, ?_⟩
    have hst := grown_setCell w2 ⟨B, 2, none⟩ (.slice (some ⟨g2, 0, none⟩) (its.length + 1) c2)
    have hk1 : KeepT [54, 74] w w1 := KeepT.grown HGS.out (fun b hbb => by injection hbb with hbb; subst hbb; exact ⟨_, _, _, HB.out, by simp⟩)
    have hk2 : KeepT [54, 74] w1 w2 := ((KeepT.refl _ w1).alloc _).drew.trans (KeepT.grown hg2 (fun b hbb => by obtain ⟨cu, hc⟩ := own_type HO3.out hbb; exact ⟨cu, _, _, hc, by simp⟩))
    have hk3 : KeepT [54, 74] w2 (w2.setCell ⟨B, 2, none⟩ (.slice (some ⟨g2, 0, none⟩) (its.length + 1) c2)) := KeepT.grown hst (fun b hbb => by injection hbb with hbb; subst hbb; exact ⟨_, _, _, hb4, by simp⟩)
    refine ⟨?_, ?_, (hk1.trans hk2).trans hk3, ?_⟩
    · exact blk_set hb4 2 _
    · rw [held_snoc]
      exact ho2.kept hst (.inr (HNE.out w2 _ hb4 ho2))
    · refine (((Below.refl base w).grown HGS.out hb (fun b hbb => by injection hbb with hbb; subst hbb; exact hbB)).trans (((Below.refl base w1).alloc (Nat.le_trans hb hs1) _).drew.grown hg2 hbs (fun b hbb => (own_lt HO3.out hbb).1))).grown hst ?_ (fun b hbb => by injection hbb with hbb; subst hbb; exact hbB)
      exact Nat.le_trans hb (hk1.trans hk2).size

theorem Tryz.infoH_Number : (Tryz.prog.info? 81).map (fun i => (i.zero, i.size, i.bytes)) = some (some (.agg #[.slice none 0 0, .slice none 0 0, .int .i64 0]), 3, 56) := by kernel_rfl

set_option maxRecDepth 100000 in
set_option maxHeartbeats 2000000 in
theorem keep_Number (B base N c n cc : Nat) (H A : Option Addr) (L : List Value) (its : List It) (w : World)
    (hB : w.heap[B]? = some (.cells L.toArray 54 (0, 0))) (hL0 : L[0]? = some (.int .i64 (N : Int))) (hL : L[3]? = some (.slice H its.length c))
    (hH : w.ownsRow base 81 3 (.slice H its.length c) its.length (held its)) (hb : base ≤ w.heap.size) (hbB : base ≤ B) (hN : N ≤ 1048576) (hn : its.length ≤ 1048576) :
    Calls Tryz.prog 82 #[.pointer (some ⟨B, 0, none⟩), .slice A n cc] w fun e w' => e = .returned (.tuple #[]) ∧
      ∃ H' c', KeptIn w w' B base 54 81 L 3 N its A n cc H' c' := by
  have a1 := (cell_blk hB 0).trans hL0
  have a2 := (cell_blk hB 3).trans hL
  have a3 : w.frozen? ⟨B, 0, none⟩ = false := by simp [World.frozen?, hB]
  have hB2 := blk_set hB 0 (.int .i64 ((N : Int) + 1))
  have a4 : (w.setCell ⟨B, 0, none⟩ (.int .i64 ((N : Int) + 1))).cell? ⟨B, 3, none⟩ = some (.slice H its.length c) := by
    rw [cell_blk hB2 3, List.getElem?_set_ne (by decide)]
    exact hL
  have HL0 : Hid (0 < L.length) := hide (List.getElem?_eq_some_iff.1 hL0).1
  have hgs := grown_setCell w ⟨B, 0, none⟩ (.int .i64 ((N : Int) + 1))
  obtain ⟨cB, hcB⟩ : ∃ cB, w.heap[B]? = some (.cells cB 54 (0, 0)) := ⟨_, hB⟩
  have hneB : ∀ (w : World) (cs : List Value) (hB : w.heap[B]? = some (.cells cs.toArray 54 (0, 0))) {v : Value} {k : Nat} {xs : List Value}, w.ownsRow base 81 3 v k xs → v.ownBlock ≠ some B := by
    intro w cs hB v k xs ho e
    obtain ⟨c1, h1⟩ := own_type ho e
    rw [hB] at h1
    injection h1 with h1
    injection h1 with _ h1
    exact absurd h1 (by decide)
  have hH2 : (w.setCell ⟨B, 0, none⟩ (.int .i64 ((N : Int) + 1))).ownsRow base 81 3 (.slice H its.length c) its.length (held its) := hH.kept hgs (.inr (hneB w L hB hH))
  have HLF := hide hL
  have HB := hide hB
  have HB2 := hide hB2
  have HH2 := hide hH2
  have HNE := hide hneB
  have HGS := hide hgs
  clear hB hL0 hL hH hB2 hH2 hneB hgs hcB
  obtain ⟨i0, hi, hz0, hz1, hz2⟩ := info_parts Tryz.infoH_Number
  have HI := hide hi
  have HZ0 := hide hz0
  have HZ1 := hide hz1
  have HZ2 := hide hz2
  clear hi hz0 hz1 hz2
  go_enter Tryz.func82, Tryz.ntmps82
  go_wp2
  obtain ⟨w1, hw1⟩ : ∃ w1, w1 = w.setCell ⟨B, 0, none⟩ (.int .i64 ((N : Int) + 1)) := ⟨_, rfl⟩
  rw [← hw1] at HB2 HH2 HGS a4 ⊢
  have HW1 := hide hw1
  clear hw1 a1 a2 a3
  have a5 : w1.cell? ⟨B, 0, none⟩ = some (.int .i64 ((N : Int) + 1)) := by
    rw [cell_blk HB2.out 0, List.getElem?_set_self HL0.out]
  have hs1 : w.heap.size ≤ w1.heap.size := HGS.out.size
  have hbs : base ≤ (w1.alloc (.cells #[.slice A n cc, .slice none 0 0, .int .i64 ((N : Int) + 1)] 81)).drew.heap.size := Nat.le_trans hb (Nat.le_trans hs1 (by show w1.heap.size ≤ (w1.alloc _).heap.size; simp))
  have HO3 : Hid ((w1.alloc (.cells #[.slice A n cc, .slice none 0 0, .int .i64 ((N : Int) + 1)] 81)).drew.ownsRow base 81 3 (.slice H its.length c) its.length (held its)) := hide (HH2.out.alloc _)
  have HB3 : Hid ((w1.alloc (.cells #[.slice A n cc, .slice none 0 0, .int .i64 ((N : Int) + 1)] 81)).drew.heap[B]? = some (.cells (L.set 0 (.int .i64 ((N : Int) + 1))).toArray 54 (0, 0))) := hide ((Below.heap_alloc w1 _ B (lt_of_heap HB2.out)).trans HB2.out)
  have HX3 := hide (cells_new w1 [.slice A n cc, .slice none 0 0, .int .i64 ((N : Int) + 1)] 81)
  have a8 : (w1.alloc (.cells #[.slice A n cc, .slice none 0 0, .int .i64 ((N : Int) + 1)] 81)).cell? ⟨B, 3, none⟩ = some (.slice H its.length c) := (World.cell?_of_block (w := w1) (Below.heap_alloc w1 _ B (lt_of_heap HB2.out))).trans a4
  have a6 : w1.frozen? ⟨B, 0, none⟩ = false := by simp [World.frozen?, HB2.out]
  have a7 : w1.frozen? ⟨B, 3, none⟩ = false := by simp [World.frozen?, HB2.out]
  go_region_law (refine step_append_held rfl (.tmp 15) (.tmp 22) 40 rfl 81 i0 (.agg #[.slice none 0 0, .slice none 0 0, .int .i64 0]) 3 56 Tryz.underlying40 HI.out HZ0.out HZ1.out HZ2.out rfl (by decide) base (.slice H its.length c) its.length (held its) rfl HO3.out hbs ⟨w1.heap.size, 0, none⟩ [.slice A n cc, .slice none 0 0, .int .i64 ((N : Int) + 1)] rfl rfl HX3.out (by simp [Value.oneCell']) (by omega) (by unfold maxLen; omega) ?_; intro g2 c2 w2 ho2 hg2; have hb4 := keep_blk HB3.out hg2 (fun e => HNE.out _ _ HB3.out HO3.out e.symm); have k0 : w2.cell? ⟨B, 3, none⟩ = some (.slice H its.length c) := (by rw [cell_blk hb4 3, List.getElem?_set_ne (by decide)]; exact HLF.out); have k1 : w2.frozen? ⟨B, 3, none⟩ = false := (by simp [World.frozen?, hb4]))
  all_goals go_wp2
  all_goals go_end0
  all_goals
    refine ⟨rfl, some ⟨g2, 0, none⟩, c2, ?_⟩
    have hst := grown_setCell w2 ⟨B, 3, none⟩ (.slice (some ⟨g2, 0, none⟩) (its.length + 1) c2)
    have hk1 : KeepT [54, 81] w w1 := KeepT.grown HGS.out (fun b hbb => by injection hbb with hbb; subst hbb; exact ⟨_, _, _, HB.out, by simp⟩)
    have hk2 : KeepT [54, 81] w1 w2 := ((KeepT.refl _ w1).alloc _).drew.trans (KeepT.grown hg2 (fun b hbb => by obtain ⟨cu, hc⟩ := own_type HO3.out hbb; exact ⟨cu, _, _, hc, by simp⟩))
    have hk3 : KeepT [54, 81] w2 (w2.setCell ⟨B, 3, none⟩ (.slice (some ⟨g2, 0, none⟩) (its.length + 1) c2)) := KeepT.grown hst (fun b hbb => by injection hbb with hbb; subst hbb; exact ⟨_, _, _, hb4, by simp⟩)
    refine ⟨?_, ?_, (hk1.trans hk2).trans hk3, ?_⟩
    · exact blk_set hb4 3 _
    · rw [held_snoc]
      exact ho2.kept hst (.inr (HNE.out w2 _ hb4 ho2))
    · refine (((Below.refl base w).grown HGS.out hb (fun b hbb => by injection hbb with hbb; subst hbb; exact hbB)).trans (((Below.refl base w1).alloc (Nat.le_trans hb hs1) _).drew.grown hg2 hbs (fun b hbb => (own_lt HO3.out hbb).1))).grown hst ?_ (fun b hbb => by injection hbb with hbb; subst hbb; exact hbB)
      exact Nat.le_trans hb (hk1.trans hk2).size

end Go.Proofs.YtlalfjlcgabnnaaGreatDoor

