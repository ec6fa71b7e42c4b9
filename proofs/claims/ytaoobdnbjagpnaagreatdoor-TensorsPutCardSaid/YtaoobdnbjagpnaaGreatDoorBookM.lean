/- Merged: Look, Keep, None, Apart, BookT. -/
import Derived.Test.YtaoobdnbjagpnaaGreatDoorGrow
import Derived.Test.YtaoobdnbjagpnaaGreatDoorGrowLaws
import Derived.Deep.RegionLaw
import Derived.Test.YtaoobdnbjagpnaaGreatDoorRows
import Derived.WalkKit
import Derived.Test.YtaoobdnbjagpnaaGreatDoorTLaw
namespace Go.Proofs.YtaoobdnbjagpnaaGreatDoor

section
open Go.RowKit

theorem rep_cell {w : World} {A : Option Addr} {n : Nat} {x : Value} (h : Lies w A n (List.replicate n x)) {j : Nat} (hj : j < n) : ∃ b o, A = some ⟨b, o, none⟩ ∧ w.cell? ⟨b, o + j, none⟩ = some x := by
  obtain ⟨b, o, e, _, hx⟩ := h.cells (by omega)
  exact ⟨b, o, e, by rw [hx j hj]; simp [hj]⟩

theorem is_Byte (m : Nat) (w : World) : Calls Tryz.prog 122 #[.int .u8 (mkI_Byte m), .int .i64 (m : Int)] w fun e w' => e = .returned (.bool true) ∧ w' = w := by
  have hq : ((mkI_Byte m) == (m : Int) % 256) = true := by simp [mkI_Byte]
  go_enter Tryz.func122, Tryz.ntmps122
  go_wp2
  go_ret
  exact ⟨rfl, rfl⟩

set_option maxRecDepth 100000 in
set_option maxHeartbeats 2000000 in
theorem look_Byte (B base c : Nat) (H : Option Addr) (L : List Value) (its : List It) (w : World)
    (hB : w.heap[B]? = some (.cells L.toArray 50 (0, 0))) (hL : L[1]? = some (.slice H its.length c))
    (hH : w.ownsRow base 91 3 (.slice H its.length c) its.length (held its))
    (hn : its.length ≤ 1048576)
    (hd : ∀ (i : Nat) (t : It), its[i]? = some t → t.n ≤ 1073741824 ∧ t.m ≤ 1048576 ∧ t.n2 = t.n + 40 ∧ Lies w t.A t.n (List.replicate t.n (mk_Byte t.m)) ∧ Lies w t.A2 (t.n + 40) (List.replicate (t.n + 40) (mk_Byte t.m))) :
    Calls Tryz.prog 78 #[.pointer (some ⟨B, 0, none⟩)] w fun e w' => e = .returned (.bool true) ∧ Below w.heap.size w w' := by
  have HB := hide hB
  have HL := hide hL
  have HH := hide hH
  have HD := hide hd
  clear hB hL hH hd
  obtain ⟨N, hN⟩ : ∃ N, N = its.length := ⟨_, rfl⟩
  rw [← hN] at hn HL HH
  have HN := hide hN
  clear hN
  go_enter Tryz.func78, Tryz.ntmps78
  go_wp2
  go_loopw [3] (fun i wr => ∃ k : Nat, k ≤ N ∧ i = .int .i64 k ∧ Hid (Below w.heap.size w wr)) (fun i _ => N - (intOf i).toNat)
  case atStart => exact ⟨0, Nat.zero_le _, rfl, hide (Below.refl _ _)⟩
  case round =>
    obtain ⟨k, hk, rfl, HF⟩ := hrel
    have hB1 : wr.cell? ⟨B, 1, none⟩ = some (.slice H N c) := by
      rw [HF.out.cell (lt_of_heap HB.out), cell_blk HB.out 1]
      exact HL.out
    by_cases hlt : k < N
    · obtain ⟨t, ht⟩ : ∃ t, its[k]? = some t := ⟨its[k]'(by rw [← HN.out]; exact hlt), List.getElem?_eq_getElem _⟩
      obtain ⟨h1, h2, h3⟩ := held_at its k t ht
      obtain ⟨g, rfl⟩ : ∃ g, H = some ⟨g, 0, none⟩ := by
        rcases HH.out.2 with ⟨e, h0⟩ | ⟨g, cap, cur, e, _⟩
        · omega
        · injection e with e; exact ⟨g, e⟩
      have hgl := (own_lt HH.out (g := g) rfl).2
      have c1 := (HF.out.cell (p := ⟨g, k * 3, none⟩) hgl).trans ((HH.out.cellAt (k * 3) (by omega)).trans h1)
      have c2 := (HF.out.cell (p := ⟨g, k * 3 + 1, none⟩) hgl).trans ((HH.out.cellAt (k * 3 + 1) (by omega)).trans h2)
      have c3 := (HF.out.cell (p := ⟨g, k * 3 + 2, none⟩) hgl).trans ((HH.out.cellAt (k * 3 + 2) (by omega)).trans h3)
      obtain ⟨hn1, hm1, hn2, hl1, hl2⟩ := HD.out k t ht
      have HL1 := hide hl1
      have HL2 := hide hl2
      clear ht h1 h2 h3 hl1 hl2 hgl
      obtain ⟨A, n, cc, A2, n2, c2', m⟩ := t
      simp only [It.l, It.long] at c1 c2 hn1 hm1 hn2 HL1 HL2
      subst hn2
      have HBLK := hide (heap_alloc_new wr (.cells #[Value.slice A n cc, Value.slice A2 (n + 40) c2', Value.int .i64 (m : Int)] 91))
      go_wp2_with fail
      clear c1 c2 c3 hB1
      obtain ⟨wo, rfl⟩ : ∃ wo : World, wo = wr := ⟨_, rfl⟩
      have HB0 := hide (HF.out.alloc HF.out.size (.cells #[Value.slice A n cc, Value.slice A2 (n + 40) c2', Value.int .i64 (m : Int)] 91))
      obtain ⟨W0, hW0⟩ : ∃ W0, W0 = wo.alloc (.cells #[Value.slice A n cc, Value.slice A2 (n + 40) c2', Value.int .i64 (m : Int)] 91) := ⟨_, rfl⟩
      rw [← hW0] at HBLK HB0 ⊢
      clear hW0
      go_loopw [5] (fun i wi => ∃ j : Nat, j ≤ n + 40 ∧ i = .int .i64 j ∧ Hid (Below W0.heap.size W0 wi)) (fun i _ => n + 40 - (intOf i).toNat)
      case atStart => exact ⟨0, by omega, rfl, hide (Below.refl _ _)⟩
      case round =>
        obtain ⟨j, hj, rfl, HW⟩ := hrel
        have hblk := (HW.out.block wo.heap.size (lt_of_heap HBLK.out)).trans HBLK.out
        have HB2 := hide (HB0.out.trans (HW.out.mono HB0.out.size))
        have d1 : wr.cell? ⟨wo.heap.size, 0, none⟩ = some (.slice A n cc) := by rw [cell_of_row _ _ _ _ _ _ hblk]; rfl
        have d2 : wr.cell? ⟨wo.heap.size, 1, none⟩ = some (.slice A2 (n + 40) c2') := by rw [cell_of_row _ _ _ _ _ _ hblk]; rfl
        have d3 : wr.cell? ⟨wo.heap.size, 2, none⟩ = some (.int .i64 (m : Int)) := by rw [cell_of_row _ _ _ _ _ _ hblk]; rfl
        clear hblk
        by_cases hjlt : j < n + 40
        · obtain ⟨b, o, rfl, hx⟩ := rep_cell (HL2.out.below HB2.out) hjlt
          have e1 : wr.cell? ⟨b, o + j, none⟩ = some (.int .u8 (mkI_Byte m)) := hx
          have i1 : (0 : Int) ≤ (j : Int) := by omega
          have i2 : (j : Int) < (n : Int) + 40 := by omega
          clear hx
          by_cases hjn : j < n
          · obtain ⟨b', o', rfl, hx⟩ := rep_cell (HL1.out.below HB2.out) hjn
            have e2 : wr.cell? ⟨b', o' + j, none⟩ = some (.int .u8 (mkI_Byte m)) := hx
            have i3 : (j : Int) < (n : Int) := by omega
            have i4 : decide ((j : Int) < (n : Int)) = true := by simp; omega
            have i5 : decide (j < n) = true := by simp; omega
            clear hx
            go_wp2_with fail
            go_quiet ((go_at_call 122; exact Calls.quiet_of_same (is_Byte m _ )))
            go_wp2
            go_roundw
            case rel => exact ⟨j + 1, by omega, by go_num, hide (below_drewN HW.out _)⟩
            case measure => simp [intOf]; omega
          · have i4 : decide ((j : Int) < (n : Int)) = false := by simp; omega
            have i5 : decide (j < n) = false := by simp; omega
            go_wp2_with fail
            go_quiet ((go_at_call 122; exact Calls.quiet_of_same (is_Byte m _ )))
            go_wp2
            go_roundw
            case rel => exact ⟨j + 1, by omega, by go_num, hide (below_drewN HW.out _)⟩
            case measure => simp [intOf]; omega
        · go_wp2
          go_roundw
          case rel => exact ⟨k + 1, by omega, by go_num, HB2⟩
          case measure => simp [intOf]; omega
    · go_wp2
      go_ret
      exact ⟨rfl, HF.out⟩

theorem is_Int (m : Nat) (w : World) (hm : m ≤ 1048576) : Calls Tryz.prog 123 #[.int .i64 (mkI_Int m), .int .i64 (m : Int)] w fun e w' => e = .returned (.bool true) ∧ w' = w := by
  have hq : ((mkI_Int m) == -(m : Int)) = true := by simp [mkI_Int]
  go_enter Tryz.func123, Tryz.ntmps123
  go_wp2
  go_ret
  exact ⟨rfl, rfl⟩

set_option maxRecDepth 100000 in
set_option maxHeartbeats 2000000 in
theorem look_Int (B base c : Nat) (H : Option Addr) (L : List Value) (its : List It) (w : World)
    (hB : w.heap[B]? = some (.cells L.toArray 50 (0, 0))) (hL : L[2]? = some (.slice H its.length c))
    (hH : w.ownsRow base 94 3 (.slice H its.length c) its.length (held its))
    (hn : its.length ≤ 1048576)
    (hd : ∀ (i : Nat) (t : It), its[i]? = some t → t.n ≤ 1073741824 ∧ t.m ≤ 1048576 ∧ t.n2 = t.n + 40 ∧ Lies w t.A t.n (List.replicate t.n (mk_Int t.m)) ∧ Lies w t.A2 (t.n + 40) (List.replicate (t.n + 40) (mk_Int t.m))) :
    Calls Tryz.prog 79 #[.pointer (some ⟨B, 0, none⟩)] w fun e w' => e = .returned (.bool true) ∧ Below w.heap.size w w' := by
  have HB := hide hB
  have HL := hide hL
  have HH := hide hH
  have HD := hide hd
  clear hB hL hH hd
  obtain ⟨N, hN⟩ : ∃ N, N = its.length := ⟨_, rfl⟩
  rw [← hN] at hn HL HH
  have HN := hide hN
  clear hN
  go_enter Tryz.func79, Tryz.ntmps79
  go_wp2
  go_loopw [3] (fun i wr => ∃ k : Nat, k ≤ N ∧ i = .int .i64 k ∧ Hid (Below w.heap.size w wr)) (fun i _ => N - (intOf i).toNat)
  case atStart => exact ⟨0, Nat.zero_le _, rfl, hide (Below.refl _ _)⟩
  case round =>
    obtain ⟨k, hk, rfl, HF⟩ := hrel
    have hB1 : wr.cell? ⟨B, 2, none⟩ = some (.slice H N c) := by
      rw [HF.out.cell (lt_of_heap HB.out), cell_blk HB.out 2]
      exact HL.out
    by_cases hlt : k < N
    · obtain ⟨t, ht⟩ : ∃ t, its[k]? = some t := ⟨its[k]'(by rw [← HN.out]; exact hlt), List.getElem?_eq_getElem _⟩
      obtain ⟨h1, h2, h3⟩ := held_at its k t ht
      obtain ⟨g, rfl⟩ : ∃ g, H = some ⟨g, 0, none⟩ := by
        rcases HH.out.2 with ⟨e, h0⟩ | ⟨g, cap, cur, e, _⟩
        · omega
        · injection e with e; exact ⟨g, e⟩
      have hgl := (own_lt HH.out (g := g) rfl).2
      have c1 := (HF.out.cell (p := ⟨g, k * 3, none⟩) hgl).trans ((HH.out.cellAt (k * 3) (by omega)).trans h1)
      have c2 := (HF.out.cell (p := ⟨g, k * 3 + 1, none⟩) hgl).trans ((HH.out.cellAt (k * 3 + 1) (by omega)).trans h2)
      have c3 := (HF.out.cell (p := ⟨g, k * 3 + 2, none⟩) hgl).trans ((HH.out.cellAt (k * 3 + 2) (by omega)).trans h3)
      obtain ⟨hn1, hm1, hn2, hl1, hl2⟩ := HD.out k t ht
      have HL1 := hide hl1
      have HL2 := hide hl2
      clear ht h1 h2 h3 hl1 hl2 hgl
      obtain ⟨A, n, cc, A2, n2, c2', m⟩ := t
      simp only [It.l, It.long] at c1 c2 hn1 hm1 hn2 HL1 HL2
      subst hn2
      have HBLK := hide (heap_alloc_new wr (.cells #[Value.slice A n cc, Value.slice A2 (n + 40) c2', Value.int .i64 (m : Int)] 94))
      go_wp2_with fail
      clear c1 c2 c3 hB1
      obtain ⟨wo, rfl⟩ : ∃ wo : World, wo = wr := ⟨_, rfl⟩
      have HB0 := hide (HF.out.alloc HF.out.size (.cells #[Value.slice A n cc, Value.slice A2 (n + 40) c2', Value.int .i64 (m : Int)] 94))
      obtain ⟨W0, hW0⟩ : ∃ W0, W0 = wo.alloc (.cells #[Value.slice A n cc, Value.slice A2 (n + 40) c2', Value.int .i64 (m : Int)] 94) := ⟨_, rfl⟩
      rw [← hW0] at HBLK HB0 ⊢
      clear hW0
      go_loopw [5] (fun i wi => ∃ j : Nat, j ≤ n + 40 ∧ i = .int .i64 j ∧ Hid (Below W0.heap.size W0 wi)) (fun i _ => n + 40 - (intOf i).toNat)
      case atStart => exact ⟨0, by omega, rfl, hide (Below.refl _ _)⟩
      case round =>
        obtain ⟨j, hj, rfl, HW⟩ := hrel
        have hblk := (HW.out.block wo.heap.size (lt_of_heap HBLK.out)).trans HBLK.out
        have HB2 := hide (HB0.out.trans (HW.out.mono HB0.out.size))
        have d1 : wr.cell? ⟨wo.heap.size, 0, none⟩ = some (.slice A n cc) := by rw [cell_of_row _ _ _ _ _ _ hblk]; rfl
        have d2 : wr.cell? ⟨wo.heap.size, 1, none⟩ = some (.slice A2 (n + 40) c2') := by rw [cell_of_row _ _ _ _ _ _ hblk]; rfl
        have d3 : wr.cell? ⟨wo.heap.size, 2, none⟩ = some (.int .i64 (m : Int)) := by rw [cell_of_row _ _ _ _ _ _ hblk]; rfl
        clear hblk
        by_cases hjlt : j < n + 40
        · obtain ⟨b, o, rfl, hx⟩ := rep_cell (HL2.out.below HB2.out) hjlt
          have e1 : wr.cell? ⟨b, o + j, none⟩ = some (.int .i64 (mkI_Int m)) := hx
          have i1 : (0 : Int) ≤ (j : Int) := by omega
          have i2 : (j : Int) < (n : Int) + 40 := by omega
          clear hx
          by_cases hjn : j < n
          · obtain ⟨b', o', rfl, hx⟩ := rep_cell (HL1.out.below HB2.out) hjn
            have e2 : wr.cell? ⟨b', o' + j, none⟩ = some (.int .i64 (mkI_Int m)) := hx
            have i3 : (j : Int) < (n : Int) := by omega
            have i4 : decide ((j : Int) < (n : Int)) = true := by simp; omega
            have i5 : decide (j < n) = true := by simp; omega
            clear hx
            go_wp2_with fail
            go_quiet ((go_at_call 123; exact Calls.quiet_of_same (is_Int m _ hm1)))
            go_wp2
            go_roundw
            case rel => exact ⟨j + 1, by omega, by go_num, hide (below_drewN HW.out _)⟩
            case measure => simp [intOf]; omega
          · have i4 : decide ((j : Int) < (n : Int)) = false := by simp; omega
            have i5 : decide (j < n) = false := by simp; omega
            go_wp2_with fail
            go_quiet ((go_at_call 123; exact Calls.quiet_of_same (is_Int m _ hm1)))
            go_wp2
            go_roundw
            case rel => exact ⟨j + 1, by omega, by go_num, hide (below_drewN HW.out _)⟩
            case measure => simp [intOf]; omega
        · go_wp2
          go_roundw
          case rel => exact ⟨k + 1, by omega, by go_num, HB2⟩
          case measure => simp [intOf]; omega
    · go_wp2
      go_ret
      exact ⟨rfl, HF.out⟩

theorem is_Number (m : Nat) (w : World) (hm : m ≤ 1048576) : Calls Tryz.prog 124 #[.int .i32 (mkI_Number m), .int .i64 (m : Int)] w fun e w' => e = .returned (.bool true) ∧ w' = w := by
  have hq : ((mkI_Number m) == -(m : Int)) = true := by simp [mkI_Number]
  go_enter Tryz.func124, Tryz.ntmps124
  go_wp2
  go_ret
  exact ⟨rfl, rfl⟩

set_option maxRecDepth 100000 in
set_option maxHeartbeats 2000000 in
theorem look_Number (B base c : Nat) (H : Option Addr) (L : List Value) (its : List It) (w : World)
    (hB : w.heap[B]? = some (.cells L.toArray 50 (0, 0))) (hL : L[3]? = some (.slice H its.length c))
    (hH : w.ownsRow base 96 3 (.slice H its.length c) its.length (held its))
    (hn : its.length ≤ 1048576)
    (hd : ∀ (i : Nat) (t : It), its[i]? = some t → t.n ≤ 1073741824 ∧ t.m ≤ 1048576 ∧ t.n2 = t.n + 40 ∧ Lies w t.A t.n (List.replicate t.n (mk_Number t.m)) ∧ Lies w t.A2 (t.n + 40) (List.replicate (t.n + 40) (mk_Number t.m))) :
    Calls Tryz.prog 80 #[.pointer (some ⟨B, 0, none⟩)] w fun e w' => e = .returned (.bool true) ∧ Below w.heap.size w w' := by
  have HB := hide hB
  have HL := hide hL
  have HH := hide hH
  have HD := hide hd
  clear hB hL hH hd
  obtain ⟨N, hN⟩ : ∃ N, N = its.length := ⟨_, rfl⟩
  rw [← hN] at hn HL HH
  have HN := hide hN
  clear hN
  go_enter Tryz.func80, Tryz.ntmps80
  go_wp2
  go_loopw [3] (fun i wr => ∃ k : Nat, k ≤ N ∧ i = .int .i64 k ∧ Hid (Below w.heap.size w wr)) (fun i _ => N - (intOf i).toNat)
  case atStart => exact ⟨0, Nat.zero_le _, rfl, hide (Below.refl _ _)⟩
  case round =>
    obtain ⟨k, hk, rfl, HF⟩ := hrel
    have hB1 : wr.cell? ⟨B, 3, none⟩ = some (.slice H N c) := by
      rw [HF.out.cell (lt_of_heap HB.out), cell_blk HB.out 3]
      exact HL.out
    by_cases hlt : k < N
    · obtain ⟨t, ht⟩ : ∃ t, its[k]? = some t := ⟨its[k]'(by rw [← HN.out]; exact hlt), List.getElem?_eq_getElem _⟩
      obtain ⟨h1, h2, h3⟩ := held_at its k t ht
      obtain ⟨g, rfl⟩ : ∃ g, H = some ⟨g, 0, none⟩ := by
        rcases HH.out.2 with ⟨e, h0⟩ | ⟨g, cap, cur, e, _⟩
        · omega
        · injection e with e; exact ⟨g, e⟩
      have hgl := (own_lt HH.out (g := g) rfl).2
      have c1 := (HF.out.cell (p := ⟨g, k * 3, none⟩) hgl).trans ((HH.out.cellAt (k * 3) (by omega)).trans h1)
      have c2 := (HF.out.cell (p := ⟨g, k * 3 + 1, none⟩) hgl).trans ((HH.out.cellAt (k * 3 + 1) (by omega)).trans h2)
      have c3 := (HF.out.cell (p := ⟨g, k * 3 + 2, none⟩) hgl).trans ((HH.out.cellAt (k * 3 + 2) (by omega)).trans h3)
      obtain ⟨hn1, hm1, hn2, hl1, hl2⟩ := HD.out k t ht
      have HL1 := hide hl1
      have HL2 := hide hl2
      clear ht h1 h2 h3 hl1 hl2 hgl
      obtain ⟨A, n, cc, A2, n2, c2', m⟩ := t
      simp only [It.l, It.long] at c1 c2 hn1 hm1 hn2 HL1 HL2
      subst hn2
      have HBLK := hide (heap_alloc_new wr (.cells #[Value.slice A n cc, Value.slice A2 (n + 40) c2', Value.int .i64 (m : Int)] 96))
      go_wp2_with fail
      clear c1 c2 c3 hB1
      obtain ⟨wo, rfl⟩ : ∃ wo : World, wo = wr := ⟨_, rfl⟩
      have HB0 := hide (HF.out.alloc HF.out.size (.cells #[Value.slice A n cc, Value.slice A2 (n + 40) c2', Value.int .i64 (m : Int)] 96))
      obtain ⟨W0, hW0⟩ : ∃ W0, W0 = wo.alloc (.cells #[Value.slice A n cc, Value.slice A2 (n + 40) c2', Value.int .i64 (m : Int)] 96) := ⟨_, rfl⟩
      rw [← hW0] at HBLK HB0 ⊢
      clear hW0
      go_loopw [5] (fun i wi => ∃ j : Nat, j ≤ n + 40 ∧ i = .int .i64 j ∧ Hid (Below W0.heap.size W0 wi)) (fun i _ => n + 40 - (intOf i).toNat)
      case atStart => exact ⟨0, by omega, rfl, hide (Below.refl _ _)⟩
      case round =>
        obtain ⟨j, hj, rfl, HW⟩ := hrel
        have hblk := (HW.out.block wo.heap.size (lt_of_heap HBLK.out)).trans HBLK.out
        have HB2 := hide (HB0.out.trans (HW.out.mono HB0.out.size))
        have d1 : wr.cell? ⟨wo.heap.size, 0, none⟩ = some (.slice A n cc) := by rw [cell_of_row _ _ _ _ _ _ hblk]; rfl
        have d2 : wr.cell? ⟨wo.heap.size, 1, none⟩ = some (.slice A2 (n + 40) c2') := by rw [cell_of_row _ _ _ _ _ _ hblk]; rfl
        have d3 : wr.cell? ⟨wo.heap.size, 2, none⟩ = some (.int .i64 (m : Int)) := by rw [cell_of_row _ _ _ _ _ _ hblk]; rfl
        clear hblk
        by_cases hjlt : j < n + 40
        · obtain ⟨b, o, rfl, hx⟩ := rep_cell (HL2.out.below HB2.out) hjlt
          have e1 : wr.cell? ⟨b, o + j, none⟩ = some (.int .i32 (mkI_Number m)) := hx
          have i1 : (0 : Int) ≤ (j : Int) := by omega
          have i2 : (j : Int) < (n : Int) + 40 := by omega
          clear hx
          by_cases hjn : j < n
          · obtain ⟨b', o', rfl, hx⟩ := rep_cell (HL1.out.below HB2.out) hjn
            have e2 : wr.cell? ⟨b', o' + j, none⟩ = some (.int .i32 (mkI_Number m)) := hx
            have i3 : (j : Int) < (n : Int) := by omega
            have i4 : decide ((j : Int) < (n : Int)) = true := by simp; omega
            have i5 : decide (j < n) = true := by simp; omega
            clear hx
            go_wp2_with fail
            go_quiet ((go_at_call 124; exact Calls.quiet_of_same (is_Number m _ hm1)))
            go_wp2
            go_roundw
            case rel => exact ⟨j + 1, by omega, by go_num, hide (below_drewN HW.out _)⟩
            case measure => simp [intOf]; omega
          · have i4 : decide ((j : Int) < (n : Int)) = false := by simp; omega
            have i5 : decide (j < n) = false := by simp; omega
            go_wp2_with fail
            go_quiet ((go_at_call 124; exact Calls.quiet_of_same (is_Number m _ hm1)))
            go_wp2
            go_roundw
            case rel => exact ⟨j + 1, by omega, by go_num, hide (below_drewN HW.out _)⟩
            case measure => simp [intOf]; omega
        · go_wp2
          go_roundw
          case rel => exact ⟨k + 1, by omega, by go_num, HB2⟩
          case measure => simp [intOf]; omega
    · go_wp2
      go_ret
      exact ⟨rfl, HF.out⟩
end

section
open Go.RowKit

theorem KeepT.drew {T : List TypeId} {w w' : World} (h : KeepT T w w') : KeepT T w w'.drew := ⟨h.os, h.tape, h.output, h.size, h.block⟩
structure KeptIn (w w' : World) (B base : Nat) (bT hT : TypeId) (L : List Value) (f N : Nat) (its : List It) (A : Option Addr) (n c : Nat) (H' : Option Addr) (c' : Nat) : Prop where
  blk : w'.heap[B]? = some (.cells ((L.set 0 (.int .i64 ((N + 1 : Nat) : Int))).set f (.slice H' (its.length + 1) c')).toArray bT (0, 0))
  row : w'.ownsRow base hT 3 (.slice H' (its.length + 1) c') (its.length + 1) (held (its ++ [⟨A, n, c, none, 0, 0, N + 1⟩]))
  keep : KeepT [bT, hT] w w'
  below : Below base w w'

theorem keep_blk {w w' : World} {B : Nat} {o : Obj} {row : Option Nat} (h : w.heap[B]? = some o) (hg : w.grownBy w' row) (hne : some B ≠ row) : w'.heap[B]? = some o := (hg.block B (lt_of_heap h) hne).trans h
theorem blk_set {w : World} {B : Nat} {L : List Value} {t : TypeId} (h : w.heap[B]? = some (.cells L.toArray t (0, 0))) (i : Nat) (u : Value) : (w.setCell ⟨B, i, none⟩ u).heap[B]? = some (.cells (L.set i u).toArray t (0, 0)) := by
  rw [heap_setCell_same w B i L.toArray t u h]
  simp

theorem Tryz.infoH_Byte : (Tryz.prog.info? 91).map (fun i => (i.zero, i.size, i.bytes)) = some (some (.agg #[.slice none 0 0, .slice none 0 0, .int .i64 0]), 3, 56) := by kernel_rfl

set_option maxRecDepth 100000 in
set_option maxHeartbeats 2000000 in
theorem keep_Byte (B base N c n cc : Nat) (H A : Option Addr) (L : List Value) (its : List It) (w : World)
    (hB : w.heap[B]? = some (.cells L.toArray 50 (0, 0))) (hL0 : L[0]? = some (.int .i64 (N : Int))) (hL : L[1]? = some (.slice H its.length c))
    (hH : w.ownsRow base 91 3 (.slice H its.length c) its.length (held its)) (hb : base ≤ w.heap.size) (hbB : base ≤ B) (hN : N ≤ 1048576) (hn : its.length ≤ 1048576) :
    Calls Tryz.prog 99 #[.pointer (some ⟨B, 0, none⟩), .slice A n cc] w fun e w' => e = .returned (.tuple #[]) ∧
      ∃ H' c', KeptIn w w' B base 50 91 L 1 N its A n cc H' c' := by
  have a1 := (cell_blk hB 0).trans hL0
  have a2 := (cell_blk hB 1).trans hL
  have a3 : w.frozen? ⟨B, 0, none⟩ = false := by simp [World.frozen?, hB]
  have hB2 := blk_set hB 0 (.int .i64 ((N : Int) + 1))
  have a4 : (w.setCell ⟨B, 0, none⟩ (.int .i64 ((N : Int) + 1))).cell? ⟨B, 1, none⟩ = some (.slice H its.length c) := by
    rw [cell_blk hB2 1, List.getElem?_set_ne (by decide)]
    exact hL
  have HL0 : Hid (0 < L.length) := hide (List.getElem?_eq_some_iff.1 hL0).1
  have hgs := grown_setCell w ⟨B, 0, none⟩ (.int .i64 ((N : Int) + 1))
  obtain ⟨cB, hcB⟩ : ∃ cB, w.heap[B]? = some (.cells cB 50 (0, 0)) := ⟨_, hB⟩
  have hneB : ∀ (w : World) (cs : List Value) (hB : w.heap[B]? = some (.cells cs.toArray 50 (0, 0))) {v : Value} {k : Nat} {xs : List Value}, w.ownsRow base 91 3 v k xs → v.ownBlock ≠ some B := by
    intro w cs hB v k xs ho e
    obtain ⟨c1, h1⟩ := own_type ho e
    rw [hB] at h1
    injection h1 with h1
    injection h1 with _ h1
    exact absurd h1 (by decide)
  have hH2 : (w.setCell ⟨B, 0, none⟩ (.int .i64 ((N : Int) + 1))).ownsRow base 91 3 (.slice H its.length c) its.length (held its) := hH.kept hgs (.inr (hneB w L hB hH))
  have HLF := hide hL
  have HB := hide hB
  have HB2 := hide hB2
  have HH2 := hide hH2
  have HNE := hide hneB
  have HGS := hide hgs
  clear hB hL0 hL hH hB2 hH2 hneB hgs hcB
  obtain ⟨i0, hi, hz0, hz1, hz2⟩ := info_parts Tryz.infoH_Byte
  have HI := hide hi
  have HZ0 := hide hz0
  have HZ1 := hide hz1
  have HZ2 := hide hz2
  clear hi hz0 hz1 hz2
  go_enter Tryz.func99, Tryz.ntmps99
  go_wp2
  obtain ⟨w1, hw1⟩ : ∃ w1, w1 = w.setCell ⟨B, 0, none⟩ (.int .i64 ((N : Int) + 1)) := ⟨_, rfl⟩
  rw [← hw1] at HB2 HH2 HGS a4 ⊢
  have HW1 := hide hw1
  clear hw1 a1 a2 a3
  have a5 : w1.cell? ⟨B, 0, none⟩ = some (.int .i64 ((N : Int) + 1)) := by
    rw [cell_blk HB2.out 0, List.getElem?_set_self HL0.out]
  have hs1 : w.heap.size ≤ w1.heap.size := HGS.out.size
  have hbs : base ≤ (w1.alloc (.cells #[.slice A n cc, .slice none 0 0, .int .i64 ((N : Int) + 1)] 91)).drew.heap.size := Nat.le_trans hb (Nat.le_trans hs1 (by show w1.heap.size ≤ (w1.alloc _).heap.size; simp))
  have HO3 : Hid ((w1.alloc (.cells #[.slice A n cc, .slice none 0 0, .int .i64 ((N : Int) + 1)] 91)).drew.ownsRow base 91 3 (.slice H its.length c) its.length (held its)) := hide (HH2.out.alloc _)
  have HB3 : Hid ((w1.alloc (.cells #[.slice A n cc, .slice none 0 0, .int .i64 ((N : Int) + 1)] 91)).drew.heap[B]? = some (.cells (L.set 0 (.int .i64 ((N : Int) + 1))).toArray 50 (0, 0))) := hide ((Below.heap_alloc w1 _ B (lt_of_heap HB2.out)).trans HB2.out)
  have HX3 := hide (cells_new w1 [.slice A n cc, .slice none 0 0, .int .i64 ((N : Int) + 1)] 91)
  have a8 : (w1.alloc (.cells #[.slice A n cc, .slice none 0 0, .int .i64 ((N : Int) + 1)] 91)).cell? ⟨B, 1, none⟩ = some (.slice H its.length c) := (World.cell?_of_block (w := w1) (Below.heap_alloc w1 _ B (lt_of_heap HB2.out))).trans a4
  have a6 : w1.frozen? ⟨B, 0, none⟩ = false := by simp [World.frozen?, HB2.out]
  have a7 : w1.frozen? ⟨B, 1, none⟩ = false := by simp [World.frozen?, HB2.out]
  go_region_law (refine step_append_held rfl (.tmp 15) (.tmp 22) 34 rfl 91 i0 (.agg #[.slice none 0 0, .slice none 0 0, .int .i64 0]) 3 56 Tryz.underlying34 HI.out HZ0.out HZ1.out HZ2.out rfl (by decide) base (.slice H its.length c) its.length (held its) rfl HO3.out hbs ⟨w1.heap.size, 0, none⟩ [.slice A n cc, .slice none 0 0, .int .i64 ((N : Int) + 1)] rfl rfl HX3.out (by simp [Value.oneCell']) (by omega) (by unfold maxLen; omega) ?_; intro g2 c2 w2 ho2 hg2; have hb4 := keep_blk HB3.out hg2 (fun e => HNE.out _ _ HB3.out HO3.out e.symm); have k0 : w2.cell? ⟨B, 1, none⟩ = some (.slice H its.length c) := (by rw [cell_blk hb4 1, List.getElem?_set_ne (by decide)]; exact HLF.out); have k1 : w2.frozen? ⟨B, 1, none⟩ = false := (by simp [World.frozen?, hb4]))
  all_goals go_wp2
  all_goals go_end0
  all_goals
    refine ⟨rfl, some ⟨g2, 0, none⟩, c2, ?_⟩
    have hst := grown_setCell w2 ⟨B, 1, none⟩ (.slice (some ⟨g2, 0, none⟩) (its.length + 1) c2)
    have hk1 : KeepT [50, 91] w w1 := KeepT.grown HGS.out (fun b hbb => by injection hbb with hbb; subst hbb; exact ⟨_, _, _, HB.out, by simp⟩)
    have hk2 : KeepT [50, 91] w1 w2 := ((KeepT.refl _ w1).alloc _).drew.trans (KeepT.grown hg2 (fun b hbb => by obtain ⟨cu, hc⟩ := own_type HO3.out hbb; exact ⟨cu, _, _, hc, by simp⟩))
    have hk3 : KeepT [50, 91] w2 (w2.setCell ⟨B, 1, none⟩ (.slice (some ⟨g2, 0, none⟩) (its.length + 1) c2)) := KeepT.grown hst (fun b hbb => by injection hbb with hbb; subst hbb; exact ⟨_, _, _, hb4, by simp⟩)
    refine ⟨?_, ?_, (hk1.trans hk2).trans hk3, ?_⟩
    · exact blk_set hb4 1 _
    · rw [held_snoc]
      exact ho2.kept hst (.inr (HNE.out w2 _ hb4 ho2))
    · refine (((Below.refl base w).grown HGS.out hb (fun b hbb => by injection hbb with hbb; subst hbb; exact hbB)).trans (((Below.refl base w1).alloc (Nat.le_trans hb hs1) _).drew.grown hg2 hbs (fun b hbb => (own_lt HO3.out hbb).1))).grown hst ?_ (fun b hbb => by injection hbb with hbb; subst hbb; exact hbB)
      exact Nat.le_trans hb (hk1.trans hk2).size

theorem Tryz.infoH_Int : (Tryz.prog.info? 94).map (fun i => (i.zero, i.size, i.bytes)) = some (some (.agg #[.slice none 0 0, .slice none 0 0, .int .i64 0]), 3, 56) := by kernel_rfl

set_option maxRecDepth 100000 in
set_option maxHeartbeats 2000000 in
theorem keep_Int (B base N c n cc : Nat) (H A : Option Addr) (L : List Value) (its : List It) (w : World)
    (hB : w.heap[B]? = some (.cells L.toArray 50 (0, 0))) (hL0 : L[0]? = some (.int .i64 (N : Int))) (hL : L[2]? = some (.slice H its.length c))
    (hH : w.ownsRow base 94 3 (.slice H its.length c) its.length (held its)) (hb : base ≤ w.heap.size) (hbB : base ≤ B) (hN : N ≤ 1048576) (hn : its.length ≤ 1048576) :
    Calls Tryz.prog 105 #[.pointer (some ⟨B, 0, none⟩), .slice A n cc] w fun e w' => e = .returned (.tuple #[]) ∧
      ∃ H' c', KeptIn w w' B base 50 94 L 2 N its A n cc H' c' := by
  have a1 := (cell_blk hB 0).trans hL0
  have a2 := (cell_blk hB 2).trans hL
  have a3 : w.frozen? ⟨B, 0, none⟩ = false := by simp [World.frozen?, hB]
  have hB2 := blk_set hB 0 (.int .i64 ((N : Int) + 1))
  have a4 : (w.setCell ⟨B, 0, none⟩ (.int .i64 ((N : Int) + 1))).cell? ⟨B, 2, none⟩ = some (.slice H its.length c) := by
    rw [cell_blk hB2 2, List.getElem?_set_ne (by decide)]
    exact hL
  have HL0 : Hid (0 < L.length) := hide (List.getElem?_eq_some_iff.1 hL0).1
  have hgs := grown_setCell w ⟨B, 0, none⟩ (.int .i64 ((N : Int) + 1))
  obtain ⟨cB, hcB⟩ : ∃ cB, w.heap[B]? = some (.cells cB 50 (0, 0)) := ⟨_, hB⟩
  have hneB : ∀ (w : World) (cs : List Value) (hB : w.heap[B]? = some (.cells cs.toArray 50 (0, 0))) {v : Value} {k : Nat} {xs : List Value}, w.ownsRow base 94 3 v k xs → v.ownBlock ≠ some B := by
    intro w cs hB v k xs ho e
    obtain ⟨c1, h1⟩ := own_type ho e
    rw [hB] at h1
    injection h1 with h1
    injection h1 with _ h1
    exact absurd h1 (by decide)
  have hH2 : (w.setCell ⟨B, 0, none⟩ (.int .i64 ((N : Int) + 1))).ownsRow base 94 3 (.slice H its.length c) its.length (held its) := hH.kept hgs (.inr (hneB w L hB hH))
  have HLF := hide hL
  have HB := hide hB
  have HB2 := hide hB2
  have HH2 := hide hH2
  have HNE := hide hneB
  have HGS := hide hgs
  clear hB hL0 hL hH hB2 hH2 hneB hgs hcB
  obtain ⟨i0, hi, hz0, hz1, hz2⟩ := info_parts Tryz.infoH_Int
  have HI := hide hi
  have HZ0 := hide hz0
  have HZ1 := hide hz1
  have HZ2 := hide hz2
  clear hi hz0 hz1 hz2
  go_enter Tryz.func105, Tryz.ntmps105
  go_wp2
  obtain ⟨w1, hw1⟩ : ∃ w1, w1 = w.setCell ⟨B, 0, none⟩ (.int .i64 ((N : Int) + 1)) := ⟨_, rfl⟩
  rw [← hw1] at HB2 HH2 HGS a4 ⊢
  have HW1 := hide hw1
  clear hw1 a1 a2 a3
  have a5 : w1.cell? ⟨B, 0, none⟩ = some (.int .i64 ((N : Int) + 1)) := by
    rw [cell_blk HB2.out 0, List.getElem?_set_self HL0.out]
  have hs1 : w.heap.size ≤ w1.heap.size := HGS.out.size
  have hbs : base ≤ (w1.alloc (.cells #[.slice A n cc, .slice none 0 0, .int .i64 ((N : Int) + 1)] 94)).drew.heap.size := Nat.le_trans hb (Nat.le_trans hs1 (by show w1.heap.size ≤ (w1.alloc _).heap.size; simp))
  have HO3 : Hid ((w1.alloc (.cells #[.slice A n cc, .slice none 0 0, .int .i64 ((N : Int) + 1)] 94)).drew.ownsRow base 94 3 (.slice H its.length c) its.length (held its)) := hide (HH2.out.alloc _)
  have HB3 : Hid ((w1.alloc (.cells #[.slice A n cc, .slice none 0 0, .int .i64 ((N : Int) + 1)] 94)).drew.heap[B]? = some (.cells (L.set 0 (.int .i64 ((N : Int) + 1))).toArray 50 (0, 0))) := hide ((Below.heap_alloc w1 _ B (lt_of_heap HB2.out)).trans HB2.out)
  have HX3 := hide (cells_new w1 [.slice A n cc, .slice none 0 0, .int .i64 ((N : Int) + 1)] 94)
  have a8 : (w1.alloc (.cells #[.slice A n cc, .slice none 0 0, .int .i64 ((N : Int) + 1)] 94)).cell? ⟨B, 2, none⟩ = some (.slice H its.length c) := (World.cell?_of_block (w := w1) (Below.heap_alloc w1 _ B (lt_of_heap HB2.out))).trans a4
  have a6 : w1.frozen? ⟨B, 0, none⟩ = false := by simp [World.frozen?, HB2.out]
  have a7 : w1.frozen? ⟨B, 2, none⟩ = false := by simp [World.frozen?, HB2.out]
  go_region_law (refine step_append_held rfl (.tmp 15) (.tmp 22) 35 rfl 94 i0 (.agg #[.slice none 0 0, .slice none 0 0, .int .i64 0]) 3 56 Tryz.underlying35 HI.out HZ0.out HZ1.out HZ2.out rfl (by decide) base (.slice H its.length c) its.length (held its) rfl HO3.out hbs ⟨w1.heap.size, 0, none⟩ [.slice A n cc, .slice none 0 0, .int .i64 ((N : Int) + 1)] rfl rfl HX3.out (by simp [Value.oneCell']) (by omega) (by unfold maxLen; omega) ?_; intro g2 c2 w2 ho2 hg2; have hb4 := keep_blk HB3.out hg2 (fun e => HNE.out _ _ HB3.out HO3.out e.symm); have k0 : w2.cell? ⟨B, 2, none⟩ = some (.slice H its.length c) := (by rw [cell_blk hb4 2, List.getElem?_set_ne (by decide)]; exact HLF.out); have k1 : w2.frozen? ⟨B, 2, none⟩ = false := (by simp [World.frozen?, hb4]))
  all_goals go_wp2
  all_goals go_end0
  all_goals
    refine ⟨rfl, some ⟨g2, 0, none⟩, c2, ?_⟩
    have hst := grown_setCell w2 ⟨B, 2, none⟩ (.slice (some ⟨g2, 0, none⟩) (its.length + 1) c2)
    have hk1 : KeepT [50, 94] w w1 := KeepT.grown HGS.out (fun b hbb => by injection hbb with hbb; subst hbb; exact ⟨_, _, _, HB.out, by simp⟩)
    have hk2 : KeepT [50, 94] w1 w2 := ((KeepT.refl _ w1).alloc _).drew.trans (KeepT.grown hg2 (fun b hbb => by obtain ⟨cu, hc⟩ := own_type HO3.out hbb; exact ⟨cu, _, _, hc, by simp⟩))
    have hk3 : KeepT [50, 94] w2 (w2.setCell ⟨B, 2, none⟩ (.slice (some ⟨g2, 0, none⟩) (its.length + 1) c2)) := KeepT.grown hst (fun b hbb => by injection hbb with hbb; subst hbb; exact ⟨_, _, _, hb4, by simp⟩)
    refine ⟨?_, ?_, (hk1.trans hk2).trans hk3, ?_⟩
    · exact blk_set hb4 2 _
    · rw [held_snoc]
      exact ho2.kept hst (.inr (HNE.out w2 _ hb4 ho2))
    · refine (((Below.refl base w).grown HGS.out hb (fun b hbb => by injection hbb with hbb; subst hbb; exact hbB)).trans (((Below.refl base w1).alloc (Nat.le_trans hb hs1) _).drew.grown hg2 hbs (fun b hbb => (own_lt HO3.out hbb).1))).grown hst ?_ (fun b hbb => by injection hbb with hbb; subst hbb; exact hbB)
      exact Nat.le_trans hb (hk1.trans hk2).size

theorem Tryz.infoH_Number : (Tryz.prog.info? 96).map (fun i => (i.zero, i.size, i.bytes)) = some (some (.agg #[.slice none 0 0, .slice none 0 0, .int .i64 0]), 3, 56) := by kernel_rfl

set_option maxRecDepth 100000 in
set_option maxHeartbeats 2000000 in
theorem keep_Number (B base N c n cc : Nat) (H A : Option Addr) (L : List Value) (its : List It) (w : World)
    (hB : w.heap[B]? = some (.cells L.toArray 50 (0, 0))) (hL0 : L[0]? = some (.int .i64 (N : Int))) (hL : L[3]? = some (.slice H its.length c))
    (hH : w.ownsRow base 96 3 (.slice H its.length c) its.length (held its)) (hb : base ≤ w.heap.size) (hbB : base ≤ B) (hN : N ≤ 1048576) (hn : its.length ≤ 1048576) :
    Calls Tryz.prog 106 #[.pointer (some ⟨B, 0, none⟩), .slice A n cc] w fun e w' => e = .returned (.tuple #[]) ∧
      ∃ H' c', KeptIn w w' B base 50 96 L 3 N its A n cc H' c' := by
  have a1 := (cell_blk hB 0).trans hL0
  have a2 := (cell_blk hB 3).trans hL
  have a3 : w.frozen? ⟨B, 0, none⟩ = false := by simp [World.frozen?, hB]
  have hB2 := blk_set hB 0 (.int .i64 ((N : Int) + 1))
  have a4 : (w.setCell ⟨B, 0, none⟩ (.int .i64 ((N : Int) + 1))).cell? ⟨B, 3, none⟩ = some (.slice H its.length c) := by
    rw [cell_blk hB2 3, List.getElem?_set_ne (by decide)]
    exact hL
  have HL0 : Hid (0 < L.length) := hide (List.getElem?_eq_some_iff.1 hL0).1
  have hgs := grown_setCell w ⟨B, 0, none⟩ (.int .i64 ((N : Int) + 1))
  obtain ⟨cB, hcB⟩ : ∃ cB, w.heap[B]? = some (.cells cB 50 (0, 0)) := ⟨_, hB⟩
  have hneB : ∀ (w : World) (cs : List Value) (hB : w.heap[B]? = some (.cells cs.toArray 50 (0, 0))) {v : Value} {k : Nat} {xs : List Value}, w.ownsRow base 96 3 v k xs → v.ownBlock ≠ some B := by
    intro w cs hB v k xs ho e
    obtain ⟨c1, h1⟩ := own_type ho e
    rw [hB] at h1
    injection h1 with h1
    injection h1 with _ h1
    exact absurd h1 (by decide)
  have hH2 : (w.setCell ⟨B, 0, none⟩ (.int .i64 ((N : Int) + 1))).ownsRow base 96 3 (.slice H its.length c) its.length (held its) := hH.kept hgs (.inr (hneB w L hB hH))
  have HLF := hide hL
  have HB := hide hB
  have HB2 := hide hB2
  have HH2 := hide hH2
  have HNE := hide hneB
  have HGS := hide hgs
  clear hB hL0 hL hH hB2 hH2 hneB hgs hcB
  obtain ⟨i0, hi, hz0, hz1, hz2⟩ := info_parts Tryz.infoH_Number
  have HI := hide hi
  have HZ0 := hide hz0
  have HZ1 := hide hz1
  have HZ2 := hide hz2
  clear hi hz0 hz1 hz2
  go_enter Tryz.func106, Tryz.ntmps106
  go_wp2
  obtain ⟨w1, hw1⟩ : ∃ w1, w1 = w.setCell ⟨B, 0, none⟩ (.int .i64 ((N : Int) + 1)) := ⟨_, rfl⟩
  rw [← hw1] at HB2 HH2 HGS a4 ⊢
  have HW1 := hide hw1
  clear hw1 a1 a2 a3
  have a5 : w1.cell? ⟨B, 0, none⟩ = some (.int .i64 ((N : Int) + 1)) := by
    rw [cell_blk HB2.out 0, List.getElem?_set_self HL0.out]
  have hs1 : w.heap.size ≤ w1.heap.size := HGS.out.size
  have hbs : base ≤ (w1.alloc (.cells #[.slice A n cc, .slice none 0 0, .int .i64 ((N : Int) + 1)] 96)).drew.heap.size := Nat.le_trans hb (Nat.le_trans hs1 (by show w1.heap.size ≤ (w1.alloc _).heap.size; simp))
  have HO3 : Hid ((w1.alloc (.cells #[.slice A n cc, .slice none 0 0, .int .i64 ((N : Int) + 1)] 96)).drew.ownsRow base 96 3 (.slice H its.length c) its.length (held its)) := hide (HH2.out.alloc _)
  have HB3 : Hid ((w1.alloc (.cells #[.slice A n cc, .slice none 0 0, .int .i64 ((N : Int) + 1)] 96)).drew.heap[B]? = some (.cells (L.set 0 (.int .i64 ((N : Int) + 1))).toArray 50 (0, 0))) := hide ((Below.heap_alloc w1 _ B (lt_of_heap HB2.out)).trans HB2.out)
  have HX3 := hide (cells_new w1 [.slice A n cc, .slice none 0 0, .int .i64 ((N : Int) + 1)] 96)
  have a8 : (w1.alloc (.cells #[.slice A n cc, .slice none 0 0, .int .i64 ((N : Int) + 1)] 96)).cell? ⟨B, 3, none⟩ = some (.slice H its.length c) := (World.cell?_of_block (w := w1) (Below.heap_alloc w1 _ B (lt_of_heap HB2.out))).trans a4
  have a6 : w1.frozen? ⟨B, 0, none⟩ = false := by simp [World.frozen?, HB2.out]
  have a7 : w1.frozen? ⟨B, 3, none⟩ = false := by simp [World.frozen?, HB2.out]
  go_region_law (refine step_append_held rfl (.tmp 15) (.tmp 22) 36 rfl 96 i0 (.agg #[.slice none 0 0, .slice none 0 0, .int .i64 0]) 3 56 Tryz.underlying36 HI.out HZ0.out HZ1.out HZ2.out rfl (by decide) base (.slice H its.length c) its.length (held its) rfl HO3.out hbs ⟨w1.heap.size, 0, none⟩ [.slice A n cc, .slice none 0 0, .int .i64 ((N : Int) + 1)] rfl rfl HX3.out (by simp [Value.oneCell']) (by omega) (by unfold maxLen; omega) ?_; intro g2 c2 w2 ho2 hg2; have hb4 := keep_blk HB3.out hg2 (fun e => HNE.out _ _ HB3.out HO3.out e.symm); have k0 : w2.cell? ⟨B, 3, none⟩ = some (.slice H its.length c) := (by rw [cell_blk hb4 3, List.getElem?_set_ne (by decide)]; exact HLF.out); have k1 : w2.frozen? ⟨B, 3, none⟩ = false := (by simp [World.frozen?, hb4]))
  all_goals go_wp2
  all_goals go_end0
  all_goals
    refine ⟨rfl, some ⟨g2, 0, none⟩, c2, ?_⟩
    have hst := grown_setCell w2 ⟨B, 3, none⟩ (.slice (some ⟨g2, 0, none⟩) (its.length + 1) c2)
    have hk1 : KeepT [50, 96] w w1 := KeepT.grown HGS.out (fun b hbb => by injection hbb with hbb; subst hbb; exact ⟨_, _, _, HB.out, by simp⟩)
    have hk2 : KeepT [50, 96] w1 w2 := ((KeepT.refl _ w1).alloc _).drew.trans (KeepT.grown hg2 (fun b hbb => by obtain ⟨cu, hc⟩ := own_type HO3.out hbb; exact ⟨cu, _, _, hc, by simp⟩))
    have hk3 : KeepT [50, 96] w2 (w2.setCell ⟨B, 3, none⟩ (.slice (some ⟨g2, 0, none⟩) (its.length + 1) c2)) := KeepT.grown hst (fun b hbb => by injection hbb with hbb; subst hbb; exact ⟨_, _, _, hb4, by simp⟩)
    refine ⟨?_, ?_, (hk1.trans hk2).trans hk3, ?_⟩
    · exact blk_set hb4 3 _
    · rw [held_snoc]
      exact ho2.kept hst (.inr (HNE.out w2 _ hb4 ho2))
    · refine (((Below.refl base w).grown HGS.out hb (fun b hbb => by injection hbb with hbb; subst hbb; exact hbB)).trans (((Below.refl base w1).alloc (Nat.le_trans hb hs1) _).drew.grown hg2 hbs (fun b hbb => (own_lt HO3.out hbb).1))).grown hst ?_ (fun b hbb => by injection hbb with hbb; subst hbb; exact hbB)
      exact Nat.le_trans hb (hk1.trans hk2).size
end

section
open Go.RowKit

theorem fill0_Id (B : Nat) (w : World) (h : w.cell? ⟨B, 4, none⟩ = some (.slice none 0 0)) :
    Calls Tryz.prog 51 #[.pointer (some ⟨B, 0, none⟩)] w fun e w' => e = .returned (.tuple #[]) ∧ w = w' := by
  go_enter Tryz.func51, Tryz.ntmps51
  go_wp2
  refine wp_loop_rounds 1 ?_
  rw [rounds_succ]
  go_wp2
  go_end0
  exact ⟨rfl, rfl⟩
theorem grow0_Id (B : Nat) (w : World) (h : w.cell? ⟨B, 4, none⟩ = some (.slice none 0 0)) :
    Calls Tryz.prog 66 #[.pointer (some ⟨B, 0, none⟩)] w fun e w' => e = .returned (.tuple #[]) ∧ w = w' := by
  go_enter Tryz.func66, Tryz.ntmps66
  go_wp2
  refine wp_loop_rounds 1 ?_
  rw [rounds_succ]
  go_wp2
  go_end0
  exact ⟨rfl, rfl⟩
theorem look0_Id (B : Nat) (w : World) (h : w.cell? ⟨B, 4, none⟩ = some (.slice none 0 0)) :
    Calls Tryz.prog 81 #[.pointer (some ⟨B, 0, none⟩)] w fun e w' => e = .returned (.bool true) ∧ w = w' := by
  go_enter Tryz.func81, Tryz.ntmps81
  go_wp2
  refine wp_loop_rounds 1 ?_
  rw [rounds_succ]
  go_wp2
  go_ret
  exact ⟨rfl, rfl⟩
theorem fill0_Text (B : Nat) (w : World) (h : w.cell? ⟨B, 5, none⟩ = some (.slice none 0 0)) :
    Calls Tryz.prog 52 #[.pointer (some ⟨B, 0, none⟩)] w fun e w' => e = .returned (.tuple #[]) ∧ w = w' := by
  go_enter Tryz.func52, Tryz.ntmps52
  go_wp2
  refine wp_loop_rounds 1 ?_
  rw [rounds_succ]
  go_wp2
  go_end0
  exact ⟨rfl, rfl⟩
theorem grow0_Text (B : Nat) (w : World) (h : w.cell? ⟨B, 5, none⟩ = some (.slice none 0 0)) :
    Calls Tryz.prog 67 #[.pointer (some ⟨B, 0, none⟩)] w fun e w' => e = .returned (.tuple #[]) ∧ w = w' := by
  go_enter Tryz.func67, Tryz.ntmps67
  go_wp2
  refine wp_loop_rounds 1 ?_
  rw [rounds_succ]
  go_wp2
  go_end0
  exact ⟨rfl, rfl⟩
theorem look0_Text (B : Nat) (w : World) (h : w.cell? ⟨B, 5, none⟩ = some (.slice none 0 0)) :
    Calls Tryz.prog 82 #[.pointer (some ⟨B, 0, none⟩)] w fun e w' => e = .returned (.bool true) ∧ w = w' := by
  go_enter Tryz.func82, Tryz.ntmps82
  go_wp2
  refine wp_loop_rounds 1 ?_
  rw [rounds_succ]
  go_wp2
  go_ret
  exact ⟨rfl, rfl⟩
theorem fill0_Tensor (B : Nat) (w : World) (h : w.cell? ⟨B, 6, none⟩ = some (.slice none 0 0)) :
    Calls Tryz.prog 53 #[.pointer (some ⟨B, 0, none⟩)] w fun e w' => e = .returned (.tuple #[]) ∧ w = w' := by
  go_enter Tryz.func53, Tryz.ntmps53
  go_wp2
  refine wp_loop_rounds 1 ?_
  rw [rounds_succ]
  go_wp2
  go_end0
  exact ⟨rfl, rfl⟩
theorem grow0_Tensor (B : Nat) (w : World) (h : w.cell? ⟨B, 6, none⟩ = some (.slice none 0 0)) :
    Calls Tryz.prog 68 #[.pointer (some ⟨B, 0, none⟩)] w fun e w' => e = .returned (.tuple #[]) ∧ w = w' := by
  go_enter Tryz.func68, Tryz.ntmps68
  go_wp2
  refine wp_loop_rounds 1 ?_
  rw [rounds_succ]
  go_wp2
  go_end0
  exact ⟨rfl, rfl⟩
theorem look0_Tensor (B : Nat) (w : World) (h : w.cell? ⟨B, 6, none⟩ = some (.slice none 0 0)) :
    Calls Tryz.prog 83 #[.pointer (some ⟨B, 0, none⟩)] w fun e w' => e = .returned (.bool true) ∧ w = w' := by
  go_enter Tryz.func83, Tryz.ntmps83
  go_wp2
  refine wp_loop_rounds 1 ?_
  rw [rounds_succ]
  go_wp2
  go_ret
  exact ⟨rfl, rfl⟩
theorem fill0_Node (B : Nat) (w : World) (h : w.cell? ⟨B, 7, none⟩ = some (.slice none 0 0)) :
    Calls Tryz.prog 54 #[.pointer (some ⟨B, 0, none⟩)] w fun e w' => e = .returned (.tuple #[]) ∧ w = w' := by
  go_enter Tryz.func54, Tryz.ntmps54
  go_wp2
  refine wp_loop_rounds 1 ?_
  rw [rounds_succ]
  go_wp2
  go_end0
  exact ⟨rfl, rfl⟩
theorem grow0_Node (B : Nat) (w : World) (h : w.cell? ⟨B, 7, none⟩ = some (.slice none 0 0)) :
    Calls Tryz.prog 69 #[.pointer (some ⟨B, 0, none⟩)] w fun e w' => e = .returned (.tuple #[]) ∧ w = w' := by
  go_enter Tryz.func69, Tryz.ntmps69
  go_wp2
  refine wp_loop_rounds 1 ?_
  rw [rounds_succ]
  go_wp2
  go_end0
  exact ⟨rfl, rfl⟩
theorem look0_Node (B : Nat) (w : World) (h : w.cell? ⟨B, 7, none⟩ = some (.slice none 0 0)) :
    Calls Tryz.prog 84 #[.pointer (some ⟨B, 0, none⟩)] w fun e w' => e = .returned (.bool true) ∧ w = w' := by
  go_enter Tryz.func84, Tryz.ntmps84
  go_wp2
  refine wp_loop_rounds 1 ?_
  rw [rounds_succ]
  go_wp2
  go_ret
  exact ⟨rfl, rfl⟩
theorem fill0_Step (B : Nat) (w : World) (h : w.cell? ⟨B, 8, none⟩ = some (.slice none 0 0)) :
    Calls Tryz.prog 55 #[.pointer (some ⟨B, 0, none⟩)] w fun e w' => e = .returned (.tuple #[]) ∧ w = w' := by
  go_enter Tryz.func55, Tryz.ntmps55
  go_wp2
  refine wp_loop_rounds 1 ?_
  rw [rounds_succ]
  go_wp2
  go_end0
  exact ⟨rfl, rfl⟩
theorem grow0_Step (B : Nat) (w : World) (h : w.cell? ⟨B, 8, none⟩ = some (.slice none 0 0)) :
    Calls Tryz.prog 70 #[.pointer (some ⟨B, 0, none⟩)] w fun e w' => e = .returned (.tuple #[]) ∧ w = w' := by
  go_enter Tryz.func70, Tryz.ntmps70
  go_wp2
  refine wp_loop_rounds 1 ?_
  rw [rounds_succ]
  go_wp2
  go_end0
  exact ⟨rfl, rfl⟩
theorem look0_Step (B : Nat) (w : World) (h : w.cell? ⟨B, 8, none⟩ = some (.slice none 0 0)) :
    Calls Tryz.prog 85 #[.pointer (some ⟨B, 0, none⟩)] w fun e w' => e = .returned (.bool true) ∧ w = w' := by
  go_enter Tryz.func85, Tryz.ntmps85
  go_wp2
  refine wp_loop_rounds 1 ?_
  rw [rounds_succ]
  go_wp2
  go_ret
  exact ⟨rfl, rfl⟩
theorem fill0_Cost (B : Nat) (w : World) (h : w.cell? ⟨B, 9, none⟩ = some (.slice none 0 0)) :
    Calls Tryz.prog 56 #[.pointer (some ⟨B, 0, none⟩)] w fun e w' => e = .returned (.tuple #[]) ∧ w = w' := by
  go_enter Tryz.func56, Tryz.ntmps56
  go_wp2
  refine wp_loop_rounds 1 ?_
  rw [rounds_succ]
  go_wp2
  go_end0
  exact ⟨rfl, rfl⟩
theorem grow0_Cost (B : Nat) (w : World) (h : w.cell? ⟨B, 9, none⟩ = some (.slice none 0 0)) :
    Calls Tryz.prog 71 #[.pointer (some ⟨B, 0, none⟩)] w fun e w' => e = .returned (.tuple #[]) ∧ w = w' := by
  go_enter Tryz.func71, Tryz.ntmps71
  go_wp2
  refine wp_loop_rounds 1 ?_
  rw [rounds_succ]
  go_wp2
  go_end0
  exact ⟨rfl, rfl⟩
theorem look0_Cost (B : Nat) (w : World) (h : w.cell? ⟨B, 9, none⟩ = some (.slice none 0 0)) :
    Calls Tryz.prog 86 #[.pointer (some ⟨B, 0, none⟩)] w fun e w' => e = .returned (.bool true) ∧ w = w' := by
  go_enter Tryz.func86, Tryz.ntmps86
  go_wp2
  refine wp_loop_rounds 1 ?_
  rw [rounds_succ]
  go_wp2
  go_ret
  exact ⟨rfl, rfl⟩
theorem fill0_Record (B : Nat) (w : World) (h : w.cell? ⟨B, 10, none⟩ = some (.slice none 0 0)) :
    Calls Tryz.prog 57 #[.pointer (some ⟨B, 0, none⟩)] w fun e w' => e = .returned (.tuple #[]) ∧ w = w' := by
  go_enter Tryz.func57, Tryz.ntmps57
  go_wp2
  refine wp_loop_rounds 1 ?_
  rw [rounds_succ]
  go_wp2
  go_end0
  exact ⟨rfl, rfl⟩
theorem grow0_Record (B : Nat) (w : World) (h : w.cell? ⟨B, 10, none⟩ = some (.slice none 0 0)) :
    Calls Tryz.prog 72 #[.pointer (some ⟨B, 0, none⟩)] w fun e w' => e = .returned (.tuple #[]) ∧ w = w' := by
  go_enter Tryz.func72, Tryz.ntmps72
  go_wp2
  refine wp_loop_rounds 1 ?_
  rw [rounds_succ]
  go_wp2
  go_end0
  exact ⟨rfl, rfl⟩
theorem look0_Record (B : Nat) (w : World) (h : w.cell? ⟨B, 10, none⟩ = some (.slice none 0 0)) :
    Calls Tryz.prog 87 #[.pointer (some ⟨B, 0, none⟩)] w fun e w' => e = .returned (.bool true) ∧ w = w' := by
  go_enter Tryz.func87, Tryz.ntmps87
  go_wp2
  refine wp_loop_rounds 1 ?_
  rw [rounds_succ]
  go_wp2
  go_ret
  exact ⟨rfl, rfl⟩
theorem fill0_Place (B : Nat) (w : World) (h : w.cell? ⟨B, 11, none⟩ = some (.slice none 0 0)) :
    Calls Tryz.prog 58 #[.pointer (some ⟨B, 0, none⟩)] w fun e w' => e = .returned (.tuple #[]) ∧ w = w' := by
  go_enter Tryz.func58, Tryz.ntmps58
  go_wp2
  refine wp_loop_rounds 1 ?_
  rw [rounds_succ]
  go_wp2
  go_end0
  exact ⟨rfl, rfl⟩
theorem grow0_Place (B : Nat) (w : World) (h : w.cell? ⟨B, 11, none⟩ = some (.slice none 0 0)) :
    Calls Tryz.prog 73 #[.pointer (some ⟨B, 0, none⟩)] w fun e w' => e = .returned (.tuple #[]) ∧ w = w' := by
  go_enter Tryz.func73, Tryz.ntmps73
  go_wp2
  refine wp_loop_rounds 1 ?_
  rw [rounds_succ]
  go_wp2
  go_end0
  exact ⟨rfl, rfl⟩
theorem look0_Place (B : Nat) (w : World) (h : w.cell? ⟨B, 11, none⟩ = some (.slice none 0 0)) :
    Calls Tryz.prog 88 #[.pointer (some ⟨B, 0, none⟩)] w fun e w' => e = .returned (.bool true) ∧ w = w' := by
  go_enter Tryz.func88, Tryz.ntmps88
  go_wp2
  refine wp_loop_rounds 1 ?_
  rw [rounds_succ]
  go_wp2
  go_ret
  exact ⟨rfl, rfl⟩
theorem fill0_Ask (B : Nat) (w : World) (h : w.cell? ⟨B, 12, none⟩ = some (.slice none 0 0)) :
    Calls Tryz.prog 59 #[.pointer (some ⟨B, 0, none⟩)] w fun e w' => e = .returned (.tuple #[]) ∧ w = w' := by
  go_enter Tryz.func59, Tryz.ntmps59
  go_wp2
  refine wp_loop_rounds 1 ?_
  rw [rounds_succ]
  go_wp2
  go_end0
  exact ⟨rfl, rfl⟩
theorem grow0_Ask (B : Nat) (w : World) (h : w.cell? ⟨B, 12, none⟩ = some (.slice none 0 0)) :
    Calls Tryz.prog 74 #[.pointer (some ⟨B, 0, none⟩)] w fun e w' => e = .returned (.tuple #[]) ∧ w = w' := by
  go_enter Tryz.func74, Tryz.ntmps74
  go_wp2
  refine wp_loop_rounds 1 ?_
  rw [rounds_succ]
  go_wp2
  go_end0
  exact ⟨rfl, rfl⟩
theorem look0_Ask (B : Nat) (w : World) (h : w.cell? ⟨B, 12, none⟩ = some (.slice none 0 0)) :
    Calls Tryz.prog 89 #[.pointer (some ⟨B, 0, none⟩)] w fun e w' => e = .returned (.bool true) ∧ w = w' := by
  go_enter Tryz.func89, Tryz.ntmps89
  go_wp2
  refine wp_loop_rounds 1 ?_
  rw [rounds_succ]
  go_wp2
  go_ret
  exact ⟨rfl, rfl⟩
theorem fill0_Done (B : Nat) (w : World) (h : w.cell? ⟨B, 13, none⟩ = some (.slice none 0 0)) :
    Calls Tryz.prog 60 #[.pointer (some ⟨B, 0, none⟩)] w fun e w' => e = .returned (.tuple #[]) ∧ w = w' := by
  go_enter Tryz.func60, Tryz.ntmps60
  go_wp2
  refine wp_loop_rounds 1 ?_
  rw [rounds_succ]
  go_wp2
  go_end0
  exact ⟨rfl, rfl⟩
theorem grow0_Done (B : Nat) (w : World) (h : w.cell? ⟨B, 13, none⟩ = some (.slice none 0 0)) :
    Calls Tryz.prog 75 #[.pointer (some ⟨B, 0, none⟩)] w fun e w' => e = .returned (.tuple #[]) ∧ w = w' := by
  go_enter Tryz.func75, Tryz.ntmps75
  go_wp2
  refine wp_loop_rounds 1 ?_
  rw [rounds_succ]
  go_wp2
  go_end0
  exact ⟨rfl, rfl⟩
theorem look0_Done (B : Nat) (w : World) (h : w.cell? ⟨B, 13, none⟩ = some (.slice none 0 0)) :
    Calls Tryz.prog 90 #[.pointer (some ⟨B, 0, none⟩)] w fun e w' => e = .returned (.bool true) ∧ w = w' := by
  go_enter Tryz.func90, Tryz.ntmps90
  go_wp2
  refine wp_loop_rounds 1 ?_
  rw [rounds_succ]
  go_wp2
  go_ret
  exact ⟨rfl, rfl⟩
theorem fill0_Grid (B : Nat) (w : World) (h : w.cell? ⟨B, 14, none⟩ = some (.slice none 0 0)) :
    Calls Tryz.prog 61 #[.pointer (some ⟨B, 0, none⟩)] w fun e w' => e = .returned (.tuple #[]) ∧ w = w' := by
  go_enter Tryz.func61, Tryz.ntmps61
  go_wp2
  refine wp_loop_rounds 1 ?_
  rw [rounds_succ]
  go_wp2
  go_end0
  exact ⟨rfl, rfl⟩
theorem grow0_Grid (B : Nat) (w : World) (h : w.cell? ⟨B, 14, none⟩ = some (.slice none 0 0)) :
    Calls Tryz.prog 76 #[.pointer (some ⟨B, 0, none⟩)] w fun e w' => e = .returned (.tuple #[]) ∧ w = w' := by
  go_enter Tryz.func76, Tryz.ntmps76
  go_wp2
  refine wp_loop_rounds 1 ?_
  rw [rounds_succ]
  go_wp2
  go_end0
  exact ⟨rfl, rfl⟩
theorem look0_Grid (B : Nat) (w : World) (h : w.cell? ⟨B, 14, none⟩ = some (.slice none 0 0)) :
    Calls Tryz.prog 91 #[.pointer (some ⟨B, 0, none⟩)] w fun e w' => e = .returned (.bool true) ∧ w = w' := by
  go_enter Tryz.func91, Tryz.ntmps91
  go_wp2
  refine wp_loop_rounds 1 ?_
  rw [rounds_succ]
  go_wp2
  go_ret
  exact ⟨rfl, rfl⟩
theorem fill0_List (B : Nat) (w : World) (h : w.cell? ⟨B, 15, none⟩ = some (.slice none 0 0)) :
    Calls Tryz.prog 62 #[.pointer (some ⟨B, 0, none⟩)] w fun e w' => e = .returned (.tuple #[]) ∧ w = w' := by
  go_enter Tryz.func62, Tryz.ntmps62
  go_wp2
  refine wp_loop_rounds 1 ?_
  rw [rounds_succ]
  go_wp2
  go_end0
  exact ⟨rfl, rfl⟩
theorem grow0_List (B : Nat) (w : World) (h : w.cell? ⟨B, 15, none⟩ = some (.slice none 0 0)) :
    Calls Tryz.prog 77 #[.pointer (some ⟨B, 0, none⟩)] w fun e w' => e = .returned (.tuple #[]) ∧ w = w' := by
  go_enter Tryz.func77, Tryz.ntmps77
  go_wp2
  refine wp_loop_rounds 1 ?_
  rw [rounds_succ]
  go_wp2
  go_end0
  exact ⟨rfl, rfl⟩
theorem look0_List (B : Nat) (w : World) (h : w.cell? ⟨B, 15, none⟩ = some (.slice none 0 0)) :
    Calls Tryz.prog 92 #[.pointer (some ⟨B, 0, none⟩)] w fun e w' => e = .returned (.bool true) ∧ w = w' := by
  go_enter Tryz.func92, Tryz.ntmps92
  go_wp2
  refine wp_loop_rounds 1 ?_
  rw [rounds_succ]
  go_wp2
  go_ret
  exact ⟨rfl, rfl⟩
end

section
open Go.RowKit

theorem rows1_keep {T : List TypeId} {w w' : World} {base : Nat} {e : TypeId} {its : List It} (h : Rows1 w base e its) (hk : KeepT T w w') (he : e ∉ T) : Rows1 w' base e its :=
  ⟨fun i t ht => by obtain ⟨xs, hx⟩ := h.own i t ht; exact ⟨xs, hk.own hx he⟩, h.apart⟩
/-- Each list that is held is full of its mark. -/
def Full (w : World) (base : Nat) (e : TypeId) (mk : Nat → Value) (its : List It) : Prop := ∀ (i : Nat) (t : It), its[i]? = some t → w.ownsRow base e 1 t.l t.n (List.replicate t.n (mk t.m))
theorem full_keep {T : List TypeId} {w w' : World} {base : Nat} {e : TypeId} {mk : Nat → Value} {its : List It} (h : Full w base e mk its) (hk : KeepT T w w') (he : e ∉ T) : Full w' base e mk its :=
  fun i t ht => hk.own (h i t ht) he
/-- Each list that is held, and the longer one behind it, are full of their mark. -/
structure Long (w : World) (base : Nat) (e : TypeId) (mk : Nat → Value) (its0 its : List It) : Prop where
  len : its.length = its0.length
  all : ∀ (i : Nat) (t : It), its[i]? = some t → t.n2 = t.n + 40 ∧ Lies w t.A t.n (List.replicate t.n (mk t.m)) ∧ w.ownsRow base e 1 t.long (t.n + 40) (List.replicate (t.n + 40) (mk t.m)) ∧ ∀ g, t.l.ownBlock = some g → ∃ cur, w.heap[g]? = some (.cells cur e (0, 0))
  same : ∀ (i : Nat) (t t0 : It), its[i]? = some t → its0[i]? = some t0 → t.A = t0.A ∧ t.n = t0.n ∧ t.c = t0.c ∧ t.m = t0.m
theorem Long.of {w wr : World} {base : Nat} {e hT : TypeId} {mk : Nat → Value} {H : Option Addr} {c : Nat} {its0 its : List It} (h : GrowTo w wr base e hT mk H c its0 its its.length) : Long wr base e mk its0 its :=
  ⟨h.len, fun i t ht => by
    obtain ⟨a, b, c, _, d⟩ := h.done i t (List.getElem?_eq_some_iff.1 ht).1 ht
    exact ⟨a, b, c, d⟩, h.same⟩
theorem long_keep {T : List TypeId} {w w' : World} {base : Nat} {e : TypeId} {mk : Nat → Value} {its0 its : List It} (h : Long w base e mk its0 its) (hk : KeepT T w w') (he : e ∉ T) : Long w' base e mk its0 its :=
  ⟨h.len, fun i t ht => by
    obtain ⟨a, b, c, d⟩ := h.all i t ht
    refine ⟨a, b.keepT (c := t.c) hk d he, hk.own c he, fun g hg => ?_⟩
    obtain ⟨cur, hc⟩ := d g hg
    exact ⟨cur, hk.blk hc he⟩, h.same⟩
theorem long_look {w : World} {base : Nat} {e : TypeId} {mk : Nat → Value} {its0 its : List It} (h : Long w base e mk its0 its) (hs : ∀ (i : Nat) (t : It), its0[i]? = some t → t.n ≤ 1073741824 ∧ t.m ≤ 1048576) :
    ∀ (i : Nat) (t : It), its[i]? = some t → t.n ≤ 1073741824 ∧ t.m ≤ 1048576 ∧ t.n2 = t.n + 40 ∧ Lies w t.A t.n (List.replicate t.n (mk t.m)) ∧ Lies w t.A2 (t.n + 40) (List.replicate (t.n + 40) (mk t.m)) := by
  intro i t ht
  obtain ⟨a, b, c, _⟩ := h.all i t ht
  obtain ⟨t0, ht0⟩ : ∃ t0, its0[i]? = some t0 := ⟨its0[i]'(by rw [← h.len]; exact (List.getElem?_eq_some_iff.1 ht).1), List.getElem?_eq_getElem _⟩
  obtain ⟨_, e2, _, e4⟩ := h.same i t t0 ht ht0
  obtain ⟨s1, s2⟩ := hs i t0 ht0
  refine ⟨e2 ▸ s1, e4 ▸ s2, a, b, ?_⟩
  rw [It.long, a] at c
  exact lies_of_own c

theorem add_Byte (B base N c n cc : Nat) (H A : Option Addr) (L : List Value) (its : List It) (w : World)
    (hB : w.heap[B]? = some (.cells L.toArray 50 (0, 0))) (hL0 : L[0]? = some (.int .i64 (N : Int))) (hL : L[1]? = some (.slice H its.length c))
    (hH : w.ownsRow base 91 3 (.slice H its.length c) its.length (held its)) (hb : base ≤ w.heap.size) (hbB : base ≤ B) (hN : N ≤ 1048576) (hn : its.length ≤ 1048576) :
    Calls Tryz.prog 27 #[.pointer (some ⟨B, 0, none⟩), .slice A n cc] w fun e w' => e = .returned (.tuple #[]) ∧
      ∃ H' c', KeptIn w w' B base 50 91 L 1 N its A n cc H' c' := by
  have HC := hide (keep_Byte B base N c n cc H A L its w hB hL0 hL hH hb hbB hN hn)
  clear hB hL0 hL hH
  go_enter Tryz.func27, Tryz.ntmps27
  go_wp2_with fail
  refine Calls.mono HC.out ?_
  rintro e w1 ⟨rfl, h⟩
  have HK := hide h
  clear h
  go_wp2
  go_end0
  exact ⟨rfl, HK.out⟩

theorem add_Int (B base N c n cc : Nat) (H A : Option Addr) (L : List Value) (its : List It) (w : World)
    (hB : w.heap[B]? = some (.cells L.toArray 50 (0, 0))) (hL0 : L[0]? = some (.int .i64 (N : Int))) (hL : L[2]? = some (.slice H its.length c))
    (hH : w.ownsRow base 94 3 (.slice H its.length c) its.length (held its)) (hb : base ≤ w.heap.size) (hbB : base ≤ B) (hN : N ≤ 1048576) (hn : its.length ≤ 1048576) :
    Calls Tryz.prog 46 #[.pointer (some ⟨B, 0, none⟩), .slice A n cc] w fun e w' => e = .returned (.tuple #[]) ∧
      ∃ H' c', KeptIn w w' B base 50 94 L 2 N its A n cc H' c' := by
  have HC := hide (keep_Int B base N c n cc H A L its w hB hL0 hL hH hb hbB hN hn)
  clear hB hL0 hL hH
  go_enter Tryz.func46, Tryz.ntmps46
  go_wp2_with fail
  refine Calls.mono HC.out ?_
  rintro e w1 ⟨rfl, h⟩
  have HK := hide h
  clear h
  go_wp2
  go_end0
  exact ⟨rfl, HK.out⟩

theorem add_Number (B base N c n cc : Nat) (H A : Option Addr) (L : List Value) (its : List It) (w : World)
    (hB : w.heap[B]? = some (.cells L.toArray 50 (0, 0))) (hL0 : L[0]? = some (.int .i64 (N : Int))) (hL : L[3]? = some (.slice H its.length c))
    (hH : w.ownsRow base 96 3 (.slice H its.length c) its.length (held its)) (hb : base ≤ w.heap.size) (hbB : base ≤ B) (hN : N ≤ 1048576) (hn : its.length ≤ 1048576) :
    Calls Tryz.prog 47 #[.pointer (some ⟨B, 0, none⟩), .slice A n cc] w fun e w' => e = .returned (.tuple #[]) ∧
      ∃ H' c', KeptIn w w' B base 50 96 L 3 N its A n cc H' c' := by
  have HC := hide (keep_Number B base N c n cc H A L its w hB hL0 hL hH hb hbB hN hn)
  clear hB hL0 hL hH
  go_enter Tryz.func47, Tryz.ntmps47
  go_wp2_with fail
  refine Calls.mono HC.out ?_
  rintro e w1 ⟨rfl, h⟩
  have HK := hide h
  clear h
  go_wp2
  go_end0
  exact ⟨rfl, HK.out⟩

def bookCells (N : Nat) (HByte : Option Addr) (cByte : Nat) (iByte : List It) (HInt : Option Addr) (cInt : Nat) (iInt : List It) (HNumber : Option Addr) (cNumber : Nat) (iNumber : List It) : List Value := [.int .i64 (N : Int), .slice HByte iByte.length cByte, .slice HInt iInt.length cInt, .slice HNumber iNumber.length cNumber, .slice none 0 0, .slice none 0 0, .slice none 0 0, .slice none 0 0, .slice none 0 0, .slice none 0 0, .slice none 0 0, .slice none 0 0, .slice none 0 0, .slice none 0 0, .slice none 0 0, .slice none 0 0]
structure BkAt (w : World) (B base N : Nat) (HByte : Option Addr) (cByte : Nat) (iByte : List It) (HInt : Option Addr) (cInt : Nat) (iInt : List It) (HNumber : Option Addr) (cNumber : Nat) (iNumber : List It) : Prop where
  blk : w.heap[B]? = some (.cells (bookCells N HByte cByte iByte HInt cInt iInt HNumber cNumber iNumber).toArray 50 (0, 0))
  rowByte : w.ownsRow base 91 3 (.slice HByte iByte.length cByte) iByte.length (held iByte)
  listsByte : Rows1 w base 5 iByte
  manyByte : iByte.length ≤ N
  smallByte : ∀ (i : Nat) (t : It), iByte[i]? = some t → t.n ≤ 1073741824 ∧ t.m ≤ 1048576
  rowInt : w.ownsRow base 94 3 (.slice HInt iInt.length cInt) iInt.length (held iInt)
  listsInt : Rows1 w base 3 iInt
  manyInt : iInt.length ≤ N
  smallInt : ∀ (i : Nat) (t : It), iInt[i]? = some t → t.n ≤ 1073741824 ∧ t.m ≤ 1048576
  rowNumber : w.ownsRow base 96 3 (.slice HNumber iNumber.length cNumber) iNumber.length (held iNumber)
  listsNumber : Rows1 w base 21 iNumber
  manyNumber : iNumber.length ≤ N
  smallNumber : ∀ (i : Nat) (t : It), iNumber[i]? = some t → t.n ≤ 1073741824 ∧ t.m ≤ 1048576
  baseW : base ≤ w.heap.size
  baseB : base ≤ B
  few : N ≤ 1048000
theorem BkAt.addByte {w w' : World} {B base N : Nat} {HByte : Option Addr} {cByte : Nat} {iByte : List It} {HInt : Option Addr} {cInt : Nat} {iInt : List It} {HNumber : Option Addr} {cNumber : Nat} {iNumber : List It} {A H' : Option Addr} {n c c' : Nat} {xs : List Value} (h : BkAt w B base N HByte cByte iByte HInt cInt iInt HNumber cNumber iNumber)
    (hk : KeptIn w w' B base 50 91 (bookCells N HByte cByte iByte HInt cInt iInt HNumber cNumber iNumber) 1 N iByte A n c H' c') (ho : w.ownsRow base 5 1 (.slice A n c) n xs) (hn : n ≤ 1073741824) (hN : N + 1 ≤ 1048000)
    (ha : ∀ (i : Nat) (t : It), iByte[i]? = some t → (t.l.ownBlock = none ∨ t.l.ownBlock ≠ (Value.slice A n c).ownBlock) ∧ ((Value.slice A n c).ownBlock = none ∨ (Value.slice A n c).ownBlock ≠ t.l.ownBlock)) :
    BkAt w' B base (N + 1) H' c' (iByte ++ [⟨A, n, c, none, 0, 0, N + 1⟩]) HInt cInt iInt HNumber cNumber iNumber := by
  have hat : ∀ (i : Nat) (t : It), (iByte ++ [⟨A, n, c, none, 0, 0, N + 1⟩])[i]? = some t → iByte[i]? = some t ∨ (i = iByte.length ∧ t = ⟨A, n, c, none, 0, 0, N + 1⟩) := by
    intro i t ht
    by_cases hi : i < iByte.length
    · rw [List.getElem?_append_left hi] at ht; exact .inl ht
    · rw [List.getElem?_append_right (by omega)] at ht
      have h0 : i - iByte.length = 0 := by have := (List.getElem?_eq_some_iff.1 ht).1; simp at this; omega
      rw [h0] at ht
      simp at ht
      exact .inr ⟨by omega, ht.symm⟩
  have hlt : ∀ (i : Nat) (t : It), iByte[i]? = some t → i < iByte.length := fun i t ht => (List.getElem?_eq_some_iff.1 ht).1
  refine ⟨?_, ?_, ?_, ?_, ?_, hk.keep.own h.rowInt (by decide), rows1_keep h.listsInt hk.keep (by decide), Nat.le_succ_of_le h.manyInt, h.smallInt, hk.keep.own h.rowNumber (by decide), rows1_keep h.listsNumber hk.keep (by decide), Nat.le_succ_of_le h.manyNumber, h.smallNumber, Nat.le_trans h.baseW hk.keep.size, h.baseB, hN⟩
  · have hb := hk.blk
    simpa [bookCells] using hb
  · have hr := hk.row
    simpa using hr
  · refine ⟨fun i t ht => ?_, fun i j t u hij ht hu => ?_⟩
    · rcases hat i t ht with h1 | ⟨_, rfl⟩
      · obtain ⟨ys, hy⟩ := h.listsByte.own i t h1
        exact ⟨ys, hk.keep.own hy (by decide)⟩
      · exact ⟨xs, hk.keep.own ho (by decide)⟩
    · rcases hat i t ht with h1 | ⟨e1, rfl⟩
      · rcases hat j u hu with h2 | ⟨e2, rfl⟩
        · exact h.listsByte.apart i j t u hij h1 h2
        · exact (ha i t h1).1
      · rcases hat j u hu with h2 | ⟨e2, rfl⟩
        · exact (ha j u h2).2
        · omega
  · have := h.manyByte
    simp
    omega
  · intro i t ht
    rcases hat i t ht with h1 | ⟨_, rfl⟩
    · exact h.smallByte i t h1
    · exact ⟨hn, by show N + 1 ≤ 1048576; omega⟩

theorem BkAt.addInt {w w' : World} {B base N : Nat} {HByte : Option Addr} {cByte : Nat} {iByte : List It} {HInt : Option Addr} {cInt : Nat} {iInt : List It} {HNumber : Option Addr} {cNumber : Nat} {iNumber : List It} {A H' : Option Addr} {n c c' : Nat} {xs : List Value} (h : BkAt w B base N HByte cByte iByte HInt cInt iInt HNumber cNumber iNumber)
    (hk : KeptIn w w' B base 50 94 (bookCells N HByte cByte iByte HInt cInt iInt HNumber cNumber iNumber) 2 N iInt A n c H' c') (ho : w.ownsRow base 3 1 (.slice A n c) n xs) (hn : n ≤ 1073741824) (hN : N + 1 ≤ 1048000)
    (ha : ∀ (i : Nat) (t : It), iInt[i]? = some t → (t.l.ownBlock = none ∨ t.l.ownBlock ≠ (Value.slice A n c).ownBlock) ∧ ((Value.slice A n c).ownBlock = none ∨ (Value.slice A n c).ownBlock ≠ t.l.ownBlock)) :
    BkAt w' B base (N + 1) HByte cByte iByte H' c' (iInt ++ [⟨A, n, c, none, 0, 0, N + 1⟩]) HNumber cNumber iNumber := by
  have hat : ∀ (i : Nat) (t : It), (iInt ++ [⟨A, n, c, none, 0, 0, N + 1⟩])[i]? = some t → iInt[i]? = some t ∨ (i = iInt.length ∧ t = ⟨A, n, c, none, 0, 0, N + 1⟩) := by
    intro i t ht
    by_cases hi : i < iInt.length
    · rw [List.getElem?_append_left hi] at ht; exact .inl ht
    · rw [List.getElem?_append_right (by omega)] at ht
      have h0 : i - iInt.length = 0 := by have := (List.getElem?_eq_some_iff.1 ht).1; simp at this; omega
      rw [h0] at ht
      simp at ht
      exact .inr ⟨by omega, ht.symm⟩
  have hlt : ∀ (i : Nat) (t : It), iInt[i]? = some t → i < iInt.length := fun i t ht => (List.getElem?_eq_some_iff.1 ht).1
  refine ⟨?_, hk.keep.own h.rowByte (by decide), rows1_keep h.listsByte hk.keep (by decide), Nat.le_succ_of_le h.manyByte, h.smallByte, ?_, ?_, ?_, ?_, hk.keep.own h.rowNumber (by decide), rows1_keep h.listsNumber hk.keep (by decide), Nat.le_succ_of_le h.manyNumber, h.smallNumber, Nat.le_trans h.baseW hk.keep.size, h.baseB, hN⟩
  · have hb := hk.blk
    simpa [bookCells] using hb
  · have hr := hk.row
    simpa using hr
  · refine ⟨fun i t ht => ?_, fun i j t u hij ht hu => ?_⟩
    · rcases hat i t ht with h1 | ⟨_, rfl⟩
      · obtain ⟨ys, hy⟩ := h.listsInt.own i t h1
        exact ⟨ys, hk.keep.own hy (by decide)⟩
      · exact ⟨xs, hk.keep.own ho (by decide)⟩
    · rcases hat i t ht with h1 | ⟨e1, rfl⟩
      · rcases hat j u hu with h2 | ⟨e2, rfl⟩
        · exact h.listsInt.apart i j t u hij h1 h2
        · exact (ha i t h1).1
      · rcases hat j u hu with h2 | ⟨e2, rfl⟩
        · exact (ha j u h2).2
        · omega
  · have := h.manyInt
    simp
    omega
  · intro i t ht
    rcases hat i t ht with h1 | ⟨_, rfl⟩
    · exact h.smallInt i t h1
    · exact ⟨hn, by show N + 1 ≤ 1048576; omega⟩

theorem BkAt.addNumber {w w' : World} {B base N : Nat} {HByte : Option Addr} {cByte : Nat} {iByte : List It} {HInt : Option Addr} {cInt : Nat} {iInt : List It} {HNumber : Option Addr} {cNumber : Nat} {iNumber : List It} {A H' : Option Addr} {n c c' : Nat} {xs : List Value} (h : BkAt w B base N HByte cByte iByte HInt cInt iInt HNumber cNumber iNumber)
    (hk : KeptIn w w' B base 50 96 (bookCells N HByte cByte iByte HInt cInt iInt HNumber cNumber iNumber) 3 N iNumber A n c H' c') (ho : w.ownsRow base 21 1 (.slice A n c) n xs) (hn : n ≤ 1073741824) (hN : N + 1 ≤ 1048000)
    (ha : ∀ (i : Nat) (t : It), iNumber[i]? = some t → (t.l.ownBlock = none ∨ t.l.ownBlock ≠ (Value.slice A n c).ownBlock) ∧ ((Value.slice A n c).ownBlock = none ∨ (Value.slice A n c).ownBlock ≠ t.l.ownBlock)) :
    BkAt w' B base (N + 1) HByte cByte iByte HInt cInt iInt H' c' (iNumber ++ [⟨A, n, c, none, 0, 0, N + 1⟩]) := by
  have hat : ∀ (i : Nat) (t : It), (iNumber ++ [⟨A, n, c, none, 0, 0, N + 1⟩])[i]? = some t → iNumber[i]? = some t ∨ (i = iNumber.length ∧ t = ⟨A, n, c, none, 0, 0, N + 1⟩) := by
    intro i t ht
    by_cases hi : i < iNumber.length
    · rw [List.getElem?_append_left hi] at ht; exact .inl ht
    · rw [List.getElem?_append_right (by omega)] at ht
      have h0 : i - iNumber.length = 0 := by have := (List.getElem?_eq_some_iff.1 ht).1; simp at this; omega
      rw [h0] at ht
      simp at ht
      exact .inr ⟨by omega, ht.symm⟩
  have hlt : ∀ (i : Nat) (t : It), iNumber[i]? = some t → i < iNumber.length := fun i t ht => (List.getElem?_eq_some_iff.1 ht).1
  refine ⟨?_, hk.keep.own h.rowByte (by decide), rows1_keep h.listsByte hk.keep (by decide), Nat.le_succ_of_le h.manyByte, h.smallByte, hk.keep.own h.rowInt (by decide), rows1_keep h.listsInt hk.keep (by decide), Nat.le_succ_of_le h.manyInt, h.smallInt, ?_, ?_, ?_, ?_, Nat.le_trans h.baseW hk.keep.size, h.baseB, hN⟩
  · have hb := hk.blk
    simpa [bookCells] using hb
  · have hr := hk.row
    simpa using hr
  · refine ⟨fun i t ht => ?_, fun i j t u hij ht hu => ?_⟩
    · rcases hat i t ht with h1 | ⟨_, rfl⟩
      · obtain ⟨ys, hy⟩ := h.listsNumber.own i t h1
        exact ⟨ys, hk.keep.own hy (by decide)⟩
      · exact ⟨xs, hk.keep.own ho (by decide)⟩
    · rcases hat i t ht with h1 | ⟨e1, rfl⟩
      · rcases hat j u hu with h2 | ⟨e2, rfl⟩
        · exact h.listsNumber.apart i j t u hij h1 h2
        · exact (ha i t h1).1
      · rcases hat j u hu with h2 | ⟨e2, rfl⟩
        · exact (ha j u h2).2
        · omega
  · have := h.manyNumber
    simp
    omega
  · intro i t ht
    rcases hat i t ht with h1 | ⟨_, rfl⟩
    · exact h.smallNumber i t h1
    · exact ⟨hn, by show N + 1 ≤ 1048576; omega⟩

set_option maxRecDepth 100000 in
set_option maxHeartbeats 4000000 in
theorem apart_any (w : World) (B base N : Nat) (HByte : Option Addr) (cByte : Nat) (iByte : List It) (HInt : Option Addr) (cInt : Nat) (iInt : List It) (HNumber : Option Addr) (cNumber : Nat) (iNumber : List It) (h : BkAt w B base N HByte cByte iByte HInt cInt iInt HNumber cNumber iNumber) :
    Calls Tryz.prog 19 #[.pointer (some ⟨B, 0, none⟩)] w fun e w' => e = .returned (.bool true) ∧ Below base w w' := by
  have hbase := h.baseW
  have HBK0 := hide h.blk
  have HRByte0 := hide h.rowByte
  have HFByte0 := hide h.listsByte
  have HSByte := hide h.smallByte
  have hmByte : iByte.length ≤ 1048576 := by have := h.manyByte; have := h.few; omega
  have HRInt0 := hide h.rowInt
  have HFInt0 := hide h.listsInt
  have HSInt := hide h.smallInt
  have hmInt : iInt.length ≤ 1048576 := by have := h.manyInt; have := h.few; omega
  have HRNumber0 := hide h.rowNumber
  have HFNumber0 := hide h.listsNumber
  have HSNumber := hide h.smallNumber
  have hmNumber : iNumber.length ≤ 1048576 := by have := h.manyNumber; have := h.few; omega
  have HBB0 : Hid (Below base w w) := hide (Below.refl _ _)
  have hsz0 : base ≤ w.heap.size := hbase
  clear h hbase
  obtain ⟨w0, hw0⟩ : ∃ w0, w0 = w := ⟨_, rfl⟩
  have HW0 := hide hw0
  go_enter Tryz.func19, Tryz.ntmps19
  clear hw0 HW0 w0
  go_wp2_with fail
  refine (fill_Byte B base cByte HByte _ iByte _ HBK0.out rfl HRByte0.out HFByte0.out hsz0 hmByte (fun i t ht => ⟨Nat.le_trans (HSByte.out i t ht).1 (by omega), (HSByte.out i t ht).2⟩)).mono ?_
  rintro e w1 ⟨rfl, hF⟩
  have HAByte := hide HFByte0.out.apart
  have HBK1 := hide (hF.keep.blk HBK0.out (by decide))
  have HRByte1 := hide (hF.keep.own HRByte0.out (by decide))
  have HFByte1 : Hid (Full w1 base 5 mk_Byte iByte) := hide (fun i t ht => hF.done i t (List.getElem?_eq_some_iff.1 ht).1 ht)
  have HRInt1 := hide (hF.keep.own HRInt0.out (by decide))
  have HFInt1 := hide (rows1_keep HFInt0.out hF.keep (by decide))
  have HRNumber1 := hide (hF.keep.own HRNumber0.out (by decide))
  have HFNumber1 := hide (rows1_keep HFNumber0.out hF.keep (by decide))
  have HBB1 := hide (HBB0.out.trans hF.below)
  have hsz1 : base ≤ w1.heap.size := Nat.le_trans hsz0 hF.keep.size
  clear hF HRByte0 HFByte0 HRInt0 HFInt0 HRNumber0 HFNumber0 HBK0 HBB0
  go_wp2_with fail
  refine (fill_Int B base cInt HInt _ iInt _ HBK1.out rfl HRInt1.out HFInt1.out hsz1 hmInt (fun i t ht => ⟨Nat.le_trans (HSInt.out i t ht).1 (by omega), (HSInt.out i t ht).2⟩)).mono ?_
  rintro e w2 ⟨rfl, hF⟩
  have HAInt := hide HFInt1.out.apart
  have HBK2 := hide (hF.keep.blk HBK1.out (by decide))
  have HRByte2 := hide (hF.keep.own HRByte1.out (by decide))
  have HFByte2 := hide (full_keep HFByte1.out hF.keep (by decide))
  have HRInt2 := hide (hF.keep.own HRInt1.out (by decide))
  have HFInt2 : Hid (Full w2 base 3 mk_Int iInt) := hide (fun i t ht => hF.done i t (List.getElem?_eq_some_iff.1 ht).1 ht)
  have HRNumber2 := hide (hF.keep.own HRNumber1.out (by decide))
  have HFNumber2 := hide (rows1_keep HFNumber1.out hF.keep (by decide))
  have HBB2 := hide (HBB1.out.trans hF.below)
  have hsz2 : base ≤ w2.heap.size := Nat.le_trans hsz1 hF.keep.size
  clear hF HRByte1 HFByte1 HRInt1 HFInt1 HRNumber1 HFNumber1 HBK1 HBB1
  go_wp2_with fail
  refine (fill_Number B base cNumber HNumber _ iNumber _ HBK2.out rfl HRNumber2.out HFNumber2.out hsz2 hmNumber (fun i t ht => ⟨Nat.le_trans (HSNumber.out i t ht).1 (by omega), (HSNumber.out i t ht).2⟩)).mono ?_
  rintro e w3 ⟨rfl, hF⟩
  have HANumber := hide HFNumber2.out.apart
  have HBK3 := hide (hF.keep.blk HBK2.out (by decide))
  have HRByte3 := hide (hF.keep.own HRByte2.out (by decide))
  have HFByte3 := hide (full_keep HFByte2.out hF.keep (by decide))
  have HRInt3 := hide (hF.keep.own HRInt2.out (by decide))
  have HFInt3 := hide (full_keep HFInt2.out hF.keep (by decide))
  have HRNumber3 := hide (hF.keep.own HRNumber2.out (by decide))
  have HFNumber3 : Hid (Full w3 base 21 mk_Number iNumber) := hide (fun i t ht => hF.done i t (List.getElem?_eq_some_iff.1 ht).1 ht)
  have HBB3 := hide (HBB2.out.trans hF.below)
  have hsz3 : base ≤ w3.heap.size := Nat.le_trans hsz2 hF.keep.size
  clear hF HRByte2 HFByte2 HRInt2 HFInt2 HRNumber2 HFNumber2 HBK2 HBB2
  go_wp2_with fail
  refine (fill0_Id B _ (cell_blk HBK3.out 4)).mono ?_
  rintro e w' ⟨rfl, rfl⟩
  go_wp2_with fail
  refine (fill0_Text B _ (cell_blk HBK3.out 5)).mono ?_
  rintro e w' ⟨rfl, rfl⟩
  go_wp2_with fail
  refine (fill0_Tensor B _ (cell_blk HBK3.out 6)).mono ?_
  rintro e w' ⟨rfl, rfl⟩
  go_wp2_with fail
  refine (fill0_Node B _ (cell_blk HBK3.out 7)).mono ?_
  rintro e w' ⟨rfl, rfl⟩
  go_wp2_with fail
  refine (fill0_Step B _ (cell_blk HBK3.out 8)).mono ?_
  rintro e w' ⟨rfl, rfl⟩
  go_wp2_with fail
  refine (fill0_Cost B _ (cell_blk HBK3.out 9)).mono ?_
  rintro e w' ⟨rfl, rfl⟩
  go_wp2_with fail
  refine (fill0_Record B _ (cell_blk HBK3.out 10)).mono ?_
  rintro e w' ⟨rfl, rfl⟩
  go_wp2_with fail
  refine (fill0_Place B _ (cell_blk HBK3.out 11)).mono ?_
  rintro e w' ⟨rfl, rfl⟩
  go_wp2_with fail
  refine (fill0_Ask B _ (cell_blk HBK3.out 12)).mono ?_
  rintro e w' ⟨rfl, rfl⟩
  go_wp2_with fail
  refine (fill0_Done B _ (cell_blk HBK3.out 13)).mono ?_
  rintro e w' ⟨rfl, rfl⟩
  go_wp2_with fail
  refine (fill0_Grid B _ (cell_blk HBK3.out 14)).mono ?_
  rintro e w' ⟨rfl, rfl⟩
  go_wp2_with fail
  refine (fill0_List B _ (cell_blk HBK3.out 15)).mono ?_
  rintro e w' ⟨rfl, rfl⟩
  go_wp2_with fail
  refine (grow_Byte B base cByte HByte _ iByte _ HBK3.out rfl (GrowTo.start (by decide) HRByte3.out HFByte3.out HAByte.out) hsz3 hmByte HSByte.out).mono ?_
  rintro e w4 ⟨rfl, jByte, hF⟩
  have HBK4 := hide (hF.keep.blk HBK3.out (by decide))
  have HRByte4 := hide hF.row
  have HFByte4 := hide (Long.of hF)
  have HRInt4 := hide (hF.keep.own HRInt3.out (by decide))
  have HFInt4 := hide (full_keep HFInt3.out hF.keep (by decide))
  have HRNumber4 := hide (hF.keep.own HRNumber3.out (by decide))
  have HFNumber4 := hide (full_keep HFNumber3.out hF.keep (by decide))
  have HBB4 := hide (HBB3.out.trans hF.below)
  have hsz4 : base ≤ w4.heap.size := Nat.le_trans hsz3 hF.keep.size
  clear hF HRByte3 HFByte3 HRInt3 HFInt3 HRNumber3 HFNumber3 HBK3 HBB3
  go_wp2_with fail
  refine (grow_Int B base cInt HInt _ iInt _ HBK4.out rfl (GrowTo.start (by decide) HRInt4.out HFInt4.out HAInt.out) hsz4 hmInt HSInt.out).mono ?_
  rintro e w5 ⟨rfl, jInt, hF⟩
  have HBK5 := hide (hF.keep.blk HBK4.out (by decide))
  have HRByte5 := hide (hF.keep.own HRByte4.out (by decide))
  have HFByte5 := hide (long_keep HFByte4.out hF.keep (by decide))
  have HRInt5 := hide hF.row
  have HFInt5 := hide (Long.of hF)
  have HRNumber5 := hide (hF.keep.own HRNumber4.out (by decide))
  have HFNumber5 := hide (full_keep HFNumber4.out hF.keep (by decide))
  have HBB5 := hide (HBB4.out.trans hF.below)
  have hsz5 : base ≤ w5.heap.size := Nat.le_trans hsz4 hF.keep.size
  clear hF HRByte4 HFByte4 HRInt4 HFInt4 HRNumber4 HFNumber4 HBK4 HBB4
  go_wp2_with fail
  refine (grow_Number B base cNumber HNumber _ iNumber _ HBK5.out rfl (GrowTo.start (by decide) HRNumber5.out HFNumber5.out HANumber.out) hsz5 hmNumber HSNumber.out).mono ?_
  rintro e w6 ⟨rfl, jNumber, hF⟩
  have HBK6 := hide (hF.keep.blk HBK5.out (by decide))
  have HRByte6 := hide (hF.keep.own HRByte5.out (by decide))
  have HFByte6 := hide (long_keep HFByte5.out hF.keep (by decide))
  have HRInt6 := hide (hF.keep.own HRInt5.out (by decide))
  have HFInt6 := hide (long_keep HFInt5.out hF.keep (by decide))
  have HRNumber6 := hide hF.row
  have HFNumber6 := hide (Long.of hF)
  have HBB6 := hide (HBB5.out.trans hF.below)
  have hsz6 : base ≤ w6.heap.size := Nat.le_trans hsz5 hF.keep.size
  clear hF HRByte5 HFByte5 HRInt5 HFInt5 HRNumber5 HFNumber5 HBK5 HBB5
  go_wp2_with fail
  refine (grow0_Id B _ (cell_blk HBK6.out 4)).mono ?_
  rintro e w' ⟨rfl, rfl⟩
  go_wp2_with fail
  refine (grow0_Text B _ (cell_blk HBK6.out 5)).mono ?_
  rintro e w' ⟨rfl, rfl⟩
  go_wp2_with fail
  refine (grow0_Tensor B _ (cell_blk HBK6.out 6)).mono ?_
  rintro e w' ⟨rfl, rfl⟩
  go_wp2_with fail
  refine (grow0_Node B _ (cell_blk HBK6.out 7)).mono ?_
  rintro e w' ⟨rfl, rfl⟩
  go_wp2_with fail
  refine (grow0_Step B _ (cell_blk HBK6.out 8)).mono ?_
  rintro e w' ⟨rfl, rfl⟩
  go_wp2_with fail
  refine (grow0_Cost B _ (cell_blk HBK6.out 9)).mono ?_
  rintro e w' ⟨rfl, rfl⟩
  go_wp2_with fail
  refine (grow0_Record B _ (cell_blk HBK6.out 10)).mono ?_
  rintro e w' ⟨rfl, rfl⟩
  go_wp2_with fail
  refine (grow0_Place B _ (cell_blk HBK6.out 11)).mono ?_
  rintro e w' ⟨rfl, rfl⟩
  go_wp2_with fail
  refine (grow0_Ask B _ (cell_blk HBK6.out 12)).mono ?_
  rintro e w' ⟨rfl, rfl⟩
  go_wp2_with fail
  refine (grow0_Done B _ (cell_blk HBK6.out 13)).mono ?_
  rintro e w' ⟨rfl, rfl⟩
  go_wp2_with fail
  refine (grow0_Grid B _ (cell_blk HBK6.out 14)).mono ?_
  rintro e w' ⟨rfl, rfl⟩
  go_wp2_with fail
  refine (grow0_List B _ (cell_blk HBK6.out 15)).mono ?_
  rintro e w' ⟨rfl, rfl⟩
  go_wp2_with fail
  refine (look_Byte B base cByte HByte _ jByte _ HBK6.out (by rw [HFByte6.out.len]; rfl) HRByte6.out (by rw [HFByte6.out.len]; exact hmByte) (long_look HFByte6.out HSByte.out)).mono ?_
  rintro e w7 ⟨rfl, hF⟩
  have hkT : KeepT [] w6 w7 := KeepT.below hF
  have HBK7 := hide (hkT.blk HBK6.out (by decide))
  have HRByte7 := hide (hkT.own HRByte6.out (by decide))
  have HFByte7 := hide (long_keep HFByte6.out hkT (by decide))
  have HRInt7 := hide (hkT.own HRInt6.out (by decide))
  have HFInt7 := hide (long_keep HFInt6.out hkT (by decide))
  have HRNumber7 := hide (hkT.own HRNumber6.out (by decide))
  have HFNumber7 := hide (long_keep HFNumber6.out hkT (by decide))
  have HBB7 := hide (HBB6.out.trans (hF.mono hsz6))
  have hsz7 : base ≤ w7.heap.size := Nat.le_trans hsz6 hF.size
  clear hF hkT HRByte6 HFByte6 HRInt6 HFInt6 HRNumber6 HFNumber6 HBK6 HBB6
  go_wp2_with fail
  refine (look_Int B base cInt HInt _ jInt _ HBK7.out (by rw [HFInt7.out.len]; rfl) HRInt7.out (by rw [HFInt7.out.len]; exact hmInt) (long_look HFInt7.out HSInt.out)).mono ?_
  rintro e w8 ⟨rfl, hF⟩
  have hkT : KeepT [] w7 w8 := KeepT.below hF
  have HBK8 := hide (hkT.blk HBK7.out (by decide))
  have HRByte8 := hide (hkT.own HRByte7.out (by decide))
  have HFByte8 := hide (long_keep HFByte7.out hkT (by decide))
  have HRInt8 := hide (hkT.own HRInt7.out (by decide))
  have HFInt8 := hide (long_keep HFInt7.out hkT (by decide))
  have HRNumber8 := hide (hkT.own HRNumber7.out (by decide))
  have HFNumber8 := hide (long_keep HFNumber7.out hkT (by decide))
  have HBB8 := hide (HBB7.out.trans (hF.mono hsz7))
  have hsz8 : base ≤ w8.heap.size := Nat.le_trans hsz7 hF.size
  clear hF hkT HRByte7 HFByte7 HRInt7 HFInt7 HRNumber7 HFNumber7 HBK7 HBB7
  go_wp2_with fail
  refine (look_Number B base cNumber HNumber _ jNumber _ HBK8.out (by rw [HFNumber8.out.len]; rfl) HRNumber8.out (by rw [HFNumber8.out.len]; exact hmNumber) (long_look HFNumber8.out HSNumber.out)).mono ?_
  rintro e w9 ⟨rfl, hF⟩
  have hkT : KeepT [] w8 w9 := KeepT.below hF
  have HBK9 := hide (hkT.blk HBK8.out (by decide))
  have HRByte9 := hide (hkT.own HRByte8.out (by decide))
  have HFByte9 := hide (long_keep HFByte8.out hkT (by decide))
  have HRInt9 := hide (hkT.own HRInt8.out (by decide))
  have HFInt9 := hide (long_keep HFInt8.out hkT (by decide))
  have HRNumber9 := hide (hkT.own HRNumber8.out (by decide))
  have HFNumber9 := hide (long_keep HFNumber8.out hkT (by decide))
  have HBB9 := hide (HBB8.out.trans (hF.mono hsz8))
  have hsz9 : base ≤ w9.heap.size := Nat.le_trans hsz8 hF.size
  clear hF hkT HRByte8 HFByte8 HRInt8 HFInt8 HRNumber8 HFNumber8 HBK8 HBB8
  go_wp2_with fail
  refine (look0_Id B _ (cell_blk HBK9.out 4)).mono ?_
  rintro e w' ⟨rfl, rfl⟩
  go_wp2_with fail
  refine (look0_Text B _ (cell_blk HBK9.out 5)).mono ?_
  rintro e w' ⟨rfl, rfl⟩
  go_wp2_with fail
  refine (look0_Tensor B _ (cell_blk HBK9.out 6)).mono ?_
  rintro e w' ⟨rfl, rfl⟩
  go_wp2_with fail
  refine (look0_Node B _ (cell_blk HBK9.out 7)).mono ?_
  rintro e w' ⟨rfl, rfl⟩
  go_wp2_with fail
  refine (look0_Step B _ (cell_blk HBK9.out 8)).mono ?_
  rintro e w' ⟨rfl, rfl⟩
  go_wp2_with fail
  refine (look0_Cost B _ (cell_blk HBK9.out 9)).mono ?_
  rintro e w' ⟨rfl, rfl⟩
  go_wp2_with fail
  refine (look0_Record B _ (cell_blk HBK9.out 10)).mono ?_
  rintro e w' ⟨rfl, rfl⟩
  go_wp2_with fail
  refine (look0_Place B _ (cell_blk HBK9.out 11)).mono ?_
  rintro e w' ⟨rfl, rfl⟩
  go_wp2_with fail
  refine (look0_Ask B _ (cell_blk HBK9.out 12)).mono ?_
  rintro e w' ⟨rfl, rfl⟩
  go_wp2_with fail
  refine (look0_Done B _ (cell_blk HBK9.out 13)).mono ?_
  rintro e w' ⟨rfl, rfl⟩
  go_wp2_with fail
  refine (look0_Grid B _ (cell_blk HBK9.out 14)).mono ?_
  rintro e w' ⟨rfl, rfl⟩
  go_wp2_with fail
  refine (look0_List B _ (cell_blk HBK9.out 15)).mono ?_
  rintro e w' ⟨rfl, rfl⟩
  go_wp2
  go_ret
  exact ⟨rfl, HBB9.out⟩
end

section
open Go.RowKit
set_option linter.unusedVariables false
set_option linter.unusedSimpArgs false

theorem BkAt.below {w w' : World} {B base N : Nat} {HByte : Option Addr} {cByte : Nat} {iByte : List It} {HInt : Option Addr} {cInt : Nat} {iInt : List It} {HNumber : Option Addr} {cNumber : Nat} {iNumber : List It} (h : BkAt w B base N HByte cByte iByte HInt cInt iInt HNumber cNumber iNumber) (hb : Below w.heap.size w w') :
    BkAt w' B base N HByte cByte iByte HInt cInt iInt HNumber cNumber iNumber :=
  have k : KeepT [] w w' := KeepT.below hb
  ⟨k.blk h.blk (by simp), k.own h.rowByte (by simp), rows1_keep h.listsByte k (by simp), h.manyByte, h.smallByte, k.own h.rowInt (by simp), rows1_keep h.listsInt k (by simp), h.manyInt, h.smallInt,
    k.own h.rowNumber (by simp), rows1_keep h.listsNumber k (by simp), h.manyNumber, h.smallNumber, Nat.le_trans h.baseW hb.size, h.baseB, h.few⟩

/-- A list apart from all that are held. -/
def ApartOf (its : List It) (v : Value) : Prop := ∀ (i : Nat) (t : It), its[i]? = some t → (t.l.ownBlock = none ∨ t.l.ownBlock ≠ v.ownBlock) ∧ (v.ownBlock = none ∨ v.ownBlock ≠ t.l.ownBlock)

set_option maxHeartbeats 1000000 in
theorem book_tensor (w : World) (B base N : Nat) (HByte : Option Addr) (cByte : Nat) (iByte : List It) (HInt : Option Addr) (cInt : Nat) (iInt : List It) (HNumber : Option Addr) (cNumber : Nat) (iNumber : List It)
    (A A2 : Option Addr) (n c m d : Nat) (xs ys : List Value) (h : BkAt w B base N HByte cByte iByte HInt cInt iInt HNumber cNumber iNumber)
    (ho : w.ownsRow base 3 1 (.slice A n c) n xs) (hp : w.ownsRow base 21 1 (.slice A2 m d) m ys) (hn : n ≤ 1073741824) (hm : m ≤ 1073741824) (hN : N + 2 ≤ 1048000)
    (ha : ApartOf iInt (.slice A n c)) (hc : ApartOf iNumber (.slice A2 m d)) :
    Calls Tryz.prog 18 #[.pointer (some ⟨B, 0, none⟩), tenV A n c A2 m d] w fun e w' => e = .returned (.tuple #[]) ∧
      (∃ H1 c1 H2 c2, BkAt w' B base (N + 2) HByte cByte iByte H1 c1 (iInt ++ [⟨A, n, c, none, 0, 0, N + 1⟩]) H2 c2 (iNumber ++ [⟨A2, m, d, none, 0, 0, N + 2⟩])) ∧
      KeepT [50, 94, 96] w w' ∧ Below base w w' := by
  have hBW := h.baseW
  have hBB := h.baseB
  have hlt : B < w.heap.size := lt_of_heap h.blk
  have hf := h.few
  have hi := h.manyInt
  have hj := h.manyNumber
  obtain ⟨W, hW⟩ : ∃ W, W = w.alloc (.cells #[.slice A n c, .slice A2 m d] 25) := ⟨_, rfl⟩
  have HX0 : Hid (BoxT W w.heap.size (.slice A n c) (.slice A2 m d)) := hide (by rw [hW]; exact BoxT.new w _ _)
  have hbw : Below w.heap.size w W := by rw [hW]; exact (Below.refl w.heap.size w).alloc (Nat.le_refl _) _
  have HK0 := hide (h.below hbw)
  have HO0 := hide (own_below ho hbw)
  have HP0 := hide (own_below hp hbw)
  have HKe0 : Hid (KeepT [50, 94, 96] w W) := hide (KeepT.below hbw)
  have HB0 : Hid (Below base w W) := hide (hbw.mono hBW)
  have hW' := hW.symm
  have HAI := hide ha
  have HAN := hide hc
  have a0 := HX0.out.c0
  clear hW h ho hp hbw ha hc
  go_enter Tryz.func18, Tryz.ntmps18
  go_wp2_with fail
  refine Calls.mono (add_Int B base N cInt n c HInt A _ iInt _ HK0.out.blk rfl rfl HK0.out.rowInt HK0.out.baseW HK0.out.baseB (by omega) (by omega)) ?_
  rintro e w1 ⟨rfl, H1, c1, hk⟩
  have HK1 := hide (HK0.out.addInt hk HO0.out hn (by omega) HAI.out)
  have HX1 := hide (hk.keep.blk HX0.out (by decide))
  have a1 := BoxT.c1 HX1.out
  have HP1 := hide (hk.keep.own HP0.out (by decide))
  have HKe1 := hide (HKe0.out.trans (hk.keep.mono (by intro e he; simp at he ⊢; rcases he with rfl | rfl <;> simp)))
  have HB1 := hide (HB0.out.trans hk.below)
  clear hk HK0 HX0 a0 HO0 HP0 HKe0 HB0
  go_wp2_with fail
  refine Calls.mono (add_Number B base (N + 1) cNumber m d HNumber A2 _ iNumber _ HK1.out.blk rfl rfl HK1.out.rowNumber HK1.out.baseW HK1.out.baseB (by omega) (by omega)) ?_
  rintro e w2 ⟨rfl, H2, c2, hk⟩
  have HK2 := hide (HK1.out.addNumber hk HP1.out hm (by omega) HAN.out)
  have HKe2 := hide (HKe1.out.trans (hk.keep.mono (by intro e he; simp at he ⊢; rcases he with rfl | rfl <;> simp)))
  have HB2 := hide (HB1.out.trans hk.below)
  clear hk HK1
  go_wp2
  go_end0
  exact ⟨rfl, ⟨H1, c1, H2, c2, HK2.out⟩, HKe2.out, HB2.out⟩

/-- Are two tensors, of which each has its own cells, one as the other? -/
theorem sameT_yes (A B A' B' : Option Addr) (n c m d c' d' : Nat) (s l : List Int) (w : World) (hA : Lies w A n (s.map (Value.int .i64))) (hB : Lies w B m (l.map (Value.int .i32))) (hA' : Lies w A' n (s.map (Value.int .i64))) (hB' : Lies w B' m (l.map (Value.int .i32))) (hn : n ≤ 281474976710656) (hm : m ≤ 281474976710656) :
    Calls Tryz.prog 16 #[tenV A n c B m d, tenV A' n c' B' m d'] w fun e w' => e = .returned (.bool true) ∧ Below w.heap.size w w' := by
  obtain ⟨W, hW⟩ : ∃ W, W = (w.alloc (.cells #[.slice A n c, .slice B m d] 25)).alloc (.cells #[.slice A' n c', .slice B' m d'] 25) := ⟨_, rfl⟩
  have HX0 : Hid (BoxT W w.heap.size (.slice A n c) (.slice B m d)) := hide (by rw [hW]; exact (BoxT.new w _ _).alloc _)
  have HX1 : Hid (BoxT W (w.heap.size + 1) (.slice A' n c') (.slice B' m d')) := hide (by
    rw [hW]
    have h := (BoxT.new (w.alloc (.cells #[.slice A n c, .slice B m d] 25)) (.slice A' n c') (.slice B' m d'))
    rwa [World.size_alloc] at h)
  have HB0 : Hid (Below w.heap.size w W) := hide (by rw [hW]; exact ((Below.refl w.heap.size w).alloc (Nat.le_refl _) _).alloc (by simp) _)
  have HA := hide (hA.below HB0.out)
  have HB := hide (hB.below HB0.out)
  have HA' := hide (hA'.below HB0.out)
  have HB' := hide (hB'.below HB0.out)
  have hW' := hW.symm
  clear hW hA hB hA' hB'
  have hsW := HB0.out.size
  have a0 := HX0.out.c0
  have b0 := HX1.out.c0
  go_enter Tryz.func16, Tryz.ntmps16
  go_wp2_with fail
  refine Calls.mono (sameG_Ints A A' n c n c' s s _ HA.out HA'.out hn) ?_
  rw [show decide (s = s) = true by simp]
  rintro e w1 ⟨rfl, j, hj⟩
  have hb1 : Below W.heap.size W w1 := by rw [hj]; exact below_drewN (Below.refl _ W) j
  clear hj a0 b0
  have a1 := (HX0.out.kept hb1).c1
  have b1 := (HX1.out.kept hb1).c1
  go_wp2_with fail
  refine Calls.mono (sameG_Numbers B B' m d m d' l l _ (HB.out.below hb1) (HB'.out.below hb1) hm) ?_
  rw [show decide (l = l) = true by simp]
  rintro e w2 ⟨rfl, j, hj⟩
  have hb2 : Below W.heap.size W w2 := by rw [hj]; exact below_drewN hb1 j
  have HB2 := hide (HB0.out.trans (hb2.mono hsW))
  clear hj a1 b1
  go_wp2
  go_ret
  exact ⟨rfl, HB2.out⟩

/-- A copy with a mark behind is as it was. -/
theorem leftT_yes (g1 g2 : Nat) (A B : Option Addr) (n m c' d' : Nat) (s l : List Int) (w : World) (h1 : Lies w (some ⟨g1, 0, none⟩) (n + 1) (s.map (Value.int .i64) ++ [.int .i64 77])) (h2 : Lies w (some ⟨g2, 0, none⟩) (m + 1) (l.map (Value.int .i32) ++ [.int .i32 77])) (hA : Lies w A n (s.map (Value.int .i64))) (hB : Lies w B m (l.map (Value.int .i32))) (hn : n ≤ 1073741824) (hm : m ≤ 1073741824) :
    Calls Tryz.prog 17 #[tenV (some ⟨g1, 0, none⟩) n (n + 1) (some ⟨g2, 0, none⟩) m (m + 1), tenV A n c' B m d'] w fun e w' => e = .returned (.bool true) ∧ Below w.heap.size w w' := by
  obtain ⟨W, hW⟩ : ∃ W, W = (w.alloc (.cells #[.slice (some ⟨g1, 0, none⟩) n (n + 1), .slice (some ⟨g2, 0, none⟩) m (m + 1)] 25)).alloc (.cells #[.slice A n c', .slice B m d'] 25) := ⟨_, rfl⟩
  have HX0 : Hid (BoxT W w.heap.size (.slice (some ⟨g1, 0, none⟩) n (n + 1)) (.slice (some ⟨g2, 0, none⟩) m (m + 1))) := hide (by rw [hW]; exact (BoxT.new w _ _).alloc _)
  have HX1 : Hid (BoxT W (w.heap.size + 1) (.slice A n c') (.slice B m d')) := hide (by
    rw [hW]
    have h := (BoxT.new (w.alloc (.cells #[.slice (some ⟨g1, 0, none⟩) n (n + 1), .slice (some ⟨g2, 0, none⟩) m (m + 1)] 25)) (.slice A n c') (.slice B m d'))
    rwa [World.size_alloc] at h)
  have HB0 : Hid (Below w.heap.size w W) := hide (by rw [hW]; exact ((Below.refl w.heap.size w).alloc (Nat.le_refl _) _).alloc (by simp) _)
  have HA := hide (hA.below HB0.out)
  have HB := hide (hB.below HB0.out)
  have HA' := hide (h1.below HB0.out)
  have HB' := hide (h2.below HB0.out)
  have hW' := hW.symm
  clear hW hA hB h1 h2
  have hsW := HB0.out.size
  have a0 := HX0.out.c0
  have b0 := HX1.out.c0
  go_enter Tryz.func17, Tryz.ntmps17
  go_wp2_with fail
  refine Calls.mono (left_Ints g1 n (n + 1) c' A s _ HA'.out HA.out (Nat.le_refl _) hn) ?_
  rintro e w1 ⟨rfl, j, hj⟩
  have hb1 : Below W.heap.size W w1 := by rw [hj]; exact below_drewN (Below.refl _ W) j
  clear hj a0 b0
  have a1 := (HX0.out.kept hb1).c1
  have b1 := (HX1.out.kept hb1).c1
  go_wp2_with fail
  refine Calls.mono (left_Numbers g2 m (m + 1) d' B l _ (HB'.out.below hb1) (HB.out.below hb1) (Nat.le_refl _) hm) ?_
  rintro e w2 ⟨rfl, j, hj⟩
  have hb2 : Below W.heap.size W w2 := by rw [hj]; exact below_drewN hb1 j
  have HB2 := hide (HB0.out.trans (hb2.mono hsW))
  clear hj a1 b1
  go_wp2
  go_ret
  exact ⟨rfl, HB2.out⟩
end
end Go.Proofs.YtaoobdnbjagpnaaGreatDoor
