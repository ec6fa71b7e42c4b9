/- Contracts of the book's look: every list and the longer one behind it hold nothing but their mark, so it answers true. -/
import Derived.Test.YtlalfjlcgabnnaaGreatDoorGrow
namespace Go.Proofs.YtlalfjlcgabnnaaGreatDoor
open Go.RowKit

theorem rep_cell {w : World} {A : Option Addr} {n : Nat} {x : Value} (h : Lies w A n (List.replicate n x)) {j : Nat} (hj : j < n) : ∃ b o, A = some ⟨b, o, none⟩ ∧ w.cell? ⟨b, o + j, none⟩ = some x := by
  obtain ⟨b, o, e, _, hx⟩ := h.cells (by omega)
  exact ⟨b, o, e, by rw [hx j hj]; simp [hj]⟩

theorem is_Byte (m : Nat) (w : World) : Calls Tryz.prog 98 #[.int .u8 (mkI_Byte m), .int .i64 (m : Int)] w fun e w' => e = .returned (.bool true) ∧ w' = w := by
  have hq : ((mkI_Byte m) == (m : Int) % 256) = true := by simp [mkI_Byte]
  go_enter Tryz.func98, Tryz.ntmps98
  go_wp2
  go_ret
  exact ⟨rfl, rfl⟩

set_option maxRecDepth 100000 in
set_option maxHeartbeats 2000000 in
theorem look_Byte (B base c : Nat) (H : Option Addr) (L : List Value) (its : List It) (w : World)
    (hB : w.heap[B]? = some (.cells L.toArray 54 (0, 0))) (hL : L[1]? = some (.slice H its.length c))
    (hH : w.ownsRow base 77 3 (.slice H its.length c) its.length (held its))
    (hn : its.length ≤ 1048576)
    (hd : ∀ (i : Nat) (t : It), its[i]? = some t → t.n ≤ 1073741824 ∧ t.m ≤ 1048576 ∧ t.n2 = t.n + 40 ∧ Lies w t.A t.n (List.replicate t.n (mk_Byte t.m)) ∧ Lies w t.A2 (t.n + 40) (List.replicate (t.n + 40) (mk_Byte t.m))) :
    Calls Tryz.prog 63 #[.pointer (some ⟨B, 0, none⟩)] w fun e w' => e = .returned (.bool true) ∧ Below w.heap.size w w' := by
  have HB := hide hB
  have HL := hide hL
  have HH := hide hH
  have HD := hide hd
  clear hB hL hH hd
  obtain ⟨N, hN⟩ : ∃ N, N = its.length := ⟨_, rfl⟩
  rw [← hN] at hn HL HH
  have HN := hide hN
  clear hN
  go_enter Tryz.func63, Tryz.ntmps63
  go_wp2
  go_loopw [3] (fun i wr => ∃ k : Nat, k ≤ N ∧ i = .int .i64 k ∧ Hid (Below w.heap.size w wr)) (fun i _ => N - (intOf i).toNat)
  case atStart => exact ⟨0, Nat.zero_le _, rfl, hide (Below.refl _ _)⟩
  case round =>
    obtain ⟨k, hk, rfl, HF⟩ := hrel
    have hB1 : wr.cell? ⟨B, 1, none⟩ = some (.slice H N c) := by
      rw [HF.out.cell (lt_of_heap HB.out), cell_blk HB.out 1]
      exact HL.out
    by_cases hlt : k < N
    · obtain ⟨t, ht⟩ : ∃ t, its[k]? = some t := ⟨its[k]'(by rw [← HN.out]; exact hlt), List.getElem?_eq_getElem _⟩
      obtain ⟨h1, h2, h3⟩ := held_at its k t ht
      obtain ⟨g, rfl⟩ : ∃ g, H = some ⟨g, 0, none⟩ := by
        rcases HH.out.2 with ⟨e, h0⟩ | ⟨g, cap, cur, e, _⟩
        · omega
        · injection e with e; exact ⟨g, e⟩
      have hgl := (own_lt HH.out (g := g) rfl).2
      have c1 := (HF.out.cell (p := ⟨g, k * 3, none⟩) hgl).trans ((HH.out.cellAt (k * 3) (by omega)).trans h1)
      have c2 := (HF.out.cell (p := ⟨g, k * 3 + 1, none⟩) hgl).trans ((HH.out.cellAt (k * 3 + 1) (by omega)).trans h2)
      have c3 := (HF.out.cell (p := ⟨g, k * 3 + 2, none⟩) hgl).trans ((HH.out.cellAt (k * 3 + 2) (by omega)).trans h3)
      obtain ⟨hn1, hm1, hn2, hl1, hl2⟩ := HD.out k t ht
      have HL1 := hide hl1
      have HL2 := hide hl2
      clear ht h1 h2 h3 hl1 hl2 hgl
      obtain ⟨A, n, cc, A2, n2, c2', m⟩ := t
      simp only [It.l, It.long] at c1 c2 hn1 hm1 hn2 HL1 HL2
      subst hn2
      have HBLK := hide (heap_alloc_new wr (.cells #[Value.slice A n cc, Value.slice A2 (n + 40) c2', Value.int .i64 (m : Int)] 77))
      go_wp2_with fail
      clear c1 c2 c3 hB1
      obtain ⟨wo, rfl⟩ : ∃ wo : World, wo = wr := ⟨_, rfl⟩
      have HB0 := hide (HF.out.alloc HF.out.size (.cells #[Value.slice A n cc, Value.slice A2 (n + 40) c2', Value.int .i64 (m : Int)] 77))
      obtain ⟨W0, hW0⟩ : ∃ W0, W0 = wo.alloc (.cells #[Value.slice A n cc, Value.slice A2 (n + 40) c2', Value.int .i64 (m : Int)] 77) := ⟨_, rfl⟩
      rw [← hW0] at HBLK HB0 ⊢
      clear hW0
      go_loopw [5] (fun i wi => ∃ j : Nat, j ≤ n + 40 ∧ i = .int .i64 j ∧ Hid (Below W0.heap.size W0 wi)) (fun i _ => n + 40 - (intOf i).toNat)
      case atStart => exact ⟨0, by omega, rfl, hide (Below.refl _ _)⟩
      case round =>
        obtain ⟨j, hj, rfl, HW⟩ := hrel
        have hblk := (HW.out.block wo.heap.size (lt_of_heap HBLK.out)).trans HBLK.out
        have HB2 := hide (HB0.out.trans (HW.out.mono HB0.out.size))
        have d1 : wr.cell? ⟨wo.heap.size, 0, none⟩ = some (.slice A n cc) := by rw [cell_of_row _ _ _ _ _ _ hblk]; rfl
        have d2 : wr.cell? ⟨wo.heap.size, 1, none⟩ = some (.slice A2 (n + 40) c2') := by rw [cell_of_row _ _ _ _ _ _ hblk]; rfl
        have d3 : wr.cell? ⟨wo.heap.size, 2, none⟩ = some (.int .i64 (m : Int)) := by rw [cell_of_row _ _ _ _ _ _ hblk]; rfl
        clear hblk
        by_cases hjlt : j < n + 40
        · obtain ⟨b, o, rfl, hx⟩ := rep_cell (HL2.out.below HB2.out) hjlt
          have e1 : wr.cell? ⟨b, o + j, none⟩ = some (.int .u8 (mkI_Byte m)) := hx
          have i1 : (0 : Int) ≤ (j : Int) := by omega
          have i2 : (j : Int) < (n : Int) + 40 := by omega
          clear hx
          by_cases hjn : j < n
          · obtain ⟨b', o', rfl, hx⟩ := rep_cell (HL1.out.below HB2.out) hjn
            have e2 : wr.cell? ⟨b', o' + j, none⟩ = some (.int .u8 (mkI_Byte m)) := hx
            have i3 : (j : Int) < (n : Int) := by omega
            have i4 : decide ((j : Int) < (n : Int)) = true := by simp; omega
            have i5 : decide (j < n) = true := by simp; omega
            clear hx
            go_wp2_with fail
            go_quiet ((go_at_call 98; exact Calls.quiet_of_same (is_Byte m _ )))
            go_wp2
            go_roundw
            case rel => exact ⟨j + 1, by omega, by go_num, hide (below_drewN HW.out _)⟩
            case measure => simp [intOf]; omega
          · have i4 : decide ((j : Int) < (n : Int)) = false := by simp; omega
            have i5 : decide (j < n) = false := by simp; omega
            go_wp2_with fail
            go_quiet ((go_at_call 98; exact Calls.quiet_of_same (is_Byte m _ )))
            go_wp2
            go_roundw
            case rel => exact ⟨j + 1, by omega, by go_num, hide (below_drewN HW.out _)⟩
            case measure => simp [intOf]; omega
        · go_wp2
          go_roundw
          case rel => exact ⟨k + 1, by omega, by go_num, HB2⟩
          case measure => simp [intOf]; omega
    · go_wp2
      go_ret
      exact ⟨rfl, HF.out⟩

theorem is_Int (m : Nat) (w : World) (hm : m ≤ 1048576) : Calls Tryz.prog 99 #[.int .i64 (mkI_Int m), .int .i64 (m : Int)] w fun e w' => e = .returned (.bool true) ∧ w' = w := by
  have hq : ((mkI_Int m) == -(m : Int)) = true := by simp [mkI_Int]
  go_enter Tryz.func99, Tryz.ntmps99
  go_wp2
  go_ret
  exact ⟨rfl, rfl⟩

set_option maxRecDepth 100000 in
set_option maxHeartbeats 2000000 in
theorem look_Int (B base c : Nat) (H : Option Addr) (L : List Value) (its : List It) (w : World)
    (hB : w.heap[B]? = some (.cells L.toArray 54 (0, 0))) (hL : L[2]? = some (.slice H its.length c))
    (hH : w.ownsRow base 74 3 (.slice H its.length c) its.length (held its))
    (hn : its.length ≤ 1048576)
    (hd : ∀ (i : Nat) (t : It), its[i]? = some t → t.n ≤ 1073741824 ∧ t.m ≤ 1048576 ∧ t.n2 = t.n + 40 ∧ Lies w t.A t.n (List.replicate t.n (mk_Int t.m)) ∧ Lies w t.A2 (t.n + 40) (List.replicate (t.n + 40) (mk_Int t.m))) :
    Calls Tryz.prog 64 #[.pointer (some ⟨B, 0, none⟩)] w fun e w' => e = .returned (.bool true) ∧ Below w.heap.size w w' := by
  have HB := hide hB
  have HL := hide hL
  have HH := hide hH
  have HD := hide hd
  clear hB hL hH hd
  obtain ⟨N, hN⟩ : ∃ N, N = its.length := ⟨_, rfl⟩
  rw [← hN] at hn HL HH
  have HN := hide hN
  clear hN
  go_enter Tryz.func64, Tryz.ntmps64
  go_wp2
  go_loopw [3] (fun i wr => ∃ k : Nat, k ≤ N ∧ i = .int .i64 k ∧ Hid (Below w.heap.size w wr)) (fun i _ => N - (intOf i).toNat)
  case atStart => exact ⟨0, Nat.zero_le _, rfl, hide (Below.refl _ _)⟩
  case round =>
    obtain ⟨k, hk, rfl, HF⟩ := hrel
    have hB1 : wr.cell? ⟨B, 2, none⟩ = some (.slice H N c) := by
      rw [HF.out.cell (lt_of_heap HB.out), cell_blk HB.out 2]
      exact HL.out
    by_cases hlt : k < N
    · obtain ⟨t, ht⟩ : ∃ t, its[k]? = some t := ⟨its[k]'(by rw [← HN.out]; exact hlt), List.getElem?_eq_getElem _⟩
      obtain ⟨h1, h2, h3⟩ := held_at its k t ht
      obtain ⟨g, rfl⟩ : ∃ g, H = some ⟨g, 0, none⟩ := by
        rcases HH.out.2 with ⟨e, h0⟩ | ⟨g, cap, cur, e, _⟩
        · omega
        · injection e with e; exact ⟨g, e⟩
      have hgl := (own_lt HH.out (g := g) rfl).2
      have c1 := (HF.out.cell (p := ⟨g, k * 3, none⟩) hgl).trans ((HH.out.cellAt (k * 3) (by omega)).trans h1)
      have c2 := (HF.out.cell (p := ⟨g, k * 3 + 1, none⟩) hgl).trans ((HH.out.cellAt (k * 3 + 1) (by omega)).trans h2)
      have c3 := (HF.out.cell (p := ⟨g, k * 3 + 2, none⟩) hgl).trans ((HH.out.cellAt (k * 3 + 2) (by omega)).trans h3)
      obtain ⟨hn1, hm1, hn2, hl1, hl2⟩ := HD.out k t ht
      have HL1 := hide hl1
      have HL2 := hide hl2
      clear ht h1 h2 h3 hl1 hl2 hgl
      obtain ⟨A, n, cc, A2, n2, c2', m⟩ := t
      simp only [It.l, It.long] at c1 c2 hn1 hm1 hn2 HL1 HL2
      subst hn2
      have HBLK := hide (heap_alloc_new wr (.cells #[Value.slice A n cc, Value.slice A2 (n + 40) c2', Value.int .i64 (m : Int)] 74))
      go_wp2_with fail
      clear c1 c2 c3 hB1
      obtain ⟨wo, rfl⟩ : ∃ wo : World, wo = wr := ⟨_, rfl⟩
      have HB0 := hide (HF.out.alloc HF.out.size (.cells #[Value.slice A n cc, Value.slice A2 (n + 40) c2', Value.int .i64 (m : Int)] 74))
      obtain ⟨W0, hW0⟩ : ∃ W0, W0 = wo.alloc (.cells #[Value.slice A n cc, Value.slice A2 (n + 40) c2', Value.int .i64 (m : Int)] 74) := ⟨_, rfl⟩
      rw [← hW0] at HBLK HB0 ⊢
      clear hW0
      go_loopw [5] (fun i wi => ∃ j : Nat, j ≤ n + 40 ∧ i = .int .i64 j ∧ Hid (Below W0.heap.size W0 wi)) (fun i _ => n + 40 - (intOf i).toNat)
      case atStart => exact ⟨0, by omega, rfl, hide (Below.refl _ _)⟩
      case round =>
        obtain ⟨j, hj, rfl, HW⟩ := hrel
        have hblk := (HW.out.block wo.heap.size (lt_of_heap HBLK.out)).trans HBLK.out
        have HB2 := hide (HB0.out.trans (HW.out.mono HB0.out.size))
        have d1 : wr.cell? ⟨wo.heap.size, 0, none⟩ = some (.slice A n cc) := by rw [cell_of_row _ _ _ _ _ _ hblk]; rfl
        have d2 : wr.cell? ⟨wo.heap.size, 1, none⟩ = some (.slice A2 (n + 40) c2') := by rw [cell_of_row _ _ _ _ _ _ hblk]; rfl
        have d3 : wr.cell? ⟨wo.heap.size, 2, none⟩ = some (.int .i64 (m : Int)) := by rw [cell_of_row _ _ _ _ _ _ hblk]; rfl
        clear hblk
        by_cases hjlt : j < n + 40
        · obtain ⟨b, o, rfl, hx⟩ := rep_cell (HL2.out.below HB2.out) hjlt
          have e1 : wr.cell? ⟨b, o + j, none⟩ = some (.int .i64 (mkI_Int m)) := hx
          have i1 : (0 : Int) ≤ (j : Int) := by omega
          have i2 : (j : Int) < (n : Int) + 40 := by omega
          clear hx
          by_cases hjn : j < n
          · obtain ⟨b', o', rfl, hx⟩ := rep_cell (HL1.out.below HB2.out) hjn
            have e2 : wr.cell? ⟨b', o' + j, none⟩ = some (.int .i64 (mkI_Int m)) := hx
            have i3 : (j : Int) < (n : Int) := by omega
            have i4 : decide ((j : Int) < (n : Int)) = true := by simp; omega
            have i5 : decide (j < n) = true := by simp; omega
            clear hx
            go_wp2_with fail
            go_quiet ((go_at_call 99; exact Calls.quiet_of_same (is_Int m _ hm1)))
            go_wp2
            go_roundw
            case rel => exact ⟨j + 1, by omega, by go_num, hide (below_drewN HW.out _)⟩
            case measure => simp [intOf]; omega
          · have i4 : decide ((j : Int) < (n : Int)) = false := by simp; omega
            have i5 : decide (j < n) = false := by simp; omega
            go_wp2_with fail
            go_quiet ((go_at_call 99; exact Calls.quiet_of_same (is_Int m _ hm1)))
            go_wp2
            go_roundw
            case rel => exact ⟨j + 1, by omega, by go_num, hide (below_drewN HW.out _)⟩
            case measure => simp [intOf]; omega
        · go_wp2
          go_roundw
          case rel => exact ⟨k + 1, by omega, by go_num, HB2⟩
          case measure => simp [intOf]; omega
    · go_wp2
      go_ret
      exact ⟨rfl, HF.out⟩

theorem is_Number (m : Nat) (w : World) (hm : m ≤ 1048576) : Calls Tryz.prog 100 #[.int .i32 (mkI_Number m), .int .i64 (m : Int)] w fun e w' => e = .returned (.bool true) ∧ w' = w := by
  have hq : ((mkI_Number m) == -(m : Int)) = true := by simp [mkI_Number]
  go_enter Tryz.func100, Tryz.ntmps100
  go_wp2
  go_ret
  exact ⟨rfl, rfl⟩

set_option maxRecDepth 100000 in
set_option maxHeartbeats 2000000 in
theorem look_Number (B base c : Nat) (H : Option Addr) (L : List Value) (its : List It) (w : World)
    (hB : w.heap[B]? = some (.cells L.toArray 54 (0, 0))) (hL : L[3]? = some (.slice H its.length c))
    (hH : w.ownsRow base 81 3 (.slice H its.length c) its.length (held its))
    (hn : its.length ≤ 1048576)
    (hd : ∀ (i : Nat) (t : It), its[i]? = some t → t.n ≤ 1073741824 ∧ t.m ≤ 1048576 ∧ t.n2 = t.n + 40 ∧ Lies w t.A t.n (List.replicate t.n (mk_Number t.m)) ∧ Lies w t.A2 (t.n + 40) (List.replicate (t.n + 40) (mk_Number t.m))) :
    Calls Tryz.prog 65 #[.pointer (some ⟨B, 0, none⟩)] w fun e w' => e = .returned (.bool true) ∧ Below w.heap.size w w' := by
  have HB := hide hB
  have HL := hide hL
  have HH := hide hH
  have HD := hide hd
  clear hB hL hH hd
  obtain ⟨N, hN⟩ : ∃ N, N = its.length := ⟨_, rfl⟩
  rw [← hN] at hn HL HH
  have HN := hide hN
  clear hN
  go_enter Tryz.func65, Tryz.ntmps65
  go_wp2
  go_loopw [3] (fun i wr => ∃ k : Nat, k ≤ N ∧ i = .int .i64 k ∧ Hid (Below w.heap.size w wr)) (fun i _ => N - (intOf i).toNat)
  case atStart => exact ⟨0, Nat.zero_le _, rfl, hide (Below.refl _ _)⟩
  case round =>
    obtain ⟨k, hk, rfl, HF⟩ := hrel
    have hB1 : wr.cell? ⟨B, 3, none⟩ = some (.slice H N c) := by
      rw [HF.out.cell (lt_of_heap HB.out), cell_blk HB.out 3]
      exact HL.out
    by_cases hlt : k < N
    · obtain ⟨t, ht⟩ : ∃ t, its[k]? = some t := ⟨its[k]'(by rw [← HN.out]; exact hlt), List.getElem?_eq_getElem _⟩
      obtain ⟨h1, h2, h3⟩ := held_at its k t ht
      obtain ⟨g, rfl⟩ : ∃ g, H = some ⟨g, 0, none⟩ := by
        rcases HH.out.2 with ⟨e, h0⟩ | ⟨g, cap, cur, e, _⟩
        · omega
        · injection e with e; exact ⟨g, e⟩
      have hgl := (own_lt HH.out (g := g) rfl).2
      have c1 := (HF.out.cell (p := ⟨g, k * 3, none⟩) hgl).trans ((HH.out.cellAt (k * 3) (by omega)).trans h1)
      have c2 := (HF.out.cell (p := ⟨g, k * 3 + 1, none⟩) hgl).trans ((HH.out.cellAt (k * 3 + 1) (by omega)).trans h2)
      have c3 := (HF.out.cell (p := ⟨g, k * 3 + 2, none⟩) hgl).trans ((HH.out.cellAt (k * 3 + 2) (by omega)).trans h3)
      obtain ⟨hn1, hm1, hn2, hl1, hl2⟩ := HD.out k t ht
      have HL1 := hide hl1
      have HL2 := hide hl2
      clear ht h1 h2 h3 hl1 hl2 hgl
      obtain ⟨A, n, cc, A2, n2, c2', m⟩ := t
      simp only [It.l, It.long] at c1 c2 hn1 hm1 hn2 HL1 HL2
      subst hn2
      have HBLK := hide (heap_alloc_new wr (.cells #[Value.slice A n cc, Value.slice A2 (n + 40) c2', Value.int .i64 (m : Int)] 81))
      go_wp2_with fail
      clear c1 c2 c3 hB1
      obtain ⟨wo, rfl⟩ : ∃ wo : World, wo = wr := ⟨_, rfl⟩
      have HB0 := hide (HF.out.alloc HF.out.size (.cells #[Value.slice A n cc, Value.slice A2 (n + 40) c2', Value.int .i64 (m : Int)] 81))
      obtain ⟨W0, hW0⟩ : ∃ W0, W0 = wo.alloc (.cells #[Value.slice A n cc, Value.slice A2 (n + 40) c2', Value.int .i64 (m : Int)] 81) := ⟨_, rfl⟩
      rw [← hW0] at HBLK HB0 ⊢
      clear hW0
      go_loopw [5] (fun i wi => ∃ j : Nat, j ≤ n + 40 ∧ i = .int .i64 j ∧ Hid (Below W0.heap.size W0 wi)) (fun i _ => n + 40 - (intOf i).toNat)
      case atStart => exact ⟨0, by omega, rfl, hide (Below.refl _ _)⟩
      case round =>
        obtain ⟨j, hj, rfl, HW⟩ := hrel
        have hblk := (HW.out.block wo.heap.size (lt_of_heap HBLK.out)).trans HBLK.out
        have HB2 := hide (HB0.out.trans (HW.out.mono HB0.out.size))
        have d1 : wr.cell? ⟨wo.heap.size, 0, none⟩ = some (.slice A n cc) := by rw [cell_of_row _ _ _ _ _ _ hblk]; rfl
        have d2 : wr.cell? ⟨wo.heap.size, 1, none⟩ = some (.slice A2 (n + 40) c2') := by rw [cell_of_row _ _ _ _ _ _ hblk]; rfl
        have d3 : wr.cell? ⟨wo.heap.size, 2, none⟩ = some (.int .i64 (m : Int)) := by rw [cell_of_row _ _ _ _ _ _ hblk]; rfl
        clear hblk
        by_cases hjlt : j < n + 40
        · obtain ⟨b, o, rfl, hx⟩ := rep_cell (HL2.out.below HB2.out) hjlt
          have e1 : wr.cell? ⟨b, o + j, none⟩ = some (.int .i32 (mkI_Number m)) := hx
          have i1 : (0 : Int) ≤ (j : Int) := by omega
          have i2 : (j : Int) < (n : Int) + 40 := by omega
          clear hx
          by_cases hjn : j < n
          · obtain ⟨b', o', rfl, hx⟩ := rep_cell (HL1.out.below HB2.out) hjn
            have e2 : wr.cell? ⟨b', o' + j, none⟩ = some (.int .i32 (mkI_Number m)) := hx
            have i3 : (j : Int) < (n : Int) := by omega
            have i4 : decide ((j : Int) < (n : Int)) = true := by simp; omega
            have i5 : decide (j < n) = true := by simp; omega
            clear hx
            go_wp2_with fail
            go_quiet ((go_at_call 100; exact Calls.quiet_of_same (is_Number m _ hm1)))
            go_wp2
            go_roundw
            case rel => exact ⟨j + 1, by omega, by go_num, hide (below_drewN HW.out _)⟩
            case measure => simp [intOf]; omega
          · have i4 : decide ((j : Int) < (n : Int)) = false := by simp; omega
            have i5 : decide (j < n) = false := by simp; omega
            go_wp2_with fail
            go_quiet ((go_at_call 100; exact Calls.quiet_of_same (is_Number m _ hm1)))
            go_wp2
            go_roundw
            case rel => exact ⟨j + 1, by omega, by go_num, hide (below_drewN HW.out _)⟩
            case measure => simp [intOf]; omega
        · go_wp2
          go_roundw
          case rel => exact ⟨k + 1, by omega, by go_num, HB2⟩
          case measure => simp [intOf]; omega
    · go_wp2
      go_ret
      exact ⟨rfl, HF.out⟩

end Go.Proofs.YtlalfjlcgabnnaaGreatDoor

