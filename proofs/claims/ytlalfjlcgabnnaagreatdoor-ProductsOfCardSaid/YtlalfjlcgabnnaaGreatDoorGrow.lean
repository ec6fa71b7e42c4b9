/- Contracts of the book's grow: behind every list that is held forty marks are put; the list itself keeps its own. -/
import Derived.Test.YtlalfjlcgabnnaaGreatDoorGrowLaws
import Derived.OwnWalk
namespace Go.Proofs.YtlalfjlcgabnnaaGreatDoor
open Go.RowKit

theorem Tryz.info_Byte : (Tryz.prog.info? 5).map (fun i => (i.zero, i.size, i.bytes)) = some (some (.int .u8 0), 1, 1) := by kernel_rfl

set_option maxRecDepth 100000 in
set_option maxHeartbeats 2000000 in
theorem grow_Byte (B base c : Nat) (H : Option Addr) (L : List Value) (its0 : List It) (w : World)
    (hB : w.heap[B]? = some (.cells L.toArray 54 (0, 0))) (hL : L[1]? = some (.slice H its0.length c))
    (hG : GrowTo w w base 5 77 mk_Byte H c its0 its0 0) (hb : base ≤ w.heap.size)
    (hn : its0.length ≤ 1048576) (hsz : ∀ (i : Nat) (t : It), its0[i]? = some t → t.n ≤ 1073741824 ∧ t.m ≤ 1048576) :
    Calls Tryz.prog 48 #[.pointer (some ⟨B, 0, none⟩)] w fun e w' => e = .returned (.tuple #[]) ∧ ∃ its, GrowTo w w' base 5 77 mk_Byte H c its0 its its.length := by
  have HB := hide hB
  have HL := hide hL
  have HG := hide hG
  have HS := hide hsz
  clear hB hL hG hsz
  obtain ⟨i0, hi, hz0, hz1, hz2⟩ := info_parts Tryz.info_Byte
  have HI := hide hi
  have HZ0 := hide hz0
  have HZ1 := hide hz1
  have HZ2 := hide hz2
  clear hi hz0 hz1 hz2
  obtain ⟨N, hN⟩ : ∃ N, N = its0.length := ⟨_, rfl⟩
  rw [← hN] at hn HL
  have HN := hide hN
  clear hN
  go_enter Tryz.func48, Tryz.ntmps48
  go_wp2
  go_loopw [2] (fun i wr => ∃ (k : Nat) (its : List It), k ≤ N ∧ i = .int .i64 k ∧ Hid (GrowTo w wr base 5 77 mk_Byte H c its0 its k)) (fun i _ => N - (intOf i).toNat)
  case atStart => exact ⟨0, its0, Nat.zero_le _, rfl, HG⟩
  case round =>
    obtain ⟨k, its, hk, rfl, HF⟩ := hrel
    have hB1 := cell_blk (HF.out.keep.blk HB.out (by decide)) 1
    rw [HL.out] at hB1
    have hlen : its.length = N := by rw [HF.out.len, HN.out]
    have HLEN := hide hlen
    clear hlen
    by_cases hlt : k < N
    · obtain ⟨t, ht⟩ : ∃ t, its[k]? = some t := ⟨its[k]'(by rw [HLEN.out]; exact hlt), List.getElem?_eq_getElem _⟩
      have hrow := HF.out.row
      rw [HLEN.out] at hrow
      obtain ⟨h1, h2, h3⟩ := held_at its k t ht
      obtain ⟨g, rfl⟩ : ∃ g, H = some ⟨g, 0, none⟩ := by
        rcases hrow.2 with ⟨e, h0⟩ | ⟨g, cap, cur, e, _⟩
        · omega
        · injection e with e; exact ⟨g, e⟩
      have c1 := (hrow.cellAt (k * 3) (by omega)).trans h1
      have c2 := (hrow.cellAt (k * 3 + 1) (by omega)).trans h2
      have c3 := (hrow.cellAt (k * 3 + 2) (by omega)).trans h3
      have HROW := hide hrow
      have HO := hide (HF.out.todo k t (Nat.le_refl _) ht)
      have hsz : t.n ≤ 1073741824 ∧ t.m ≤ 1048576 := by
        obtain ⟨t0, ht0⟩ : ∃ t0, its0[k]? = some t0 := ⟨its0[k]'(by rw [← HN.out]; exact hlt), List.getElem?_eq_getElem _⟩
        obtain ⟨_, e2, _, e4⟩ := HF.out.same k t t0 ht ht0
        rw [e2, e4]
        exact HS.out k t0 ht0
      have HT := hide ht
      clear ht hrow h1 h2 h3
      obtain ⟨A, n, cc, A2, n2, c2', m⟩ := t
      simp only [It.l, It.long] at c1 c2
      have hn1 : n ≤ 1073741824 := hsz.1
      have hm1 : m ≤ 1048576 := hsz.2
      clear hsz
      have HBLK := hide (heap_alloc_new wr (.cells #[Value.slice A n cc, Value.slice A2 n2 c2', Value.int .i64 (m : Int)] 77))
      have hq1 := cell_of_row _ _ 0 _ _ _ HBLK.out
      simp at hq1
      go_wp2_with fail
      clear c1 c2 c3 hB1 hq1
      obtain ⟨wo, rfl⟩ : ∃ wo : World, wo = wr := ⟨_, rfl⟩
      obtain ⟨W0, hW0⟩ : ∃ W0, W0 = wo.alloc (.cells #[Value.slice A n cc, Value.slice A2 n2 c2', Value.int .i64 (m : Int)] 77) := ⟨_, rfl⟩
      have HG0 : Hid (wo.grownBy W0 (Value.slice A n cc).ownBlock) := by rw [hW0]; exact World.grownBy_alloc _ _ _
      have HO0 : Hid (W0.ownsRow base 5 1 (.slice A n cc) n (List.replicate n (mk_Byte m))) := by rw [hW0]; exact HO.out.alloc _
      have hbW : base ≤ W0.heap.size := Nat.le_trans hb (Nat.le_trans HF.out.keep.size HG0.out.size)
      rw [← hW0] at HBLK ⊢
      clear hW0
      go_loopw [4, 5] (fun v i wi => ∃ (j : Nat) (A3 : Option Addr) (c3 : Nat), j ≤ 40 ∧ i = .int .i64 j ∧ v = .slice A3 (n + j) c3 ∧ Hid (GrowIn W0 wi base 5 (mk_Byte m) A n cc j A3 c3)) (fun _ i _ => 40 - (intOf i).toNat)
      case atStart => exact ⟨0, A, cc, by omega, rfl, rfl, hide (GrowIn.start HO0.out)⟩
      case round =>
        obtain ⟨j, A3, c3, hj, rfl, rfl, HGi⟩ := hrel
        have hblk : Hid (wr.heap[wo.heap.size]? = some (.cells #[Value.slice A n cc, Value.slice A2 n2 c2', Value.int .i64 (m : Int)] 77 (0, 0))) := hide (by
          rw [HGi.out.only.block wo.heap.size (lt_of_heap HBLK.out) (fun e => by have := (own_lt HO.out e.symm).2; omega)]
          exact HBLK.out)
        by_cases hjlt : j < 40
        · have d3 : wr.cell? ⟨wo.heap.size, 2, none⟩ = some (.int .i64 (m : Int)) := by rw [cell_of_row _ _ _ _ _ _ hblk.out]; rfl
          have HX : Hid ((wr.alloc (.cells #[.int .u8 (mkI_Byte m)] 5)).cell? ⟨wr.heap.size, 0, none⟩ = some (.int .u8 (mkI_Byte m))) := hide (by have h := cells_new wr [.int .u8 (mkI_Byte m)] 5 0 _ rfl; rwa [Addr.add_lit] at h)
          have hbr : base ≤ wr.heap.size := Nat.le_trans hbW HGi.out.only.size
          go_wp2_with fail
          refine (mark_Byte m _ ).mono ?_
          rintro e w5 ⟨rfl, rfl⟩
          go_wp2_with (at_builtin; with_reducible refine wpList_append_one rfl (.tmp 28) (.tmp 32) 75 rfl 5 i0 (.int .u8 0) 1 Tryz.underlying75 HI.out HZ0.out HZ1.out HZ2.out rfl base A3 (n + j) c3 (List.replicate (n + j) (mk_Byte m)) rfl (HGi.out.own.alloc _) (Nat.le_trans hbr (by simp)) ⟨wr.heap.size, 0, none⟩ (.int .u8 (mkI_Byte m)) rfl HX.out rfl (by omega) (by unfold maxLen; omega) ?_)
          intro A4 c4 w4 ho4 hm4
          have HGn := hide (HGi.out.step HO0.out ((Below.refl wr.heap.size wr).alloc (Nat.le_refl _) _) ho4 hm4)
          clear ho4 hm4 HGi HX d3 hblk
          go_wp2
          go_roundw
          case rel => exact ⟨j + 1, A4, c4, by omega, by go_num, by rw [Nat.add_assoc], HGn⟩
          case measure => simp [intOf]; omega
        · obtain rfl : j = 40 := by omega
          have hgw := grown_trans HG0.out HGi.out.only
          have hrow2 : wr.ownsRow base 77 3 (.slice (some ⟨g, 0, none⟩) N c) N (held its) := HROW.out.kept hgw (own_neT HROW.out HO.out (by decide))
          have hB2 : wr.cell? ⟨B, 1, none⟩ = some (.slice (some ⟨g, 0, none⟩) N c) := by
            have hbk := HF.out.keep.blk HB.out (by decide)
            have hkp : KeepT [5] wo wr := KeepT.grown hgw (fun b hbb => by obtain ⟨cur, hc⟩ := own_type HO.out hbb; exact ⟨cur, _, _, hc, by simp⟩)
            rw [cell_blk (hkp.blk hbk (by decide)) 1]
            exact HL.out
          have f1 := hrow2.cellAt (k * 3 + 1) (by omega)
          rw [(held_at its k _ HT.out).2.1] at f1
          simp only [It.long] at f1
          have f2 : wr.frozen? ⟨g, k * 3 + 1, none⟩ = false := hrow2.frozenAt _
          have HFn : Hid (GrowTo w (wr.setCell ⟨g, k * 3 + 1, none⟩ (.slice A3 (n + 40) c3)) base 5 77 mk_Byte (some ⟨g, 0, none⟩) c its0 (its.set k ⟨A, n, cc, A3, n + 40, c3, m⟩) (k + 1)) :=
            hide (HF.out.step (by decide) hb HT.out hgw HGi.out.lies HGi.out.own (by
              rcases HGi.out.loc with h | h
              · exact .inl h
              · exact .inr fun b hb' => Nat.le_trans HG0.out.size (h b hb')) HGi.out.typ)
          clear hgw hrow2 HGi hblk HBLK HG0 HO0 HF HROW HO
          go_wp2
          go_roundw
          case rel => exact ⟨k + 1, _, by omega, by go_num, HFn⟩
          case measure => simp [intOf]; omega
    · obtain rfl : k = N := by omega
      go_wp2
      go_end0
      exact ⟨rfl, its, by rw [HLEN.out]; exact HF.out⟩

theorem Tryz.info_Int : (Tryz.prog.info? 3).map (fun i => (i.zero, i.size, i.bytes)) = some (some (.int .i64 0), 1, 8) := by kernel_rfl

set_option maxRecDepth 100000 in
set_option maxHeartbeats 2000000 in
theorem grow_Int (B base c : Nat) (H : Option Addr) (L : List Value) (its0 : List It) (w : World)
    (hB : w.heap[B]? = some (.cells L.toArray 54 (0, 0))) (hL : L[2]? = some (.slice H its0.length c))
    (hG : GrowTo w w base 3 74 mk_Int H c its0 its0 0) (hb : base ≤ w.heap.size)
    (hn : its0.length ≤ 1048576) (hsz : ∀ (i : Nat) (t : It), its0[i]? = some t → t.n ≤ 1073741824 ∧ t.m ≤ 1048576) :
    Calls Tryz.prog 49 #[.pointer (some ⟨B, 0, none⟩)] w fun e w' => e = .returned (.tuple #[]) ∧ ∃ its, GrowTo w w' base 3 74 mk_Int H c its0 its its.length := by
  have HB := hide hB
  have HL := hide hL
  have HG := hide hG
  have HS := hide hsz
  clear hB hL hG hsz
  obtain ⟨i0, hi, hz0, hz1, hz2⟩ := info_parts Tryz.info_Int
  have HI := hide hi
  have HZ0 := hide hz0
  have HZ1 := hide hz1
  have HZ2 := hide hz2
  clear hi hz0 hz1 hz2
  obtain ⟨N, hN⟩ : ∃ N, N = its0.length := ⟨_, rfl⟩
  rw [← hN] at hn HL
  have HN := hide hN
  clear hN
  go_enter Tryz.func49, Tryz.ntmps49
  go_wp2
  go_loopw [2] (fun i wr => ∃ (k : Nat) (its : List It), k ≤ N ∧ i = .int .i64 k ∧ Hid (GrowTo w wr base 3 74 mk_Int H c its0 its k)) (fun i _ => N - (intOf i).toNat)
  case atStart => exact ⟨0, its0, Nat.zero_le _, rfl, HG⟩
  case round =>
    obtain ⟨k, its, hk, rfl, HF⟩ := hrel
    have hB1 := cell_blk (HF.out.keep.blk HB.out (by decide)) 2
    rw [HL.out] at hB1
    have hlen : its.length = N := by rw [HF.out.len, HN.out]
    have HLEN := hide hlen
    clear hlen
    by_cases hlt : k < N
    · obtain ⟨t, ht⟩ : ∃ t, its[k]? = some t := ⟨its[k]'(by rw [HLEN.out]; exact hlt), List.getElem?_eq_getElem _⟩
      have hrow := HF.out.row
      rw [HLEN.out] at hrow
      obtain ⟨h1, h2, h3⟩ := held_at its k t ht
      obtain ⟨g, rfl⟩ : ∃ g, H = some ⟨g, 0, none⟩ := by
        rcases hrow.2 with ⟨e, h0⟩ | ⟨g, cap, cur, e, _⟩
        · omega
        · injection e with e; exact ⟨g, e⟩
      have c1 := (hrow.cellAt (k * 3) (by omega)).trans h1
      have c2 := (hrow.cellAt (k * 3 + 1) (by omega)).trans h2
      have c3 := (hrow.cellAt (k * 3 + 2) (by omega)).trans h3
      have HROW := hide hrow
      have HO := hide (HF.out.todo k t (Nat.le_refl _) ht)
      have hsz : t.n ≤ 1073741824 ∧ t.m ≤ 1048576 := by
        obtain ⟨t0, ht0⟩ : ∃ t0, its0[k]? = some t0 := ⟨its0[k]'(by rw [← HN.out]; exact hlt), List.getElem?_eq_getElem _⟩
        obtain ⟨_, e2, _, e4⟩ := HF.out.same k t t0 ht ht0
        rw [e2, e4]
        exact HS.out k t0 ht0
      have HT := hide ht
      clear ht hrow h1 h2 h3
      obtain ⟨A, n, cc, A2, n2, c2', m⟩ := t
      simp only [It.l, It.long] at c1 c2
      have hn1 : n ≤ 1073741824 := hsz.1
      have hm1 : m ≤ 1048576 := hsz.2
      clear hsz
      have HBLK := hide (heap_alloc_new wr (.cells #[Value.slice A n cc, Value.slice A2 n2 c2', Value.int .i64 (m : Int)] 74))
      have hq1 := cell_of_row _ _ 0 _ _ _ HBLK.out
      simp at hq1
      go_wp2_with fail
      clear c1 c2 c3 hB1 hq1
      obtain ⟨wo, rfl⟩ : ∃ wo : World, wo = wr := ⟨_, rfl⟩
      obtain ⟨W0, hW0⟩ : ∃ W0, W0 = wo.alloc (.cells #[Value.slice A n cc, Value.slice A2 n2 c2', Value.int .i64 (m : Int)] 74) := ⟨_, rfl⟩
      have HG0 : Hid (wo.grownBy W0 (Value.slice A n cc).ownBlock) := by rw [hW0]; exact World.grownBy_alloc _ _ _
      have HO0 : Hid (W0.ownsRow base 3 1 (.slice A n cc) n (List.replicate n (mk_Int m))) := by rw [hW0]; exact HO.out.alloc _
      have hbW : base ≤ W0.heap.size := Nat.le_trans hb (Nat.le_trans HF.out.keep.size HG0.out.size)
      rw [← hW0] at HBLK ⊢
      clear hW0
      go_loopw [4, 5] (fun v i wi => ∃ (j : Nat) (A3 : Option Addr) (c3 : Nat), j ≤ 40 ∧ i = .int .i64 j ∧ v = .slice A3 (n + j) c3 ∧ Hid (GrowIn W0 wi base 3 (mk_Int m) A n cc j A3 c3)) (fun _ i _ => 40 - (intOf i).toNat)
      case atStart => exact ⟨0, A, cc, by omega, rfl, rfl, hide (GrowIn.start HO0.out)⟩
      case round =>
        obtain ⟨j, A3, c3, hj, rfl, rfl, HGi⟩ := hrel
        have hblk : Hid (wr.heap[wo.heap.size]? = some (.cells #[Value.slice A n cc, Value.slice A2 n2 c2', Value.int .i64 (m : Int)] 74 (0, 0))) := hide (by
          rw [HGi.out.only.block wo.heap.size (lt_of_heap HBLK.out) (fun e => by have := (own_lt HO.out e.symm).2; omega)]
          exact HBLK.out)
        by_cases hjlt : j < 40
        · have d3 : wr.cell? ⟨wo.heap.size, 2, none⟩ = some (.int .i64 (m : Int)) := by rw [cell_of_row _ _ _ _ _ _ hblk.out]; rfl
          have HX : Hid ((wr.alloc (.cells #[.int .i64 (mkI_Int m)] 3)).cell? ⟨wr.heap.size, 0, none⟩ = some (.int .i64 (mkI_Int m))) := hide (by have h := cells_new wr [.int .i64 (mkI_Int m)] 3 0 _ rfl; rwa [Addr.add_lit] at h)
          have hbr : base ≤ wr.heap.size := Nat.le_trans hbW HGi.out.only.size
          go_wp2_with fail
          refine (mark_Int m _ hm1).mono ?_
          rintro e w5 ⟨rfl, rfl⟩
          go_wp2_with (at_builtin; with_reducible refine wpList_append_one rfl (.tmp 28) (.tmp 32) 22 rfl 3 i0 (.int .i64 0) 8 Tryz.underlying22 HI.out HZ0.out HZ1.out HZ2.out rfl base A3 (n + j) c3 (List.replicate (n + j) (mk_Int m)) rfl (HGi.out.own.alloc _) (Nat.le_trans hbr (by simp)) ⟨wr.heap.size, 0, none⟩ (.int .i64 (mkI_Int m)) rfl HX.out rfl (by omega) (by unfold maxLen; omega) ?_)
          intro A4 c4 w4 ho4 hm4
          have HGn := hide (HGi.out.step HO0.out ((Below.refl wr.heap.size wr).alloc (Nat.le_refl _) _) ho4 hm4)
          clear ho4 hm4 HGi HX d3 hblk
          go_wp2
          go_roundw
          case rel => exact ⟨j + 1, A4, c4, by omega, by go_num, by rw [Nat.add_assoc], HGn⟩
          case measure => simp [intOf]; omega
        · obtain rfl : j = 40 := by omega
          have hgw := grown_trans HG0.out HGi.out.only
          have hrow2 : wr.ownsRow base 74 3 (.slice (some ⟨g, 0, none⟩) N c) N (held its) := HROW.out.kept hgw (own_neT HROW.out HO.out (by decide))
          have hB2 : wr.cell? ⟨B, 2, none⟩ = some (.slice (some ⟨g, 0, none⟩) N c) := by
            have hbk := HF.out.keep.blk HB.out (by decide)
            have hkp : KeepT [3] wo wr := KeepT.grown hgw (fun b hbb => by obtain ⟨cur, hc⟩ := own_type HO.out hbb; exact ⟨cur, _, _, hc, by simp⟩)
            rw [cell_blk (hkp.blk hbk (by decide)) 2]
            exact HL.out
          have f1 := hrow2.cellAt (k * 3 + 1) (by omega)
          rw [(held_at its k _ HT.out).2.1] at f1
          simp only [It.long] at f1
          have f2 : wr.frozen? ⟨g, k * 3 + 1, none⟩ = false := hrow2.frozenAt _
          have HFn : Hid (GrowTo w (wr.setCell ⟨g, k * 3 + 1, none⟩ (.slice A3 (n + 40) c3)) base 3 74 mk_Int (some ⟨g, 0, none⟩) c its0 (its.set k ⟨A, n, cc, A3, n + 40, c3, m⟩) (k + 1)) :=
            hide (HF.out.step (by decide) hb HT.out hgw HGi.out.lies HGi.out.own (by
              rcases HGi.out.loc with h | h
              · exact .inl h
              · exact .inr fun b hb' => Nat.le_trans HG0.out.size (h b hb')) HGi.out.typ)
          clear hgw hrow2 HGi hblk HBLK HG0 HO0 HF HROW HO
          go_wp2
          go_roundw
          case rel => exact ⟨k + 1, _, by omega, by go_num, HFn⟩
          case measure => simp [intOf]; omega
    · obtain rfl : k = N := by omega
      go_wp2
      go_end0
      exact ⟨rfl, its, by rw [HLEN.out]; exact HF.out⟩

theorem Tryz.info_Number : (Tryz.prog.info? 21).map (fun i => (i.zero, i.size, i.bytes)) = some (some (.int .i32 0), 1, 4) := by kernel_rfl

set_option maxRecDepth 100000 in
set_option maxHeartbeats 2000000 in
theorem grow_Number (B base c : Nat) (H : Option Addr) (L : List Value) (its0 : List It) (w : World)
    (hB : w.heap[B]? = some (.cells L.toArray 54 (0, 0))) (hL : L[3]? = some (.slice H its0.length c))
    (hG : GrowTo w w base 21 81 mk_Number H c its0 its0 0) (hb : base ≤ w.heap.size)
    (hn : its0.length ≤ 1048576) (hsz : ∀ (i : Nat) (t : It), its0[i]? = some t → t.n ≤ 1073741824 ∧ t.m ≤ 1048576) :
    Calls Tryz.prog 50 #[.pointer (some ⟨B, 0, none⟩)] w fun e w' => e = .returned (.tuple #[]) ∧ ∃ its, GrowTo w w' base 21 81 mk_Number H c its0 its its.length := by
  have HB := hide hB
  have HL := hide hL
  have HG := hide hG
  have HS := hide hsz
  clear hB hL hG hsz
  obtain ⟨i0, hi, hz0, hz1, hz2⟩ := info_parts Tryz.info_Number
  have HI := hide hi
  have HZ0 := hide hz0
  have HZ1 := hide hz1
  have HZ2 := hide hz2
  clear hi hz0 hz1 hz2
  obtain ⟨N, hN⟩ : ∃ N, N = its0.length := ⟨_, rfl⟩
  rw [← hN] at hn HL
  have HN := hide hN
  clear hN
  go_enter Tryz.func50, Tryz.ntmps50
  go_wp2
  go_loopw [2] (fun i wr => ∃ (k : Nat) (its : List It), k ≤ N ∧ i = .int .i64 k ∧ Hid (GrowTo w wr base 21 81 mk_Number H c its0 its k)) (fun i _ => N - (intOf i).toNat)
  case atStart => exact ⟨0, its0, Nat.zero_le _, rfl, HG⟩
  case round =>
    obtain ⟨k, its, hk, rfl, HF⟩ := hrel
    have hB1 := cell_blk (HF.out.keep.blk HB.out (by decide)) 3
    rw [HL.out] at hB1
    have hlen : its.length = N := by rw [HF.out.len, HN.out]
    have HLEN := hide hlen
    clear hlen
    by_cases hlt : k < N
    · obtain ⟨t, ht⟩ : ∃ t, its[k]? = some t := ⟨its[k]'(by rw [HLEN.out]; exact hlt), List.getElem?_eq_getElem _⟩
      have hrow := HF.out.row
      rw [HLEN.out] at hrow
      obtain ⟨h1, h2, h3⟩ := held_at its k t ht
      obtain ⟨g, rfl⟩ : ∃ g, H = some ⟨g, 0, none⟩ := by
        rcases hrow.2 with ⟨e, h0⟩ | ⟨g, cap, cur, e, _⟩
        · omega
        · injection e with e; exact ⟨g, e⟩
      have c1 := (hrow.cellAt (k * 3) (by omega)).trans h1
      have c2 := (hrow.cellAt (k * 3 + 1) (by omega)).trans h2
      have c3 := (hrow.cellAt (k * 3 + 2) (by omega)).trans h3
      have HROW := hide hrow
      have HO := hide (HF.out.todo k t (Nat.le_refl _) ht)
      have hsz : t.n ≤ 1073741824 ∧ t.m ≤ 1048576 := by
        obtain ⟨t0, ht0⟩ : ∃ t0, its0[k]? = some t0 := ⟨its0[k]'(by rw [← HN.out]; exact hlt), List.getElem?_eq_getElem _⟩
        obtain ⟨_, e2, _, e4⟩ := HF.out.same k t t0 ht ht0
        rw [e2, e4]
        exact HS.out k t0 ht0
      have HT := hide ht
      clear ht hrow h1 h2 h3
      obtain ⟨A, n, cc, A2, n2, c2', m⟩ := t
      simp only [It.l, It.long] at c1 c2
      have hn1 : n ≤ 1073741824 := hsz.1
      have hm1 : m ≤ 1048576 := hsz.2
      clear hsz
      have HBLK := hide (heap_alloc_new wr (.cells #[Value.slice A n cc, Value.slice A2 n2 c2', Value.int .i64 (m : Int)] 81))
      have hq1 := cell_of_row _ _ 0 _ _ _ HBLK.out
      simp at hq1
      go_wp2_with fail
      clear c1 c2 c3 hB1 hq1
      obtain ⟨wo, rfl⟩ : ∃ wo : World, wo = wr := ⟨_, rfl⟩
      obtain ⟨W0, hW0⟩ : ∃ W0, W0 = wo.alloc (.cells #[Value.slice A n cc, Value.slice A2 n2 c2', Value.int .i64 (m : Int)] 81) := ⟨_, rfl⟩
      have HG0 : Hid (wo.grownBy W0 (Value.slice A n cc).ownBlock) := by rw [hW0]; exact World.grownBy_alloc _ _ _
      have HO0 : Hid (W0.ownsRow base 21 1 (.slice A n cc) n (List.replicate n (mk_Number m))) := by rw [hW0]; exact HO.out.alloc _
      have hbW : base ≤ W0.heap.size := Nat.le_trans hb (Nat.le_trans HF.out.keep.size HG0.out.size)
      rw [← hW0] at HBLK ⊢
      clear hW0
      go_loopw [4, 5] (fun v i wi => ∃ (j : Nat) (A3 : Option Addr) (c3 : Nat), j ≤ 40 ∧ i = .int .i64 j ∧ v = .slice A3 (n + j) c3 ∧ Hid (GrowIn W0 wi base 21 (mk_Number m) A n cc j A3 c3)) (fun _ i _ => 40 - (intOf i).toNat)
      case atStart => exact ⟨0, A, cc, by omega, rfl, rfl, hide (GrowIn.start HO0.out)⟩
      case round =>
        obtain ⟨j, A3, c3, hj, rfl, rfl, HGi⟩ := hrel
        have hblk : Hid (wr.heap[wo.heap.size]? = some (.cells #[Value.slice A n cc, Value.slice A2 n2 c2', Value.int .i64 (m : Int)] 81 (0, 0))) := hide (by
          rw [HGi.out.only.block wo.heap.size (lt_of_heap HBLK.out) (fun e => by have := (own_lt HO.out e.symm).2; omega)]
          exact HBLK.out)
        by_cases hjlt : j < 40
        · have d3 : wr.cell? ⟨wo.heap.size, 2, none⟩ = some (.int .i64 (m : Int)) := by rw [cell_of_row _ _ _ _ _ _ hblk.out]; rfl
          have HX : Hid ((wr.alloc (.cells #[.int .i32 (mkI_Number m)] 21)).cell? ⟨wr.heap.size, 0, none⟩ = some (.int .i32 (mkI_Number m))) := hide (by have h := cells_new wr [.int .i32 (mkI_Number m)] 21 0 _ rfl; rwa [Addr.add_lit] at h)
          have hbr : base ≤ wr.heap.size := Nat.le_trans hbW HGi.out.only.size
          go_wp2_with fail
          refine (mark_Number m _ hm1).mono ?_
          rintro e w5 ⟨rfl, rfl⟩
          go_wp2_with (at_builtin; with_reducible refine wpList_append_one rfl (.tmp 28) (.tmp 32) 23 rfl 21 i0 (.int .i32 0) 4 Tryz.underlying23 HI.out HZ0.out HZ1.out HZ2.out rfl base A3 (n + j) c3 (List.replicate (n + j) (mk_Number m)) rfl (HGi.out.own.alloc _) (Nat.le_trans hbr (by simp)) ⟨wr.heap.size, 0, none⟩ (.int .i32 (mkI_Number m)) rfl HX.out rfl (by omega) (by unfold maxLen; omega) ?_)
          intro A4 c4 w4 ho4 hm4
          have HGn := hide (HGi.out.step HO0.out ((Below.refl wr.heap.size wr).alloc (Nat.le_refl _) _) ho4 hm4)
          clear ho4 hm4 HGi HX d3 hblk
          go_wp2
          go_roundw
          case rel => exact ⟨j + 1, A4, c4, by omega, by go_num, by rw [Nat.add_assoc], HGn⟩
          case measure => simp [intOf]; omega
        · obtain rfl : j = 40 := by omega
          have hgw := grown_trans HG0.out HGi.out.only
          have hrow2 : wr.ownsRow base 81 3 (.slice (some ⟨g, 0, none⟩) N c) N (held its) := HROW.out.kept hgw (own_neT HROW.out HO.out (by decide))
          have hB2 : wr.cell? ⟨B, 3, none⟩ = some (.slice (some ⟨g, 0, none⟩) N c) := by
            have hbk := HF.out.keep.blk HB.out (by decide)
            have hkp : KeepT [21] wo wr := KeepT.grown hgw (fun b hbb => by obtain ⟨cur, hc⟩ := own_type HO.out hbb; exact ⟨cur, _, _, hc, by simp⟩)
            rw [cell_blk (hkp.blk hbk (by decide)) 3]
            exact HL.out
          have f1 := hrow2.cellAt (k * 3 + 1) (by omega)
          rw [(held_at its k _ HT.out).2.1] at f1
          simp only [It.long] at f1
          have f2 : wr.frozen? ⟨g, k * 3 + 1, none⟩ = false := hrow2.frozenAt _
          have HFn : Hid (GrowTo w (wr.setCell ⟨g, k * 3 + 1, none⟩ (.slice A3 (n + 40) c3)) base 21 81 mk_Number (some ⟨g, 0, none⟩) c its0 (its.set k ⟨A, n, cc, A3, n + 40, c3, m⟩) (k + 1)) :=
            hide (HF.out.step (by decide) hb HT.out hgw HGi.out.lies HGi.out.own (by
              rcases HGi.out.loc with h | h
              · exact .inl h
              · exact .inr fun b hb' => Nat.le_trans HG0.out.size (h b hb')) HGi.out.typ)
          clear hgw hrow2 HGi hblk HBLK HG0 HO0 HF HROW HO
          go_wp2
          go_roundw
          case rel => exact ⟨k + 1, _, by omega, by go_num, HFn⟩
          case measure => simp [intOf]; omega
    · obtain rfl : k = N := by omega
      go_wp2
      go_end0
      exact ⟨rfl, its, by rw [HLEN.out]; exact HF.out⟩

end Go.Proofs.YtlalfjlcgabnnaaGreatDoor

