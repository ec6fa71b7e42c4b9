/- Contract of Fail of package disks on a disk that is there. -/
import Derived.Test.YtapdaeafeejknaaGreatDoorDiskSync
namespace Go.Proofs.YtapdaeafeejknaaGreatDoor
open Go.RowKit
set_option maxRecDepth 20000
set_option linter.unusedSimpArgs false
set_option linter.unusedVariables false

theorem step_torn {keep : Nat} {torn : Int} {i : Nat} {l : List Sec} {x : Wr} (h : (i : Int) = torn) : stepF keep torn i l x = l.set x.n ⟨x.b.take 32 ++ (secAt l x.n).b.drop 32, (secAt l x.n).bad⟩ := by
  unfold stepF; rw [if_pos h]; rfl
theorem step_kept {keep : Nat} {torn : Int} {i : Nat} {l : List Sec} {x : Wr} (h : ¬ (i : Int) = torn) (hk : keptB keep i = true) : stepF keep torn i l x = l.set x.n ⟨x.b, (secAt l x.n).bad && x.old⟩ := by
  unfold stepF; rw [if_neg h, if_pos (by simpa [keptB] using hk)]; rfl
theorem step_lost {keep : Nat} {torn : Int} {i : Nat} {l : List Sec} {x : Wr} (h : ¬ (i : Int) = torn) (hk : keptB keep i = false) : stepF keep torn i l x = l := by
  unfold stepF; rw [if_neg h, if_neg (by simpa [keptB] using hk)]

set_option maxRecDepth 100000 in
set_option maxHeartbeats 4000000 in
theorem fail_any {B : Nat} {L : Loc} {dur : List Sec} {pend : List Wr} (keep : Nat) (torn : Int) (w : World) (h : DiskAt B w L dur pend) (hkeep : keep < 18446744073709551616) (hp : pend.length ≤ 1000000000) :
    Calls Tryz.prog 12 #[L.ptr, .int .u64 (keep : Int), .int .i64 torn] w fun e w' => ∃ L', e = .returned (.tuple #[L'.ptr, .int .i64 0]) ∧ DiskAt w.heap.size w' L' (leftOf keep torn dur pend) [] ∧ (∀ b, L'.has b → w.heap.size ≤ b) ∧ Below w.heap.size w w' := by
  have HD := hide h
  have HC := hide (exists_any w h)
  obtain ⟨pA, pc, hpf⟩ := waits_form h.waits
  have h1 := h.cell.2.1
  have HPF := hide hpf
  have hmx := h.max
  have HSD : Hid (SR B w L.gd L.cd dur) := hide ⟨h.sure, h.okS⟩
  obtain ⟨i, hi, hz0, hz1, hz2⟩ := info_parts Tryz.infoWrF
  have HI := hide hi
  have HZ0 := hide hz0
  have HZ1 := hide hz1
  have HZS : Hid ((Value.int .i64 0 :: .int .i64 0 :: (List.replicate 64 (Value.int .u8 0) ++ [Value.bool false])).toArray.size = i.size) := hide (by rw [hz1]; rfl)
  have HKP := hide hkeep
  have HPOS := hide h.pos
  have HLT := hide (h.lt)
  have H2C := hide h.cell.2.2
  clear h hi hz0 hz1 hz2 hpf hkeep
  go_enter Tryz.func12, Tryz.ntmps12
  go_wp2_with fail
  refine Calls.mono HC.out ?_
  rintro e w1 ⟨rfl, rfl⟩
  unfold Loc.ptr
  go_wp2_with fail
  ((with_reducible refine Calls.mono (clone_any w HSD.out HPOS.out hmx) ?_))
  rintro e w1 ⟨g1, c1, rfl, hs1, hb1⟩
  have HS1 : Hid (SR w.heap.size w1 g1 c1 (leftN keep torn dur pend 0)) := hide hs1
  have HB1 := hide hb1
  have h2 : w1.cell? ⟨L.g, 2, none⟩ = some (.slice pA pend.length pc) := by
    rw [hb1.cell (p := ⟨L.g, 2, none⟩) (HLT.out _ (.inl rfl)).2, H2C.out, HPF.out]
  clear hs1 hb1 h1
  go_wp2
  go_loopw [24] (fun i wr => ∃ k : Nat, k ≤ pend.length ∧ i = .int .i64 k ∧ Hid (SR w.heap.size wr g1 c1 (leftN keep torn dur pend k)) ∧ Hid (Below w.heap.size w wr)) (fun i _ => pend.length - (intOf i).toNat)
  case atStart => exact ⟨0, Nat.zero_le _, rfl, HS1, HB1⟩
  case round =>
    obtain ⟨k, hk, rfl, HR, HB⟩ := hrel
    by_cases hlt : k < pend.length
    · obtain ⟨gp, hgp, cur, hcur⟩ : ∃ gp, pA = some ⟨gp, 0, none⟩ ∧ ∃ cur, w.heap[gp]? = some (.cells cur 83 (0, 0)) := by
        rcases HD.out.p_form with ⟨_, e⟩ | ⟨g', c', e, _, cur, hh⟩
        · rw [e] at hlt; cases hlt
        · rw [HPF.out] at e; injection e with e _ _; exact ⟨g', e, cur, hh⟩
      subst hgp
      have HOWN := HD.out.waits
      rw [HPF.out] at HOWN
      have hgpl : gp < w.heap.size := lt_of_heap hcur
      obtain ⟨x, hx⟩ : ∃ x, x = wrAt pend k := ⟨_, rfl⟩
      have HXM : Hid (OkB x.b ∧ x.n < dur.length) := hide (by rw [hx]; exact HD.out.okW _ (wrAt_mem hlt))
      obtain ⟨n, hn⟩ : ∃ n, n = x.n := ⟨_, rfl⟩
      obtain ⟨cs, hcs⟩ : ∃ cs, cs = wrV k x := ⟨_, rfl⟩
      have HCL : Hid (cs.length = 67) := hide (by rw [hcs]; exact wrV_len HXM.out.1)
      have HCELL : Hid (∀ j u, cs[j]? = some u → wr.cell? ⟨gp, k * 67 + j, none⟩ = some u) := hide (fun j u hj => by
        rw [HB.out.cell (p := ⟨gp, k * 67 + j, none⟩) hgpl]
        exact waits_at HOWN rfl (fun x hx => (HD.out.okW x hx).1) hlt j u (by rw [← hx, ← hcs]; exact hj))
      have HIS : Hid (i.size = cs.length) := hide (by rw [HZ1.out, HCL.out])
      have H1C : Hid (∀ v ∈ cs, v.oneCell' = true) := hide (by rw [hcs]; exact wrV_one _ _)
      have k0 : (0 : Int) ≤ (k : Int) := by omega
      have k1 : (k : Int) < (pend.length : Int) := by omega
      have hsz := HB.out.size
      obtain ⟨W, hW⟩ : ∃ W, W = wr.alloc (.cells cs.toArray 83) := ⟨_, rfl⟩
      have hWs : wr.heap.size < W.heap.size := by rw [hW]; simp
      have c0 : W.cell? ⟨wr.heap.size, 0, none⟩ = some (.int .i64 (n : Int)) := by
        rw [hW]; exact cells_new wr cs 83 0 (.int .i64 (n : Int)) (by rw [hcs, hn]; rfl)
      have c1' : W.cell? ⟨wr.heap.size, 1, none⟩ = some (.int .i64 (k : Int)) := by
        rw [hW]; exact cells_new wr cs 83 1 (.int .i64 (k : Int)) (by rw [hcs]; rfl)
      have HRA : Hid (W.rangeAt wr.heap.size 0 cs) := hide (fun j v hj => by
        have := cells_new wr cs 83 j v hj
        rw [Addr.add_lit] at this
        rw [hW]; exact this)
      have HRW : Hid (SR w.heap.size W g1 c1 (leftN keep torn dur pend k)) := hide (by rw [hW]; exact HR.out.alloc _)
      have HBW : Hid (Below w.heap.size w W) := hide (by rw [hW]; exact HB.out.alloc hsz _)
      have hg1 : g1 < wr.heap.size := HR.out.lt.2
      have hg1b : w.heap.size ≤ g1 := HR.out.lt.1
      have HN : Hid (n < (leftN keep torn dur pend k).length) := hide (by rw [left_len, hn]; exact HXM.out.2)
      have a1 : (0 : Int) ≤ (n : Int) := by omega
      have a2 : (n : Int) < (dur.length : Int) := by have := HXM.out.2; omega
      have HX := hide hx
      have HNX := hide hn
      have HCS := hide hcs
      have HW := hide hW
      have hWW : wr.alloc (.cells cs.toArray 83) = W := hW.symm
      have HWW := hide hWW
      clear hx hcs HOWN hn hW hWW
      by_cases ht : (k : Int) = torn
      · have ht' : ((k : Int) == torn) = true := by rw [ht]; exact beq_self_eq_true _
        have HT := hide ht
        clear ht
        go_wp2_with (first | (refine wpList_load_mid rfl 83 _ rfl _ _ cs _ rfl HCELL.out Tryz.underlying83 rfl (by rw [HCL.out]; exact Tryz.infoWr) ?_) | (refine wpList_alloc_store rfl rfl 83 rfl _ _ rfl _ i HI.out HZ0.out HZS.out cs rfl rfl HIS.out H1C.out ?_; rw [HWW.out]))
        refine wp_region_U (fun _ w' => w'.rangeAt wr.heap.size 0 cs ∧ w'.cell? ⟨wr.heap.size, 0, none⟩ = some (.int .i64 (n : Int))) 6 (by kernel_rfl) ?_
        have HS0 : Hid (W.drew.rangeAt wr.heap.size 0 cs ∧ W.drew.cell? ⟨wr.heap.size, 0, none⟩ = some (.int .i64 (n : Int))) := hide ⟨HRA.out, c0⟩
        have HSD2 : Hid (SR w.heap.size W.drew g1 c1 (leftN keep torn dur pend k)) := HRW
        have HL2 : Hid ((leftN keep torn dur pend k).length = dur.length) := hide (left_len _ _ _ _ _)
        refine wpAnyU_take (i := 0) (oi := { dst := some 34, op := _, type := _, pos := _, after := _, guard := none }) (v := .agg cs.toArray) rfl (by kernel_rfl) (by kernel_rfl) (by kernel_rfl) (by kernel_rfl) (fun _ _ _ h => h) (yieldsIf_load_mid rfl _ _ rfl wr.heap.size 0 (by simp [Act.eval]) cs _ (fun w' hw => hw.const.1) Tryz.underlying83 rfl (by rw [HCL.out]; exact Tryz.infoWr)) HS0.out ?_
        simp only [Act.put, List.setIfInBounds_toArray, List.set_cons_zero, List.set_cons_succ]
        refine wpAnyU_take (i := 1) (oi := { dst := some 35, op := _, type := _, pos := _, after := _, guard := none }) (v := .slice (some ⟨g1, 0, none⟩) dur.length c1) rfl (by kernel_rfl) (by kernel_rfl) (by kernel_rfl) (by kernel_rfl) (fun _ _ _ h => h) (yields_take rfl (fun w' _ => by go_simp)) HS0.out ?_
        simp only [Act.put, List.setIfInBounds_toArray, List.set_cons_zero, List.set_cons_succ]
        refine wpAnyU_take (i := 2) (oi := { dst := some 36, op := _, type := _, pos := _, after := _, guard := none }) (v := .pointer (some ⟨wr.heap.size, 0, none⟩)) rfl (by kernel_rfl) (by kernel_rfl) (by kernel_rfl) (by kernel_rfl) (fun _ _ _ h => h) (yields_take rfl (fun w' _ => by go_simp)) HS0.out ?_
        simp only [Act.put, List.setIfInBounds_toArray, List.set_cons_zero, List.set_cons_succ]
        refine wpAnyU_take (i := 3) (oi := { dst := some 37, op := _, type := _, pos := _, after := _, guard := none }) (v := .pointer (some ⟨wr.heap.size, 0, none⟩)) rfl (by kernel_rfl) (by kernel_rfl) (by kernel_rfl) (by kernel_rfl) (fun _ _ _ h => h) (yields_take rfl (fun w' _ => by go_simp)) HS0.out ?_
        simp only [Act.put, List.setIfInBounds_toArray, List.set_cons_zero, List.set_cons_succ]
        refine wpAnyU_take (i := 4) (oi := { dst := some 38, op := _, type := _, pos := _, after := _, guard := none }) (v := .int .i64 (n : Int)) rfl (by kernel_rfl) (by kernel_rfl) (by kernel_rfl) (by kernel_rfl) (fun _ _ _ h => h) (yields_take rfl (fun w' hw => by have hc := hw.const.2; go_simp)) HS0.out ?_
        simp only [Act.put, List.setIfInBounds_toArray, List.set_cons_zero, List.set_cons_succ]
        refine wpAnyU_take (i := 5) (oi := { dst := some 39, op := _, type := _, pos := _, after := _, guard := none }) (v := .pointer (some ⟨g1, n * 65, none⟩)) rfl (by kernel_rfl) (by kernel_rfl) (by kernel_rfl) (by kernel_rfl) (fun _ _ _ h => h) (yields_take rfl (fun w' _ => by go_simp)) HS0.out ?_
        simp only [Act.put, List.setIfInBounds_toArray, List.set_cons_zero, List.set_cons_succ]
        refine wpAnyU_one (i := 6) (by kernel_rfl) rfl ?_
        intro K hK
        go_simp
        have HA := tear_any (i := k) x W.drew HSD2.out HXM.out.1 HN.out
        rw [← HCS.out] at HA
        ((with_reducible refine Calls.mono HA ?_))
        rintro e w8 ⟨rfl, hs8, ht8⟩
        dsimp only
        have HR8 : Hid (SR w.heap.size w8 g1 c1 (leftN keep torn dur pend (k + 1))) := hide (by rw [leftN, ← HX.out, step_torn HT.out, ← HNX.out]; exact hs8)
        have HB8 : Hid (Below w.heap.size w w8) := hide (by
          have hT : Turns W w8 (· = g1) := ⟨ht8.os, ht8.tape, ht8.output, ht8.size, ht8.block⟩
          exact hT.below HBW.out (Nat.le_trans hsz (Nat.le_of_lt hWs)) (fun b hb => by rw [hb]; exact hg1b))
        have q2 : w8.heap[wr.heap.size]? = W.heap[wr.heap.size]? := ht8.block wr.heap.size (hWs) (Nat.ne_of_gt hg1)
        refine hK.out _ _ ⟨fun j v hj => (World.cell?_of_block (a := ⟨wr.heap.size, 0 + j, none⟩) q2).trans (HS0.out.1 j v hj), (World.cell?_of_block (a := ⟨wr.heap.size, 0, none⟩) q2).trans HS0.out.2⟩ (fun _ => ?_)
        clear hK K hs8 ht8 q2 HA
        refine wpAnyU_done (by kernel_rfl) ?_ _
        go_wp2
        go_roundw
        case rel => exact ⟨k + 1, by omega, by go_num, HR8, HB8⟩
        case measure => simp [intOf]; omega
      · have ht' : ((k : Int) == torn) = false := beq_eq_false_iff_ne.2 ht
        have HT := hide ht
        clear ht
        have HKC := hide (kept_any keep k n W HKP.out (by omega))
        obtain ⟨kb, hkb⟩ : ∃ kb, kb = keptB keep k := ⟨_, rfl⟩
        rw [← hkb] at HKC
        have HKB := hide hkb
        clear hkb
        go_wp2_with (first | (refine wpList_load_mid rfl 83 _ rfl _ _ cs _ rfl HCELL.out Tryz.underlying83 rfl (by rw [HCL.out]; exact Tryz.infoWr) ?_) | (refine wpList_alloc_store rfl rfl 83 rfl _ _ rfl _ i HI.out HZ0.out HZS.out cs rfl rfl HIS.out H1C.out ?_; rw [HWW.out]))
        ((with_reducible refine Calls.mono HKC.out ?_))
        rintro e w6 ⟨rfl, hb6⟩
        have HB6 := hide hb6
        have hs6 := hb6.size
        have HBW6 : Hid (Below w.heap.size w w6) := hide (HBW.out.trans (hb6.mono (Nat.le_trans hsz (Nat.le_of_lt hWs))))
        have HRW6 : Hid (SR w.heap.size w6 g1 c1 (leftN keep torn dur pend k)) := hide (HRW.out.below hb6)
        have c06 : w6.cell? ⟨wr.heap.size, 0, none⟩ = some (.int .i64 (n : Int)) := by rw [hb6.cell (p := ⟨wr.heap.size, 0, none⟩) hWs]; exact c0
        have HRA6 : Hid (w6.rangeAt wr.heap.size 0 cs) := hide (fun j v hj => by rw [hb6.cell (p := ⟨wr.heap.size, 0 + j, none⟩) hWs]; exact HRA.out j v hj)
        clear hb6 c0 c1'
        cases kb
        · go_wp2
          go_roundw
          case rel => exact ⟨k + 1, by omega, by go_num, hide (by rw [leftN, step_lost HT.out HKB.out.symm]; exact HRW6.out), HBW6⟩
          case measure => simp [intOf]; omega
        · go_wp2
          refine wp_region_U (fun _ w' => w'.rangeAt wr.heap.size 0 cs ∧ w'.cell? ⟨wr.heap.size, 0, none⟩ = some (.int .i64 (n : Int))) 6 (by kernel_rfl) ?_
          have HS6 : Hid (w6.drew.rangeAt wr.heap.size 0 cs ∧ w6.drew.cell? ⟨wr.heap.size, 0, none⟩ = some (.int .i64 (n : Int))) := hide ⟨HRA6.out, c06⟩
          have HSD2 : Hid (SR w.heap.size w6.drew g1 c1 (leftN keep torn dur pend k)) := HRW6
          have HL2 : Hid ((leftN keep torn dur pend k).length = dur.length) := hide (left_len _ _ _ _ _)
          refine wpAnyU_take (i := 0) (oi := { dst := some 46, op := _, type := _, pos := _, after := _, guard := none }) (v := .agg cs.toArray) rfl (by kernel_rfl) (by kernel_rfl) (by kernel_rfl) (by kernel_rfl) (fun _ _ _ h => h) (yieldsIf_load_mid rfl _ _ rfl wr.heap.size 0 (by simp [Act.eval]) cs _ (fun w' hw => hw.const.1) Tryz.underlying83 rfl (by rw [HCL.out]; exact Tryz.infoWr)) HS6.out ?_
          simp only [Act.put, List.setIfInBounds_toArray, List.set_cons_zero, List.set_cons_succ]
          refine wpAnyU_take (i := 1) (oi := { dst := some 47, op := _, type := _, pos := _, after := _, guard := none }) (v := .slice (some ⟨g1, 0, none⟩) dur.length c1) rfl (by kernel_rfl) (by kernel_rfl) (by kernel_rfl) (by kernel_rfl) (fun _ _ _ h => h) (yields_take rfl (fun w' _ => by go_simp)) HS6.out ?_
          simp only [Act.put, List.setIfInBounds_toArray, List.set_cons_zero, List.set_cons_succ]
          refine wpAnyU_take (i := 2) (oi := { dst := some 48, op := _, type := _, pos := _, after := _, guard := none }) (v := .pointer (some ⟨wr.heap.size, 0, none⟩)) rfl (by kernel_rfl) (by kernel_rfl) (by kernel_rfl) (by kernel_rfl) (fun _ _ _ h => h) (yields_take rfl (fun w' _ => by go_simp)) HS6.out ?_
          simp only [Act.put, List.setIfInBounds_toArray, List.set_cons_zero, List.set_cons_succ]
          refine wpAnyU_take (i := 3) (oi := { dst := some 49, op := _, type := _, pos := _, after := _, guard := none }) (v := .pointer (some ⟨wr.heap.size, 0, none⟩)) rfl (by kernel_rfl) (by kernel_rfl) (by kernel_rfl) (by kernel_rfl) (fun _ _ _ h => h) (yields_take rfl (fun w' _ => by go_simp)) HS6.out ?_
          simp only [Act.put, List.setIfInBounds_toArray, List.set_cons_zero, List.set_cons_succ]
          refine wpAnyU_take (i := 4) (oi := { dst := some 50, op := _, type := _, pos := _, after := _, guard := none }) (v := .int .i64 (n : Int)) rfl (by kernel_rfl) (by kernel_rfl) (by kernel_rfl) (by kernel_rfl) (fun _ _ _ h => h) (yields_take rfl (fun w' hw => by have hc := hw.const.2; go_simp)) HS6.out ?_
          simp only [Act.put, List.setIfInBounds_toArray, List.set_cons_zero, List.set_cons_succ]
          refine wpAnyU_take (i := 5) (oi := { dst := some 51, op := _, type := _, pos := _, after := _, guard := none }) (v := .pointer (some ⟨g1, n * 65, none⟩)) rfl (by kernel_rfl) (by kernel_rfl) (by kernel_rfl) (by kernel_rfl) (fun _ _ _ h => h) (yields_take rfl (fun w' _ => by go_simp)) HS6.out ?_
          simp only [Act.put, List.setIfInBounds_toArray, List.set_cons_zero, List.set_cons_succ]
          refine wpAnyU_one (i := 6) (by kernel_rfl) rfl ?_
          intro K hK
          go_simp
          have HA := apply_any (i := k) x w6.drew HSD2.out HXM.out.1 HN.out
          rw [← HCS.out] at HA
          ((with_reducible refine Calls.mono HA ?_))
          rintro e w8 ⟨rfl, hs8, ht8⟩
          dsimp only
          have HR8 : Hid (SR w.heap.size w8 g1 c1 (leftN keep torn dur pend (k + 1))) := hide (by rw [leftN, ← HX.out, step_kept HT.out HKB.out.symm, ← HNX.out]; exact hs8)
          have HB8 : Hid (Below w.heap.size w w8) := hide (by
            have hT : Turns w6 w8 (· = g1) := ⟨ht8.os, ht8.tape, ht8.output, ht8.size, ht8.block⟩
            exact hT.below HBW6.out (Nat.le_trans hsz (Nat.le_trans (Nat.le_of_lt hWs) hs6)) (fun b hb => by rw [hb]; exact hg1b))
          have q2 : w8.heap[wr.heap.size]? = w6.heap[wr.heap.size]? := ht8.block wr.heap.size (Nat.lt_of_lt_of_le hWs hs6) (Nat.ne_of_gt hg1)
          refine hK.out _ _ ⟨fun j v hj => (World.cell?_of_block (a := ⟨wr.heap.size, 0 + j, none⟩) q2).trans (HS6.out.1 j v hj), (World.cell?_of_block (a := ⟨wr.heap.size, 0, none⟩) q2).trans HS6.out.2⟩ (fun _ => ?_)
          clear hK K hs8 ht8 q2 HA
          refine wpAnyU_done (by kernel_rfl) ?_ _
          go_wp2
          go_roundw
          case rel => exact ⟨k + 1, by omega, by go_num, HR8, HB8⟩
          case measure => simp [intOf]; omega
    · obtain rfl : k = pend.length := by omega
      have HLN : Hid ((leftN keep torn dur pend pend.length).length = dur.length) := hide (left_len _ _ _ _ _)
      have HDU := durable_any wr HR.out (by rw [HLN.out]; exact HPOS.out) (by rw [HLN.out]; exact hmx)
      rw [HLN.out] at HDU
      go_wp2_with fail
      ((with_reducible refine Calls.mono HDU ?_))
      rintro e w7 ⟨L', rfl, hd, hh, hb⟩
      have HD7 := hide hd
      have HH : Hid (∀ b, L'.has b → w.heap.size ≤ b) := hide (fun b hb' => by
        rcases hh b hb' with e | e
        · rw [e]; exact HR.out.lt.1
        · exact Nat.le_trans HB.out.size e)
      have HB7 : Hid (Below w.heap.size w w7) := hide (HB.out.trans (hb.mono HB.out.size))
      clear hd hh hb HDU
      go_wp2
      go_ret2
      exact ⟨L', rfl, HD7.out, HH.out, HB7.out⟩
end Go.Proofs.YtapdaeafeejknaaGreatDoor
