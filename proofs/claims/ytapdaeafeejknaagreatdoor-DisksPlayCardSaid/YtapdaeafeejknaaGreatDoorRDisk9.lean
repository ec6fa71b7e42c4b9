/- Contracts of the document's disk: Fail. -/
import Derived.Test.YtapdaeafeejknaaGreatDoorRDisk8
namespace Go.Proofs.YtapdaeafeejknaaGreatDoor
open Go.RowKit
set_option maxRecDepth 20000
set_option linter.unusedVariables false
set_option linter.unusedSimpArgs false

theorem kept_bit (keep k : Nat) (hk : keep < 18446744073709551616) : (bits BinOp.and IntKind.u64 ((keep : Int) / 2 ^ (k % 64)) 1 == 1) = keptB keep k := by
  have hq : keep / 2 ^ (k % 64) < 18446744073709551616 := Nat.lt_of_le_of_lt (Nat.div_le_self _ _) hk
  have hb := u64_and_nat (keep / 2 ^ (k % 64)) 1 hq (by omega)
  rw [Nat.and_one_is_mod] at hb
  have hcast : ((keep : Int) / 2 ^ (k % 64)) = ((keep / 2 ^ (k % 64) : Nat) : Int) := by simp
  rw [hcast]
  have hb' : bits BinOp.and IntKind.u64 ((keep / 2 ^ (k % 64) : Nat) : Int) 1 = _ := hb
  rw [hb']
  unfold keptB
  rw [Bool.eq_iff_iff]
  simp
  omega

set_option maxRecDepth 100000 in
set_option maxHeartbeats 16000000 in
theorem rfail_any {B : Nat} {L : RLoc} {dur : List Sec} {pend : List Wr} (keep : Nat) (torn : Int) (w : World) (h : RAt B w L dur pend) (hkp : keep < 18446744073709551616) (hp : pend.length ≤ 1000000000) :
    Calls Tryz.prog 13 #[L.ptr, .int .u64 (keep : Int), .int .i64 torn] w fun e w' => ∃ L' : RLoc, e = .returned (.tuple #[L'.ptr, .int .i64 0]) ∧ RAt w.heap.size w' L' (leftOf keep torn dur pend) [] ∧ (∀ b, L'.has b → w.heap.size ≤ b) ∧ Below w.heap.size w w' := by
  obtain ⟨i0, hi, hz0, hz1, hz2⟩ := info_parts Tryz.infoRS
  have HI := hide hi
  have HZ0 := hide hz0
  have HZ1 := hide hz1
  have HZ2 := hide hz2
  have HD := hide h
  obtain ⟨pA, pc, hpf⟩ := waits_form h.waits
  have HPF := hide hpf
  have h0 := h.cell.1
  have hpos := h.pos
  have hmx := h.max
  have HLEN : Hid ((rsecsV dur).length = dur.length * 2) := hide (rsecsV_len _)
  have HKP := hide hkp
  clear hi hz0 hz1 hz2 h hpf hkp
  go_enter Tryz.func13, Tryz.ntmps13
  unfold RLoc.ptr
  go_wp2_with (at_builtin; refine wpList_append_rows rfl _ _ 68 rfl 74 i0 (.agg #[.string ⟨#[]⟩, .bool false]) 2 24 Tryz.underlying68 HI.out HZ0.out HZ1.out HZ2.out rfl (by decide) rfl ⟨L.gd, 0, none⟩ dur.length L.cd (rsecsV dur) rfl HLEN.out HD.out.sure.cells (rsecsV_one _) hpos (by omega) (by unfold maxLen; omega) ?_)
  intro g1 c1 w1 ho1 hb1 hg1
  have HR1 : Hid (RSR w.heap.size w1 g1 c1 (leftN keep torn dur pend 0)) := hide ho1
  have HB1 := hide hb1
  clear ho1 hb1 h0
  go_wp2
  go_loopw [9] (fun i wr => ∃ k : Nat, k ≤ pend.length ∧ i = .int .i64 k ∧ Hid (RSR w.heap.size wr g1 c1 (leftN keep torn dur pend k)) ∧ Hid (Below w.heap.size w wr)) (fun i _ => pend.length - (intOf i).toNat)
  case atStart => exact ⟨0, Nat.zero_le _, rfl, HR1, HB1⟩
  case round =>
    obtain ⟨k, hk, rfl, HR, HW⟩ := hrel
    have HDr := hide (HD.out.below HW.out)
    have h2 : wr.cell? ⟨L.g, 2, none⟩ = some (.slice pA pend.length pc) := by rw [HDr.out.cell.2.2, HPF.out]
    by_cases hlt : k < pend.length
    · obtain ⟨gp, hgp⟩ : ∃ gp, pA = some ⟨gp, 0, none⟩ := by
        rcases HD.out.p_form with ⟨_, e⟩ | ⟨g', c', e, _, cur, hh⟩
        · rw [e] at hlt; cases hlt
        · rw [HPF.out] at e; injection e with e _ _; exact ⟨g', e⟩
      subst hgp
      obtain ⟨x, hx⟩ : ∃ x, x = wrAt pend k := ⟨_, rfl⟩
      have HXM : Hid (OkB x.b ∧ x.n < dur.length) := hide (by rw [hx]; exact HD.out.okW _ (wrAt_mem hlt))
      have HWT : Hid (wr.ownsRow B 89 3 (.slice (some ⟨gp, 0, none⟩) pend.length pc) pend.length (rwrsV pend)) := hide (by rw [← HPF.out]; exact HDr.out.waits)
      obtain ⟨d0, d1, d2⟩ := rwaits_at HWT.out rfl hlt
      rw [← hx] at d0 d1 d2
      obtain ⟨xn, hxn⟩ : ∃ xn, xn = x.n := ⟨_, rfl⟩
      obtain ⟨xb, hxb⟩ : ∃ xb, xb = x.b := ⟨_, rfl⟩
      obtain ⟨xo, hxo⟩ : ∃ xo, xo = x.old := ⟨_, rfl⟩
      rw [← hxn] at d0
      rw [← hxb] at d1
      rw [← hxo] at d2
      unfold strV at d1
      have k0 : (0 : Int) ≤ (k : Int) := by omega
      have k1 : (k : Int) < (pend.length : Int) := by omega
      have HXX : Hid (x = ⟨xn, xb, xo⟩) := hide (by rw [hxn, hxb, hxo])
      have HST : Hid (leftN keep torn dur pend (k + 1) = stepF keep torn k (leftN keep torn dur pend k) ⟨xn, xb, xo⟩) := hide (by rw [leftN, ← hx, HXX.out])
      have HOKX : Hid (OkB xb ∧ xn < dur.length) := hide (by rw [hxb, hxn]; exact HXM.out)
      obtain ⟨l, hl⟩ : ∃ l, l = leftN keep torn dur pend k := ⟨_, rfl⟩
      have hll : l.length = dur.length := by rw [hl, left_len]
      have HOKL : Hid (∀ s ∈ l, OkB s.b) := hide (by rw [hl]; exact left_ok HD.out.okS HD.out.okW k hk)
      rw [← hl] at HR HST
      have HLL := hide hll
      have hxl : xn < l.length := by rw [hll]; exact HOKX.out.2
      obtain ⟨sb, hsb⟩ : ∃ sb, sb = (secAt l xn).b := ⟨_, rfl⟩
      obtain ⟨bd, hbd⟩ : ∃ bd, bd = (secAt l xn).bad := ⟨_, rfl⟩
      have HSB := hide hsb
      have HBD := hide hbd
      have HXL := hide hxl
      have HOKS : Hid (OkB sb) := hide (by rw [hsb]; exact secAt_ok HOKL.out hxl)
      obtain ⟨V, hV⟩ : ∃ V, wr.heap.size = V := ⟨_, rfl⟩
      have HV := hide hV
      have hVl : w.heap.size ≤ V := by rw [← hV]; exact HW.out.size
      have hgV : g1 < V := by rw [← hV]; exact HR.out.lt.2
      obtain ⟨W1, hW1⟩ : ∃ W1, wr.alloc (.cells #[.int .i64 (xn : Int), .string (strOfNums xb), .bool xo] 89) = W1 := ⟨_, rfl⟩
      have HB11 : Hid (Below wr.heap.size wr W1) := hide (by rw [← hW1]; exact (Below.refl _ _).alloc (Nat.le_refl _) _)
      have HVB : Hid (W1.heap[V]? = some (.cells #[.int .i64 (xn : Int), .string (strOfNums xb), .bool xo] 89 (0, 0))) := hide (by rw [← hW1, ← hV]; exact heap_alloc_new wr _)
      have HRW1 : Hid (RSR w.heap.size W1 g1 c1 l) := hide (HR.out.below HB11.out)
      have HW1 : Hid (Below w.heap.size w W1) := hide (HW.out.trans (HB11.out.mono HW.out.size))
      have HCW1 : W1.cell? ⟨V, 0, none⟩ = some (.int .i64 (xn : Int)) ∧ W1.cell? ⟨V, 1, none⟩ = some (.string (strOfNums xb)) ∧ W1.cell? ⟨V, 2, none⟩ = some (.bool xo) ∧ W1.cell? ⟨g1, xn * 2, none⟩ = some (.string (strOfNums sb)) ∧ W1.cell? ⟨g1, xn * 2 + 1, none⟩ = some (.bool bd) := by
        refine ⟨?_, ?_, ?_, ?_, ?_⟩
        · rw [cell_of_row _ _ _ _ _ _ HVB.out]; rfl
        · rw [cell_of_row _ _ _ _ _ _ HVB.out]; rfl
        · rw [cell_of_row _ _ _ _ _ _ HVB.out]; rfl
        · rw [HRW1.out.cellB hxl, hsb]; rfl
        · rw [HRW1.out.cellF hxl, hbd]
      have b0 : (0 : Int) ≤ (xn : Int) := by omega
      have b1 : (xn : Int) < (dur.length : Int) := by have := HOKX.out.2; omega
      have e32a : (strOfNums xb).extract 0 32 = strOfNums (xb.take 32) := str_take xb 32
      have zxb : (strOfNums xb).size = 64 := by rw [strOfNums_size, HOKX.out.1.1]
      have zsb : (strOfNums sb).size = 64 := by rw [strOfNums_size, HOKS.out.1]
      have e32b : (strOfNums sb).extract 32 64 = strOfNums (sb.drop 32) := by rw [← zsb]; exact str_drop sb 32
      have e32c : strOfNums (xb.take 32) ++ strOfNums (sb.drop 32) = strOfNums (xb.take 32 ++ sb.drop 32) := str_append _ _
      have z32 : (strOfNums (xb.take 32)).size + (strOfNums (sb.drop 32)).size ≤ 9223372036854775807 := by rw [strOfNums_size, strOfNums_size]; simp [HOKX.out.1.1, HOKS.out.1]
      clear hx hxn hxb hxo hl hll hxl hsb hbd
      by_cases htn : (k : Int) = torn
      · have e1 : ((k : Int) == torn) = true := by rw [htn]; exact beq_self_eq_true _
        have HTN := hide htn
        clear htn
        go_wp2_with fail
        have h7 : Hid (W1.drew.cell? ⟨V, 0, none⟩ = some (.int .i64 (xn : Int)) ∧ W1.drew.cell? ⟨V, 1, none⟩ = some (.string (strOfNums xb)) ∧ W1.drew.cell? ⟨V, 2, none⟩ = some (.bool xo) ∧ W1.drew.cell? ⟨g1, xn * 2, none⟩ = some (.string (strOfNums sb)) ∧ W1.drew.cell? ⟨g1, xn * 2 + 1, none⟩ = some (.bool bd)) := hide HCW1
        refine wp_region_U (fun bb w' => bb = false → (w'.cell? ⟨V, 0, none⟩ = some (.int .i64 (xn : Int)) ∧ w'.cell? ⟨V, 1, none⟩ = some (.string (strOfNums xb)) ∧ w'.cell? ⟨V, 2, none⟩ = some (.bool xo) ∧ w'.cell? ⟨g1, xn * 2, none⟩ = some (.string (strOfNums sb)) ∧ w'.cell? ⟨g1, xn * 2 + 1, none⟩ = some (.bool bd))) 16 (by kernel_rfl) ?_
        refine wpAnyU_take (i := 0) (oi := { dst := some 35, op := _, type := _, pos := _, after := _, guard := none }) (v := .slice (some ⟨g1, 0, none⟩) dur.length c1) rfl (by kernel_rfl) (by kernel_rfl) (by kernel_rfl) (by kernel_rfl) (fun _ _ _ h => h) (yields_take rfl (fun w' hw => by go_simp)) (fun _ => h7.out) ?_
        simp only [Act.put, List.setIfInBounds_toArray, List.set_cons_zero, List.set_cons_succ]
        refine wpAnyU_take (i := 1) (oi := { dst := some 36, op := _, type := _, pos := _, after := _, guard := none }) (v := .pointer (some ⟨V, 0, none⟩)) rfl (by kernel_rfl) (by kernel_rfl) (by kernel_rfl) (by kernel_rfl) (fun _ _ _ h => h) (yields_take rfl (fun w' hw => by go_simp)) (fun _ => h7.out) ?_
        simp only [Act.put, List.setIfInBounds_toArray, List.set_cons_zero, List.set_cons_succ]
        refine wpAnyU_take (i := 2) (oi := { dst := some 37, op := _, type := _, pos := _, after := _, guard := none }) (v := .int .i64 (xn : Int)) rfl (by kernel_rfl) (by kernel_rfl) (by kernel_rfl) (by kernel_rfl) (fun _ _ _ h => h) (yields_take rfl (fun w' hw => by obtain ⟨hc0, hc1, hc2, hc3, hc4⟩ := hw.no (by kernel_rfl) rfl; go_simp)) (fun _ => h7.out) ?_
        simp only [Act.put, List.setIfInBounds_toArray, List.set_cons_zero, List.set_cons_succ]
        refine wpAnyU_take (i := 3) (oi := { dst := some 38, op := _, type := _, pos := _, after := _, guard := none }) (v := .pointer (some ⟨V, 1, none⟩)) rfl (by kernel_rfl) (by kernel_rfl) (by kernel_rfl) (by kernel_rfl) (fun _ _ _ h => h) (yields_take rfl (fun w' hw => by go_simp)) (fun _ => h7.out) ?_
        simp only [Act.put, List.setIfInBounds_toArray, List.set_cons_zero, List.set_cons_succ]
        refine wpAnyU_take (i := 4) (oi := { dst := some 39, op := _, type := _, pos := _, after := _, guard := none }) (v := .string (strOfNums xb)) rfl (by kernel_rfl) (by kernel_rfl) (by kernel_rfl) (by kernel_rfl) (fun _ _ _ h => h) (yields_take rfl (fun w' hw => by obtain ⟨hc0, hc1, hc2, hc3, hc4⟩ := hw.no (by kernel_rfl) rfl; go_simp)) (fun _ => h7.out) ?_
        simp only [Act.put, List.setIfInBounds_toArray, List.set_cons_zero, List.set_cons_succ]
        refine wpAnyU_take (i := 5) (oi := { dst := some 40, op := _, type := _, pos := _, after := _, guard := none }) (v := .string (strOfNums (xb.take 32))) rfl (by kernel_rfl) (by kernel_rfl) (by kernel_rfl) (by kernel_rfl) (fun _ _ _ h => h) (yields_take rfl (fun w' hw => by go_simp)) (fun _ => h7.out) ?_
        simp only [Act.put, List.setIfInBounds_toArray, List.set_cons_zero, List.set_cons_succ]
        refine wpAnyU_take (i := 6) (oi := { dst := some 41, op := _, type := _, pos := _, after := _, guard := none }) (v := .slice (some ⟨g1, 0, none⟩) dur.length c1) rfl (by kernel_rfl) (by kernel_rfl) (by kernel_rfl) (by kernel_rfl) (fun _ _ _ h => h) (yields_take rfl (fun w' hw => by go_simp)) (fun _ => h7.out) ?_
        simp only [Act.put, List.setIfInBounds_toArray, List.set_cons_zero, List.set_cons_succ]
        refine wpAnyU_take (i := 7) (oi := { dst := some 42, op := _, type := _, pos := _, after := _, guard := none }) (v := .pointer (some ⟨V, 0, none⟩)) rfl (by kernel_rfl) (by kernel_rfl) (by kernel_rfl) (by kernel_rfl) (fun _ _ _ h => h) (yields_take rfl (fun w' hw => by go_simp)) (fun _ => h7.out) ?_
        simp only [Act.put, List.setIfInBounds_toArray, List.set_cons_zero, List.set_cons_succ]
        refine wpAnyU_take (i := 8) (oi := { dst := some 43, op := _, type := _, pos := _, after := _, guard := none }) (v := .int .i64 (xn : Int)) rfl (by kernel_rfl) (by kernel_rfl) (by kernel_rfl) (by kernel_rfl) (fun _ _ _ h => h) (yields_take rfl (fun w' hw => by obtain ⟨hc0, hc1, hc2, hc3, hc4⟩ := hw.no (by kernel_rfl) rfl; go_simp)) (fun _ => h7.out) ?_
        simp only [Act.put, List.setIfInBounds_toArray, List.set_cons_zero, List.set_cons_succ]
        refine wpAnyU_take (i := 9) (oi := { dst := some 44, op := _, type := _, pos := _, after := _, guard := none }) (v := .pointer (some ⟨g1, xn * 2, none⟩)) rfl (by kernel_rfl) (by kernel_rfl) (by kernel_rfl) (by kernel_rfl) (fun _ _ _ h => h) (yields_take rfl (fun w' hw => by go_simp)) (fun _ => h7.out) ?_
        simp only [Act.put, List.setIfInBounds_toArray, List.set_cons_zero, List.set_cons_succ]
        refine wpAnyU_take (i := 10) (oi := { dst := some 45, op := _, type := _, pos := _, after := _, guard := none }) (v := .pointer (some ⟨g1, xn * 2, none⟩)) rfl (by kernel_rfl) (by kernel_rfl) (by kernel_rfl) (by kernel_rfl) (fun _ _ _ h => h) (yields_take rfl (fun w' hw => by go_simp)) (fun _ => h7.out) ?_
        simp only [Act.put, List.setIfInBounds_toArray, List.set_cons_zero, List.set_cons_succ]
        refine wpAnyU_take (i := 11) (oi := { dst := some 46, op := _, type := _, pos := _, after := _, guard := none }) (v := .string (strOfNums sb)) rfl (by kernel_rfl) (by kernel_rfl) (by kernel_rfl) (by kernel_rfl) (fun _ _ _ h => h) (yields_take rfl (fun w' hw => by obtain ⟨hc0, hc1, hc2, hc3, hc4⟩ := hw.no (by kernel_rfl) rfl; go_simp)) (fun _ => h7.out) ?_
        simp only [Act.put, List.setIfInBounds_toArray, List.set_cons_zero, List.set_cons_succ]
        refine wpAnyU_take (i := 12) (oi := { dst := some 47, op := _, type := _, pos := _, after := _, guard := none }) (v := .string (strOfNums (sb.drop 32))) rfl (by kernel_rfl) (by kernel_rfl) (by kernel_rfl) (by kernel_rfl) (fun _ _ _ h => h) (yields_take rfl (fun w' hw => by go_simp)) (fun _ => h7.out) ?_
        simp only [Act.put, List.setIfInBounds_toArray, List.set_cons_zero, List.set_cons_succ]
        refine wpAnyU_take (i := 13) (oi := { dst := some 48, op := _, type := _, pos := _, after := _, guard := none }) (v := .string (strOfNums (xb.take 32 ++ sb.drop 32))) rfl (by kernel_rfl) (by kernel_rfl) (by kernel_rfl) (by kernel_rfl) (fun _ _ _ h => h) (yields_take rfl (fun w' hw => by go_simp)) (fun _ => h7.out) ?_
        simp only [Act.put, List.setIfInBounds_toArray, List.set_cons_zero, List.set_cons_succ]
        refine wpAnyU_take (i := 14) (oi := { dst := some 49, op := _, type := _, pos := _, after := _, guard := none }) (v := .pointer (some ⟨g1, xn * 2, none⟩)) rfl (by kernel_rfl) (by kernel_rfl) (by kernel_rfl) (by kernel_rfl) (fun _ _ _ h => h) (yields_take rfl (fun w' hw => by go_simp)) (fun _ => h7.out) ?_
        simp only [Act.put, List.setIfInBounds_toArray, List.set_cons_zero, List.set_cons_succ]
        refine wpAnyU_take (i := 15) (oi := { dst := some 50, op := _, type := _, pos := _, after := _, guard := none }) (v := .pointer (some ⟨g1, xn * 2, none⟩)) rfl (by kernel_rfl) (by kernel_rfl) (by kernel_rfl) (by kernel_rfl) (fun _ _ _ h => h) (yields_take rfl (fun w' hw => by go_simp)) (fun _ => h7.out) ?_
        simp only [Act.put, List.setIfInBounds_toArray, List.set_cons_zero, List.set_cons_succ]
        have z1 : W1.drew.cell? ⟨g1, xn * 2, none⟩ = some (.string (strOfNums sb)) := h7.out.2.2.2.1
        have z2 : W1.drew.frozen? ⟨g1, xn * 2, none⟩ = false := HRW1.out.frozen _
        obtain ⟨W2, hW2⟩ : ∃ W2, W1.drew.setCell ⟨g1, xn * 2, none⟩ (.string (strOfNums (xb.take 32 ++ sb.drop 32))) = W2 := ⟨_, rfl⟩
        refine wpAnyU_one (i := 16) (by kernel_rfl) rfl ?_
        intro K hK
        go_simp
        refine hK.out _ _ (fun h => absurd h (by decide)) (fun _ => ?_)
        clear hK K z1 z2 h7
        refine wpAnyU_done (by kernel_rfl) ?_ _
        have HRW2 : Hid (RSR w.heap.size W2 g1 c1 (leftN keep torn dur pend (k + 1))) := hide (by
          have h := ((HRW1.out.same (w' := W1.drew) rfl).setB HXL.out (xb.take 32 ++ sb.drop 32)).1
          unfold strV at h
          rw [hW2] at h
          rw [HST.out, stepF, if_pos HTN.out]
          unfold tearW
          rw [← HSB.out]
          exact h)
        have HW2 : Hid (Below w.heap.size w W2) := hide (by rw [← hW2]; exact (below_drewN HW1.out 1).setCell hg1 _)
        clear hW2 HCW1 d0 d1 d2 h2 hW1
        go_wp2
        go_roundw
        case rel => exact ⟨k + 1, by omega, by go_num, HRW2, HW2⟩
        case measure => simp [intOf]; omega
      · have e1 : ((k : Int) == torn) = false := beq_eq_false_iff_ne.2 htn
        have HTN := hide htn
        have hbit := kept_bit keep k HKP.out
        clear htn
        cases hkb : keptB keep k
        · rw [hkb] at hbit
          have HKB := hide hkb
          have HRW2 : Hid (RSR w.heap.size W1 g1 c1 (leftN keep torn dur pend (k + 1))) := hide (by
            rw [HST.out, stepF, if_neg HTN.out, if_neg (by have := HKB.out; unfold keptB at this; simpa using this)]
            exact HRW1.out)
          clear hkb
          go_wp2
          go_roundw
          case rel => exact ⟨k + 1, by omega, by go_num, HRW2, HW1⟩
          case measure => simp [intOf]; omega
        · rw [hkb] at hbit
          have HKB := hide hkb
          clear hkb
          obtain ⟨y0, y1, y2, y3, y4⟩ := HCW1
          have y5 : W1.frozen? ⟨g1, xn * 2, none⟩ = false := HRW1.out.frozen _
          obtain ⟨W3, hW3⟩ : ∃ W3, W1.setCell ⟨g1, xn * 2, none⟩ (.string (strOfNums xb)) = W3 := ⟨_, rfl⟩
          have HRW3 : Hid (RSR w.heap.size W3 g1 c1 (l.set xn ⟨xb, bd⟩)) := hide (by
            have h := (HRW1.out.setB HXL.out xb).1
            unfold strV at h
            rw [hW3] at h
            rw [HBD.out]
            exact h)
          have HVB3 : Hid (W3.heap[V]? = some (.cells #[.int .i64 (xn : Int), .string (strOfNums xb), .bool xo] 89 (0, 0))) := hide (by rw [← hW3]; exact (heap_setCell_other W1 ⟨g1, xn * 2, none⟩ V _ (by show V ≠ g1; omega)).trans HVB.out)
          have HW3 : Hid (Below w.heap.size w W3) := hide (by rw [← hW3]; exact HW1.out.setCell hg1 _)
          have HCW3 : W3.cell? ⟨V, 0, none⟩ = some (.int .i64 (xn : Int)) ∧ W3.cell? ⟨V, 1, none⟩ = some (.string (strOfNums xb)) ∧ W3.cell? ⟨V, 2, none⟩ = some (.bool xo) ∧ W3.cell? ⟨g1, xn * 2, none⟩ = some (.string (strOfNums xb)) ∧ W3.cell? ⟨g1, xn * 2 + 1, none⟩ = some (.bool bd) := by
            have hx3 : xn < (l.set xn ⟨xb, bd⟩).length := by rw [List.length_set]; exact HXL.out
            have e : secAt (l.set xn ⟨xb, bd⟩) xn = ⟨xb, bd⟩ := by simp [secAt, List.getD, HXL.out]
            refine ⟨?_, ?_, ?_, ?_, ?_⟩
            · rw [cell_of_row _ _ _ _ _ _ HVB3.out]; rfl
            · rw [cell_of_row _ _ _ _ _ _ HVB3.out]; rfl
            · rw [cell_of_row _ _ _ _ _ _ HVB3.out]; rfl
            · rw [HRW3.out.cellB hx3, e]; rfl
            · rw [HRW3.out.cellF hx3, e]
          go_wp2_with fail
          clear y0 y1 y2 y3 y4 y5 d0 d1 d2 h2 hW1
          cases bd
          · -- it was not bad
            have h10 : Hid (W3.drew.cell? ⟨V, 0, none⟩ = some (.int .i64 (xn : Int)) ∧ W3.drew.cell? ⟨V, 1, none⟩ = some (.string (strOfNums xb)) ∧ W3.drew.cell? ⟨V, 2, none⟩ = some (.bool xo) ∧ W3.drew.cell? ⟨g1, xn * 2, none⟩ = some (.string (strOfNums xb)) ∧ W3.drew.cell? ⟨g1, xn * 2 + 1, none⟩ = some (.bool false)) := hide HCW3
            refine wp_region_U (fun bb w' => bb = false → (w'.cell? ⟨V, 0, none⟩ = some (.int .i64 (xn : Int)) ∧ w'.cell? ⟨V, 1, none⟩ = some (.string (strOfNums xb)) ∧ w'.cell? ⟨V, 2, none⟩ = some (.bool xo) ∧ w'.cell? ⟨g1, xn * 2, none⟩ = some (.string (strOfNums xb)) ∧ w'.cell? ⟨g1, xn * 2 + 1, none⟩ = some (.bool false))) 15 (by kernel_rfl) ?_
            refine wpAnyU_take (i := 0) (oi := { dst := some 64, op := _, type := _, pos := _, after := _, guard := none }) (v := .slice (some ⟨g1, 0, none⟩) dur.length c1) rfl (by kernel_rfl) (by kernel_rfl) (by kernel_rfl) (by kernel_rfl) (fun _ _ _ h => h) (yields_take rfl (fun w' hw => by go_simp)) (fun _ => h10.out) ?_
            simp only [Act.put, List.setIfInBounds_toArray, List.set_cons_zero, List.set_cons_succ]
            refine wpAnyU_take (i := 1) (oi := { dst := some 65, op := _, type := _, pos := _, after := _, guard := none }) (v := .pointer (some ⟨V, 0, none⟩)) rfl (by kernel_rfl) (by kernel_rfl) (by kernel_rfl) (by kernel_rfl) (fun _ _ _ h => h) (yields_take rfl (fun w' hw => by go_simp)) (fun _ => h10.out) ?_
            simp only [Act.put, List.setIfInBounds_toArray, List.set_cons_zero, List.set_cons_succ]
            refine wpAnyU_take (i := 2) (oi := { dst := some 66, op := _, type := _, pos := _, after := _, guard := none }) (v := .int .i64 (xn : Int)) rfl (by kernel_rfl) (by kernel_rfl) (by kernel_rfl) (by kernel_rfl) (fun _ _ _ h => h) (yields_take rfl (fun w' hw => by obtain ⟨hc0, hc1, hc2, hc3, hc4⟩ := hw.no (by kernel_rfl) rfl; go_simp)) (fun _ => h10.out) ?_
            simp only [Act.put, List.setIfInBounds_toArray, List.set_cons_zero, List.set_cons_succ]
            refine wpAnyU_take (i := 3) (oi := { dst := some 67, op := _, type := _, pos := _, after := _, guard := none }) (v := .slice (some ⟨g1, 0, none⟩) dur.length c1) rfl (by kernel_rfl) (by kernel_rfl) (by kernel_rfl) (by kernel_rfl) (fun _ _ _ h => h) (yields_take rfl (fun w' hw => by go_simp)) (fun _ => h10.out) ?_
            simp only [Act.put, List.setIfInBounds_toArray, List.set_cons_zero, List.set_cons_succ]
            refine wpAnyU_take (i := 4) (oi := { dst := some 68, op := _, type := _, pos := _, after := _, guard := none }) (v := .pointer (some ⟨V, 0, none⟩)) rfl (by kernel_rfl) (by kernel_rfl) (by kernel_rfl) (by kernel_rfl) (fun _ _ _ h => h) (yields_take rfl (fun w' hw => by go_simp)) (fun _ => h10.out) ?_
            simp only [Act.put, List.setIfInBounds_toArray, List.set_cons_zero, List.set_cons_succ]
            refine wpAnyU_take (i := 5) (oi := { dst := some 69, op := _, type := _, pos := _, after := _, guard := none }) (v := .int .i64 (xn : Int)) rfl (by kernel_rfl) (by kernel_rfl) (by kernel_rfl) (by kernel_rfl) (fun _ _ _ h => h) (yields_take rfl (fun w' hw => by obtain ⟨hc0, hc1, hc2, hc3, hc4⟩ := hw.no (by kernel_rfl) rfl; go_simp)) (fun _ => h10.out) ?_
            simp only [Act.put, List.setIfInBounds_toArray, List.set_cons_zero, List.set_cons_succ]
            refine wpAnyU_take (i := 6) (oi := { dst := some 70, op := _, type := _, pos := _, after := _, guard := none }) (v := .pointer (some ⟨g1, xn * 2, none⟩)) rfl (by kernel_rfl) (by kernel_rfl) (by kernel_rfl) (by kernel_rfl) (fun _ _ _ h => h) (yields_take rfl (fun w' hw => by go_simp)) (fun _ => h10.out) ?_
            simp only [Act.put, List.setIfInBounds_toArray, List.set_cons_zero, List.set_cons_succ]
            refine wpAnyU_take (i := 7) (oi := { dst := some 71, op := _, type := _, pos := _, after := _, guard := none }) (v := .pointer (some ⟨g1, xn * 2 + 1, none⟩)) rfl (by kernel_rfl) (by kernel_rfl) (by kernel_rfl) (by kernel_rfl) (fun _ _ _ h => h) (yields_take rfl (fun w' hw => by go_simp)) (fun _ => h10.out) ?_
            simp only [Act.put, List.setIfInBounds_toArray, List.set_cons_zero, List.set_cons_succ]
            refine wpAnyU_take (i := 8) (oi := { dst := some 72, op := _, type := _, pos := _, after := _, guard := none }) (v := .bool false) rfl (by kernel_rfl) (by kernel_rfl) (by kernel_rfl) (by kernel_rfl) (fun _ _ _ h => h) (yields_take rfl (fun w' hw => by obtain ⟨hc0, hc1, hc2, hc3, hc4⟩ := hw.no (by kernel_rfl) rfl; go_simp)) (fun _ => h10.out) ?_
            simp only [Act.put, List.setIfInBounds_toArray, List.set_cons_zero, List.set_cons_succ]
            refine wpAnyU_take (i := 9) (oi := { dst := some 73, op := _, type := _, pos := _, after := _, guard := none }) (v := .bool false) rfl (by kernel_rfl) (by kernel_rfl) (by kernel_rfl) (by kernel_rfl) (fun _ _ _ h => h) (yields_take rfl (fun w' hw => by go_simp)) (fun _ => h10.out) ?_
            simp only [Act.put, List.setIfInBounds_toArray, List.set_cons_zero, List.set_cons_succ]
            refine wpAnyU_take (i := 10) (oi := { dst := some 74, op := _, type := _, pos := _, after := _, guard := some (9, true) }) (v := undef) rfl (by kernel_rfl) (by kernel_rfl) (by kernel_rfl) (by kernel_rfl) (fun _ _ _ h => h) (.inr ⟨rfl, rfl⟩) (fun _ => h10.out) ?_
            simp only [Act.put, List.setIfInBounds_toArray, List.set_cons_zero, List.set_cons_succ]
            refine wpAnyU_take (i := 11) (oi := { dst := some 75, op := _, type := _, pos := _, after := _, guard := some (9, true) }) (v := undef) rfl (by kernel_rfl) (by kernel_rfl) (by kernel_rfl) (by kernel_rfl) (fun _ _ _ h => h) (.inr ⟨rfl, rfl⟩) (fun _ => h10.out) ?_
            simp only [Act.put, List.setIfInBounds_toArray, List.set_cons_zero, List.set_cons_succ]
            refine wpAnyU_take (i := 12) (oi := { dst := some 76, op := _, type := _, pos := _, after := _, guard := none }) (v := .bool false) rfl (by kernel_rfl) (by kernel_rfl) (by kernel_rfl) (by kernel_rfl) (fun _ _ _ h => h) (yields_take rfl (fun w' hw => by go_simp)) (fun _ => h10.out) ?_
            simp only [Act.put, List.setIfInBounds_toArray, List.set_cons_zero, List.set_cons_succ]
            refine wpAnyU_take (i := 13) (oi := { dst := some 77, op := _, type := _, pos := _, after := _, guard := none }) (v := .pointer (some ⟨g1, xn * 2, none⟩)) rfl (by kernel_rfl) (by kernel_rfl) (by kernel_rfl) (by kernel_rfl) (fun _ _ _ h => h) (yields_take rfl (fun w' hw => by go_simp)) (fun _ => h10.out) ?_
            simp only [Act.put, List.setIfInBounds_toArray, List.set_cons_zero, List.set_cons_succ]
            refine wpAnyU_take (i := 14) (oi := { dst := some 78, op := _, type := _, pos := _, after := _, guard := none }) (v := .pointer (some ⟨g1, xn * 2 + 1, none⟩)) rfl (by kernel_rfl) (by kernel_rfl) (by kernel_rfl) (by kernel_rfl) (fun _ _ _ h => h) (yields_take rfl (fun w' hw => by go_simp)) (fun _ => h10.out) ?_
            simp only [Act.put, List.setIfInBounds_toArray, List.set_cons_zero, List.set_cons_succ]
            have z1 : W3.drew.cell? ⟨g1, xn * 2 + 1, none⟩ = some (.bool false) := h10.out.2.2.2.2
            have z2 : W3.drew.frozen? ⟨g1, xn * 2 + 1, none⟩ = false := HRW3.out.frozen _
            obtain ⟨W4, hW4⟩ : ∃ W4, W3.drew.setCell ⟨g1, xn * 2 + 1, none⟩ (.bool false) = W4 := ⟨_, rfl⟩
            refine wpAnyU_one (i := 15) (by kernel_rfl) rfl ?_
            intro K hK
            go_simp
            refine hK.out _ _ (fun h => absurd h (by decide)) (fun _ => ?_)
            clear hK K z1 z2 h10
            refine wpAnyU_done (by kernel_rfl) ?_ _
            have HRW4 : Hid (RSR w.heap.size W4 g1 c1 (leftN keep torn dur pend (k + 1))) := hide (by
              have h := ((HRW3.out.same (w' := W3.drew) rfl).setF (n := xn) (by rw [List.length_set]; exact HXL.out) false).1
              rw [hW4] at h
              rw [HST.out, stepF, if_neg HTN.out, if_pos (by have := HKB.out; unfold keptB at this; simpa using this)]
              unfold applyW
              rw [← HBD.out]
              have e : secAt (l.set xn ⟨xb, false⟩) xn = ⟨xb, false⟩ := by simp [secAt, List.getD, HXL.out]
              rw [e, List.set_set] at h
              exact h)
            have HW4 : Hid (Below w.heap.size w W4) := hide (by rw [← hW4]; exact (below_drewN HW3.out 1).setCell hg1 _)
            clear hW4 HCW3 hW3
            go_wp2
            go_roundw
            case rel => exact ⟨k + 1, by omega, by go_num, HRW4, HW4⟩
            case measure => simp [intOf]; omega
          · -- it was bad
            have h10 : Hid (W3.drew.cell? ⟨V, 0, none⟩ = some (.int .i64 (xn : Int)) ∧ W3.drew.cell? ⟨V, 1, none⟩ = some (.string (strOfNums xb)) ∧ W3.drew.cell? ⟨V, 2, none⟩ = some (.bool xo) ∧ W3.drew.cell? ⟨g1, xn * 2, none⟩ = some (.string (strOfNums xb)) ∧ W3.drew.cell? ⟨g1, xn * 2 + 1, none⟩ = some (.bool true)) := hide HCW3
            refine wp_region_U (fun bb w' => bb = false → (w'.cell? ⟨V, 0, none⟩ = some (.int .i64 (xn : Int)) ∧ w'.cell? ⟨V, 1, none⟩ = some (.string (strOfNums xb)) ∧ w'.cell? ⟨V, 2, none⟩ = some (.bool xo) ∧ w'.cell? ⟨g1, xn * 2, none⟩ = some (.string (strOfNums xb)) ∧ w'.cell? ⟨g1, xn * 2 + 1, none⟩ = some (.bool true))) 15 (by kernel_rfl) ?_
            refine wpAnyU_take (i := 0) (oi := { dst := some 64, op := _, type := _, pos := _, after := _, guard := none }) (v := .slice (some ⟨g1, 0, none⟩) dur.length c1) rfl (by kernel_rfl) (by kernel_rfl) (by kernel_rfl) (by kernel_rfl) (fun _ _ _ h => h) (yields_take rfl (fun w' hw => by go_simp)) (fun _ => h10.out) ?_
            simp only [Act.put, List.setIfInBounds_toArray, List.set_cons_zero, List.set_cons_succ]
            refine wpAnyU_take (i := 1) (oi := { dst := some 65, op := _, type := _, pos := _, after := _, guard := none }) (v := .pointer (some ⟨V, 0, none⟩)) rfl (by kernel_rfl) (by kernel_rfl) (by kernel_rfl) (by kernel_rfl) (fun _ _ _ h => h) (yields_take rfl (fun w' hw => by go_simp)) (fun _ => h10.out) ?_
            simp only [Act.put, List.setIfInBounds_toArray, List.set_cons_zero, List.set_cons_succ]
            refine wpAnyU_take (i := 2) (oi := { dst := some 66, op := _, type := _, pos := _, after := _, guard := none }) (v := .int .i64 (xn : Int)) rfl (by kernel_rfl) (by kernel_rfl) (by kernel_rfl) (by kernel_rfl) (fun _ _ _ h => h) (yields_take rfl (fun w' hw => by obtain ⟨hc0, hc1, hc2, hc3, hc4⟩ := hw.no (by kernel_rfl) rfl; go_simp)) (fun _ => h10.out) ?_
            simp only [Act.put, List.setIfInBounds_toArray, List.set_cons_zero, List.set_cons_succ]
            refine wpAnyU_take (i := 3) (oi := { dst := some 67, op := _, type := _, pos := _, after := _, guard := none }) (v := .slice (some ⟨g1, 0, none⟩) dur.length c1) rfl (by kernel_rfl) (by kernel_rfl) (by kernel_rfl) (by kernel_rfl) (fun _ _ _ h => h) (yields_take rfl (fun w' hw => by go_simp)) (fun _ => h10.out) ?_
            simp only [Act.put, List.setIfInBounds_toArray, List.set_cons_zero, List.set_cons_succ]
            refine wpAnyU_take (i := 4) (oi := { dst := some 68, op := _, type := _, pos := _, after := _, guard := none }) (v := .pointer (some ⟨V, 0, none⟩)) rfl (by kernel_rfl) (by kernel_rfl) (by kernel_rfl) (by kernel_rfl) (fun _ _ _ h => h) (yields_take rfl (fun w' hw => by go_simp)) (fun _ => h10.out) ?_
            simp only [Act.put, List.setIfInBounds_toArray, List.set_cons_zero, List.set_cons_succ]
            refine wpAnyU_take (i := 5) (oi := { dst := some 69, op := _, type := _, pos := _, after := _, guard := none }) (v := .int .i64 (xn : Int)) rfl (by kernel_rfl) (by kernel_rfl) (by kernel_rfl) (by kernel_rfl) (fun _ _ _ h => h) (yields_take rfl (fun w' hw => by obtain ⟨hc0, hc1, hc2, hc3, hc4⟩ := hw.no (by kernel_rfl) rfl; go_simp)) (fun _ => h10.out) ?_
            simp only [Act.put, List.setIfInBounds_toArray, List.set_cons_zero, List.set_cons_succ]
            refine wpAnyU_take (i := 6) (oi := { dst := some 70, op := _, type := _, pos := _, after := _, guard := none }) (v := .pointer (some ⟨g1, xn * 2, none⟩)) rfl (by kernel_rfl) (by kernel_rfl) (by kernel_rfl) (by kernel_rfl) (fun _ _ _ h => h) (yields_take rfl (fun w' hw => by go_simp)) (fun _ => h10.out) ?_
            simp only [Act.put, List.setIfInBounds_toArray, List.set_cons_zero, List.set_cons_succ]
            refine wpAnyU_take (i := 7) (oi := { dst := some 71, op := _, type := _, pos := _, after := _, guard := none }) (v := .pointer (some ⟨g1, xn * 2 + 1, none⟩)) rfl (by kernel_rfl) (by kernel_rfl) (by kernel_rfl) (by kernel_rfl) (fun _ _ _ h => h) (yields_take rfl (fun w' hw => by go_simp)) (fun _ => h10.out) ?_
            simp only [Act.put, List.setIfInBounds_toArray, List.set_cons_zero, List.set_cons_succ]
            refine wpAnyU_take (i := 8) (oi := { dst := some 72, op := _, type := _, pos := _, after := _, guard := none }) (v := .bool true) rfl (by kernel_rfl) (by kernel_rfl) (by kernel_rfl) (by kernel_rfl) (fun _ _ _ h => h) (yields_take rfl (fun w' hw => by obtain ⟨hc0, hc1, hc2, hc3, hc4⟩ := hw.no (by kernel_rfl) rfl; go_simp)) (fun _ => h10.out) ?_
            simp only [Act.put, List.setIfInBounds_toArray, List.set_cons_zero, List.set_cons_succ]
            refine wpAnyU_take (i := 9) (oi := { dst := some 73, op := _, type := _, pos := _, after := _, guard := none }) (v := .bool true) rfl (by kernel_rfl) (by kernel_rfl) (by kernel_rfl) (by kernel_rfl) (fun _ _ _ h => h) (yields_take rfl (fun w' hw => by go_simp)) (fun _ => h10.out) ?_
            simp only [Act.put, List.setIfInBounds_toArray, List.set_cons_zero, List.set_cons_succ]
            refine wpAnyU_take (i := 10) (oi := { dst := some 74, op := _, type := _, pos := _, after := _, guard := some (9, true) }) (v := .pointer (some ⟨V, 2, none⟩)) rfl (by kernel_rfl) (by kernel_rfl) (by kernel_rfl) (by kernel_rfl) (fun _ _ _ h => h) (yields_take rfl (fun w' hw => by go_simp)) (fun _ => h10.out) ?_
            simp only [Act.put, List.setIfInBounds_toArray, List.set_cons_zero, List.set_cons_succ]
            refine wpAnyU_take (i := 11) (oi := { dst := some 75, op := _, type := _, pos := _, after := _, guard := some (9, true) }) (v := .bool xo) rfl (by kernel_rfl) (by kernel_rfl) (by kernel_rfl) (by kernel_rfl) (fun _ _ _ h => h) (yields_take rfl (fun w' hw => by obtain ⟨hc0, hc1, hc2, hc3, hc4⟩ := hw.no (by kernel_rfl) rfl; go_simp)) (fun _ => h10.out) ?_
            simp only [Act.put, List.setIfInBounds_toArray, List.set_cons_zero, List.set_cons_succ]
            refine wpAnyU_take (i := 12) (oi := { dst := some 76, op := _, type := _, pos := _, after := _, guard := none }) (v := .bool xo) rfl (by kernel_rfl) (by kernel_rfl) (by kernel_rfl) (by kernel_rfl) (fun _ _ _ h => h) (yields_take rfl (fun w' hw => by go_simp)) (fun _ => h10.out) ?_
            simp only [Act.put, List.setIfInBounds_toArray, List.set_cons_zero, List.set_cons_succ]
            refine wpAnyU_take (i := 13) (oi := { dst := some 77, op := _, type := _, pos := _, after := _, guard := none }) (v := .pointer (some ⟨g1, xn * 2, none⟩)) rfl (by kernel_rfl) (by kernel_rfl) (by kernel_rfl) (by kernel_rfl) (fun _ _ _ h => h) (yields_take rfl (fun w' hw => by go_simp)) (fun _ => h10.out) ?_
            simp only [Act.put, List.setIfInBounds_toArray, List.set_cons_zero, List.set_cons_succ]
            refine wpAnyU_take (i := 14) (oi := { dst := some 78, op := _, type := _, pos := _, after := _, guard := none }) (v := .pointer (some ⟨g1, xn * 2 + 1, none⟩)) rfl (by kernel_rfl) (by kernel_rfl) (by kernel_rfl) (by kernel_rfl) (fun _ _ _ h => h) (yields_take rfl (fun w' hw => by go_simp)) (fun _ => h10.out) ?_
            simp only [Act.put, List.setIfInBounds_toArray, List.set_cons_zero, List.set_cons_succ]
            have z1 : W3.drew.cell? ⟨g1, xn * 2 + 1, none⟩ = some (.bool true) := h10.out.2.2.2.2
            have z2 : W3.drew.frozen? ⟨g1, xn * 2 + 1, none⟩ = false := HRW3.out.frozen _
            obtain ⟨W4, hW4⟩ : ∃ W4, W3.drew.setCell ⟨g1, xn * 2 + 1, none⟩ (.bool xo) = W4 := ⟨_, rfl⟩
            refine wpAnyU_one (i := 15) (by kernel_rfl) rfl ?_
            intro K hK
            go_simp
            refine hK.out _ _ (fun h => absurd h (by decide)) (fun _ => ?_)
            clear hK K z1 z2 h10
            refine wpAnyU_done (by kernel_rfl) ?_ _
            have HRW4 : Hid (RSR w.heap.size W4 g1 c1 (leftN keep torn dur pend (k + 1))) := hide (by
              have h := ((HRW3.out.same (w' := W3.drew) rfl).setF (n := xn) (by rw [List.length_set]; exact HXL.out) xo).1
              rw [hW4] at h
              rw [HST.out, stepF, if_neg HTN.out, if_pos (by have := HKB.out; unfold keptB at this; simpa using this)]
              unfold applyW
              rw [← HBD.out]
              have e : secAt (l.set xn ⟨xb, true⟩) xn = ⟨xb, true⟩ := by simp [secAt, List.getD, HXL.out]
              rw [e, List.set_set] at h
              exact h)
            have HW4 : Hid (Below w.heap.size w W4) := hide (by rw [← hW4]; exact (below_drewN HW3.out 1).setCell hg1 _)
            clear hW4 HCW3 hW3
            go_wp2
            go_roundw
            case rel => exact ⟨k + 1, by omega, by go_num, HRW4, HW4⟩
            case measure => simp [intOf]; omega
    · obtain rfl : k = pend.length := by omega
      obtain ⟨l, hl⟩ : ∃ l, l = leftN keep torn dur pend pend.length := ⟨_, rfl⟩
      rw [← hl] at HR
      have hll : l.length = dur.length := by rw [hl, left_len]
      have HLL := hide hll
      have HLO : Hid (leftOf keep torn dur pend = l) := hide (by rw [hl]; rfl)
      have HOKL : Hid (∀ s ∈ l, OkB s.b) := hide (by rw [hl]; exact left_ok HD.out.okS HD.out.okW _ (Nat.le_refl _))
      have HRL : Hid ((rsecsV l).length = dur.length * 2) := hide (by rw [rsecsV_len, hll])
      clear hl hll
      go_wp2_with (at_builtin; refine wpList_append_rows rfl _ _ 68 rfl 74 i0 (.agg #[.string ⟨#[]⟩, .bool false]) 2 24 Tryz.underlying68 HI.out HZ0.out HZ1.out HZ2.out rfl (by decide) rfl ⟨g1, 0, none⟩ dur.length c1 (rsecsV l) rfl HRL.out HR.out.cells (rsecsV_one _) hpos (by omega) (by unfold maxLen; omega) ?_)
      intro g2 c2 w2 ho2 hb2 hg2
      have hsw := HW.out.size
      have hg1l := HR.out.lt.2
      have hg2l := (ho2.lt g2 rfl).2
      obtain ⟨W5, hW5⟩ : ∃ W5, w2.alloc (.cells #[.slice (some ⟨g1, 0, none⟩) dur.length c1, .slice (some ⟨g2, 0, none⟩) dur.length c2, .slice none 0 0] 71) = W5 := ⟨_, rfl⟩
      have HB5 : Hid (Below w2.heap.size w2 W5) := hide (by rw [← hW5]; exact (Below.refl _ _).alloc (Nat.le_refl _) _)
      have HT5 : Hid (W5.heap[w2.heap.size]? = some (.cells #[.slice (some ⟨g1, 0, none⟩) dur.length c1, .slice (some ⟨g2, 0, none⟩) dur.length c2, .slice none 0 0] 71 (0, 0))) := hide (by rw [← hW5]; exact heap_alloc_new w2 _)
      have HFIN : Hid (RAt w.heap.size W5 ⟨w2.heap.size, g2, c2, g1, c1, .slice none 0 0⟩ (leftOf keep torn dur pend) []) := hide (by
        rw [HLO.out]
        refine ⟨Nat.le_trans hsw hb2.size, by rw [HLL.out]; exact HT5.out, ?_, ?_, World.ownsRow_nil _ _ _ _, by show g2 ≠ g1; omega, by rw [HLL.out]; exact hpos, by rw [HLL.out]; exact hmx, HOKL.out, fun x hx => by cases hx⟩
        · show RSR w.heap.size W5 g2 c2 l
          refine RSR.below (w := w2) ?_ HB5.out
          unfold RSR
          rw [HLL.out]
          exact own_base' ho2 hsw
        · show RSR w.heap.size W5 g1 c1 l
          exact (HR.out.below hb2).below HB5.out)
      have HBF : Hid (Below w.heap.size w W5) := hide ((HW.out.trans (hb2.mono hsw)).trans (HB5.out.mono (Nat.le_trans hsw hb2.size)))
      have HHAS : Hid (∀ b, (⟨w2.heap.size, g2, c2, g1, c1, .slice none 0 0⟩ : RLoc).has b → w.heap.size ≤ b) := hide (by
        rintro b (rfl | rfl | rfl | hb)
        · exact Nat.le_trans hsw hb2.size
        · exact Nat.le_trans hsw hg2
        · exact hg1
        · cases hb)
      clear ho2 hb2
      go_wp2
      go_ret2
      exact ⟨⟨w2.heap.size, g2, c2, g1, c1, .slice none 0 0⟩, rfl, HFIN.out, HHAS.out, HBF.out⟩
end Go.Proofs.YtapdaeafeejknaaGreatDoor
