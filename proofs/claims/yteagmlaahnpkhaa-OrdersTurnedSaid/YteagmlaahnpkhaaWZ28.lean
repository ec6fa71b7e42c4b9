/- Merged: Uses12, Wi11, Wi12, Gp3. -/
import Derived.Test.YteagmlaahnpkhaaWZ26
import Derived.Test.YteagmlaahnpkhaaWZ24
import Derived.Test.YteagmlaahnpkhaaWZ23
namespace Go.Proofs.Yteagmlaahnpkhaa

section
open Go.RowKit
set_option linter.unusedVariables false
set_option linter.unusedSimpArgs false
set_option maxRecDepth 100000

set_option maxHeartbeats 32000000 in
theorem ouses12_any (A B : Option Addr) (n c m d : Nat) (ns : List Nd) (l : List Int) (a : Int) (w : World) (h : NsIn w A n ns) (hc : n ≤ c) (hn : n ≤ 70368744177664) (hB : Lies w B m (l.map (Value.int .i64))) (hd : m ≤ d) (hm : m ≤ 281474976710656) (hnil : B = none → d = 0) (ha : 0 ≤ a ∧ a < 256) :
    Calls Try.prog 5 #[.agg #[.slice A n c], .slice B m d, .int .u8 a] w fun e w' => e = .returned (.bool true) ∧ Below w.heap.size w w' := by
  obtain ⟨W0, hW0⟩ : ∃ W0, W0 = w.alloc (.cells #[.slice A n c] 24) := ⟨_, rfl⟩
  have HB0 : Hid (Below w.heap.size w W0) := hide (by rw [hW0]; exact below_al6 (Below.refl _ _))
  have HX : Hid (BoxG W0 w.heap.size (.slice A n c)) := hide (by rw [hW0]; exact BoxG.new w _)
  have HN := hide (h.below HB0.out)
  have HL : Hid (ns.length = n) := hide h.1
  have HO := hide (hB.below HB0.out)
  have HM : Hid (l.length = m) := hide (lies_len9 hB)
  have hW0' := hW0.symm
  clear hW0 h hB
  go_enter Try.func5, Try.ntmps5
  go_wp2_with fail
  refine Calls.mono (alive12_any _) ?_
  rintro e w1 ⟨rfl, hb⟩
  have HBN := hide hb
  replace HX := hide (HX.out.kept hb)
  replace HN := hide (HN.out.below hb)
  replace HO := hide (HO.out.below hb)
  clear hb
  have c0 := HX.out.c0
  go_wp2_with fail
  refine Calls.mono (graph_size A n c ns w1 HN.out hn) ?_
  rintro e w2 ⟨r, rfl, hr0, hr1, hb⟩
  have hz : Below w1.heap.size w1 w2 := hb
  replace HBN := hide (below_nx6 HBN.out hz)
  replace HX := hide (HX.out.kept hz)
  replace HN := hide (HN.out.below hz)
  replace HO := hide (HO.out.below hz)
  clear hz
  clear hb c0
  by_cases hbig : 20000 < r
  · go_wp2_with fail
    refine Calls.mono (alive12_any _) ?_
    rintro e w3 ⟨rfl, hb⟩
    replace HBN := hide (below_nx6 HBN.out hb)
    clear hb
    go_wp2
    go_ret
    exact ⟨rfl, below_nx6 HB0.out HBN.out⟩
  have hsz := hr1 (by omega)
  have HSZ := hide hsz
  have hn2 : n ≤ 10000 := by have h1 := szN_len ns; rw [HL.out] at h1; omega
  clear hr1 hsz hr0
  by_cases hcond0 : 40 < m
  · go_wp2_with fail
    refine Calls.mono (alive12_any _) ?_
    rintro e w3 ⟨rfl, hb⟩
    replace HBN := hide (below_nx6 HBN.out hb)
    clear hb
    go_wp2
    go_ret
    exact ⟨rfl, below_nx6 HB0.out HBN.out⟩
  have hm40 : m ≤ 40 := by omega
  obtain ⟨Z, rfl⟩ := Int.eq_ofNat_of_zero_le ha.1
  obtain ⟨k, hk⟩ : ∃ z, z = Z % (m + 1) := ⟨_, rfl⟩
  have r1 : Int.tmod (Z : Int) ((m : Int) + 1) = (k : Int) := by rw [hk]; rfl
  have hkm : k ≤ m := by have := Nat.mod_lt Z (show 0 < m + 1 by omega); omega
  have r2 : ¬ (m : Int) + 1 = 0 := by omega
  have r0 : IntKind.i64.wrap ((m : Int) + 1) = (m : Int) + 1 := by rw [IntKind.wrap_i64]; omega
  have rz : IntKind.i64.wrap (Z : Int) = (Z : Int) := by rw [IntKind.wrap_i64]; omega
  have r3 : IntKind.i64.wrap (k : Int) = (k : Int) := by rw [IntKind.wrap_i64]; omega
  clear hk
  have HNIL := hide hnil
  clear hnil
  cases hord : ordB ns l with
  | false =>
    have cx := HX.out.c0
    have HCON := hide (uses12_no A B n c m d ns l _ HN.out (by omega) hc HO.out (by omega) hd hord)
    go_wp2_with fail
    refine Calls.mono HCON.out ?_
    rintro e x1 ⟨rfl, hb⟩
    have hz : Below w2.heap.size w2 x1 := hb
    replace HBN := hide (below_nx6 HBN.out hz)
    replace HX := hide (HX.out.kept hz)
    replace HN := hide (HN.out.below hz)
    replace HO := hide (HO.out.below hz)
    clear hz
    clear hb
    clear cx HCON
    go_wp2
    go_ret
    exact ⟨rfl, below_nx6 HB0.out HBN.out⟩
  | true =>
  have HORD := hide (ordB_parts.1 hord)
  have HN1 : Hid (1 ≤ n ∧ n ≤ 32) := hide (by have h := gphB_n (ordB_parts.1 hord).1; rw [HL.out] at h; exact h)
  have hordt : ordB ns (l.take k) = true := ordB_sub hord (List.take_sublist _ _)
  have hordd : ordB ns (l.drop k) = true := ordB_sub hord (List.drop_sublist _ _)
  have HTOT := hide (tot_all hord HL.out)
  have HOT := hide (show Lies w2 B k ((l.take k).map (Value.int .i64)) by rw [List.map_take]; exact HO.out.take hkm)
  obtain ⟨B2, hB2⟩ : ∃ z, z = (if d = k then B else B.map (·.add k)) := ⟨_, rfl⟩
  have HOD := hide (show Lies w2 B2 (m - k) ((l.drop k).map (Value.int .i64)) by rw [List.map_drop, hB2]; exact HO.out.drop hkm hd)
  have hpre := slice_pre B m d k HNIL.out hkm hd
  have hsuf := slice_suf B m d k HNIL.out hkm hd
  rw [← hB2] at hsuf
  clear hB2
  have HPRE := hide hpre
  have HSUF := hide hsuf
  clear hpre hsuf
  have cx := HX.out.c0
  have HCON := hide (uses12_ok A B n c m d ns l _ HN.out (by omega) hc HO.out (by omega) hd hord)
  go_wp2_with fail
  refine Calls.mono HCON.out ?_
  rintro e x1 ⟨gu, rfl, hu⟩
  have HRu := hide (hu.lies2 (n := n) (by rw [usL_len]; exact HL.out))
  have hz : Below w2.heap.size w2 x1 := hu.1
  replace HBN := hide (below_nx6 HBN.out hz)
  replace HX := hide (HX.out.kept hz)
  replace HN := hide (HN.out.below hz)
  replace HO := hide (HO.out.below hz)
  replace HOT := hide (HOT.out.below hz)
  replace HOD := hide (HOD.out.below hz)
  clear hz
  clear hu
  clear cx HCON
  have hd0 : Below x1.heap.size x1 x1.drew := below_drewN (Below.refl _ _) 1
  have HXK : Hid (∀ v, Below x1.heap.size x1 v → v.cell? ⟨w.heap.size, 0, none⟩ = some (.slice A n c)) := hide (fun v hv => (HX.out.kept hv).c0)
  go_wp2
  have hS0 : Hid (x1.drew.cell? ⟨w.heap.size, 0, none⟩ = some (.slice A n c)) := hide (HXK.out _ hd0)
  refine wp_region_U (fun _ v => v.cell? ⟨w.heap.size, 0, none⟩ = some (.slice A n c)) 99 (by kernel_rfl) ?_
  refine wpAnyU_take (i := 0) (oi := { dst := some 54, op := _, type := _, pos := _, after := _, guard := none }) (v := .agg #[.slice A n c]) rfl (by kernel_rfl) (by kernel_rfl) (by kernel_rfl) (by kernel_rfl) (fun _ _ _ h => h) (yields_take rfl (fun w' hw => by have h1 := hw.const; go_simp)) hS0.out ?_
  simp only [Act.put, List.setIfInBounds_toArray, List.set_cons_zero, List.set_cons_succ]
  refine wpAnyU_take (i := 1) (oi := { dst := some 55, op := _, type := _, pos := _, after := _, guard := none }) (v := .slice B m d) rfl (by kernel_rfl) (by kernel_rfl) (by kernel_rfl) (by kernel_rfl) (fun _ _ _ h => h) (yields_take rfl (fun w' hw => by have h1 := hw.const; go_simp)) hS0.out ?_
  simp only [Act.put, List.setIfInBounds_toArray, List.set_cons_zero, List.set_cons_succ]
  refine wpAnyU_take (i := 2) (oi := { dst := some 56, op := _, type := _, pos := _, after := _, guard := none }) (v := .int .i64 (k : Int)) rfl (by kernel_rfl) (by kernel_rfl) (by kernel_rfl) (by kernel_rfl) (fun _ _ _ h => h) (yields_take rfl (fun w' hw => by have h1 := hw.const; go_simp)) hS0.out ?_
  simp only [Act.put, List.setIfInBounds_toArray, List.set_cons_zero, List.set_cons_succ]
  refine wpAnyU_take (i := 3) (oi := { dst := some 57, op := _, type := _, pos := _, after := _, guard := none }) (v := .slice B k d) rfl (by kernel_rfl) (by kernel_rfl) (by kernel_rfl) (by kernel_rfl) (fun _ _ _ h => h) (yields_take rfl (fun w' hw => by have h1 := hw.const; simp [execOp, Act.eval, HPRE.out, Result.andThen])) hS0.out ?_
  simp only [Act.put, List.setIfInBounds_toArray, List.set_cons_zero, List.set_cons_succ]
  refine wpAnyU_one (i := 4) (by kernel_rfl) rfl ?_
  intro K hK
  go_simp
  refine Calls.mono (uses12_ok A B n c k d ns (l.take k) _ (HN.out.below hd0) (by omega) hc (HOT.out.below hd0) (by omega) (by omega) hordt) ?_
  rintro e x2 ⟨ga, he, ha⟩
  (try dsimp only)
  subst he
  have hd1 : Below x1.heap.size x1 x2 := below_nx6 hd0 ha.1
  (try dsimp only)
  have hS1 : Hid (x2.cell? ⟨w.heap.size, 0, none⟩ = some (.slice A n c)) := hide (HXK.out _ hd1)
  refine hK.out _ _ hS1.out (fun _ => ?_)
  clear hK K hS0
  refine wpAnyU_take (i := 5) (oi := { dst := some 53, op := _, type := _, pos := _, after := _, guard := none }) (v := .tuple #[.slice (some ⟨ga, 0, none⟩) n n, .int .i64 0]) rfl (by kernel_rfl) (by kernel_rfl) (by kernel_rfl) (by kernel_rfl) (fun _ _ _ h => h) (yields_take rfl (fun w' hw => by have h1 := hw.const; go_simp)) hS1.out ?_
  simp only [Act.put, List.setIfInBounds_toArray, List.set_cons_zero, List.set_cons_succ]
  refine wpAnyU_take (i := 6) (oi := { dst := some 59, op := _, type := _, pos := _, after := _, guard := none }) (v := .slice (some ⟨ga, 0, none⟩) n n) rfl (by kernel_rfl) (by kernel_rfl) (by kernel_rfl) (by kernel_rfl) (fun _ _ _ h => h) (yields_take rfl (fun w' hw => by have h1 := hw.const; go_simp)) hS1.out ?_
  simp only [Act.put, List.setIfInBounds_toArray, List.set_cons_zero, List.set_cons_succ]
  refine wpAnyU_take (i := 7) (oi := { dst := some 60, op := _, type := _, pos := _, after := _, guard := none }) (v := .int .i64 0) rfl (by kernel_rfl) (by kernel_rfl) (by kernel_rfl) (by kernel_rfl) (fun _ _ _ h => h) (yields_take rfl (fun w' hw => by have h1 := hw.const; go_simp)) hS1.out ?_
  simp only [Act.put, List.setIfInBounds_toArray, List.set_cons_zero, List.set_cons_succ]
  refine wpAnyU_take (i := 8) (oi := { dst := some 10, op := _, type := _, pos := _, after := _, guard := none }) (v := .slice (some ⟨ga, 0, none⟩) n n) rfl (by kernel_rfl) (by kernel_rfl) (by kernel_rfl) (by kernel_rfl) (fun _ _ _ h => h) (yields_take rfl (fun w' hw => by have h1 := hw.const; go_simp)) hS1.out ?_
  simp only [Act.put, List.setIfInBounds_toArray, List.set_cons_zero, List.set_cons_succ]
  refine wpAnyU_take (i := 9) (oi := { dst := some 11, op := _, type := _, pos := _, after := _, guard := none }) (v := .int .i64 0) rfl (by kernel_rfl) (by kernel_rfl) (by kernel_rfl) (by kernel_rfl) (fun _ _ _ h => h) (yields_take rfl (fun w' hw => by have h1 := hw.const; go_simp)) hS1.out ?_
  simp only [Act.put, List.setIfInBounds_toArray, List.set_cons_zero, List.set_cons_succ]
  refine wpAnyU_done (by kernel_rfl) ?_ _
  clear hS1
  have HRa := hide (ha.lies2 (n := n) (by rw [usL_len]; exact HL.out))
  have hz : Below x1.heap.size x1 x2 := hd1
  replace HBN := hide (below_nx6 HBN.out hz)
  replace HX := hide (HX.out.kept hz)
  replace HN := hide (HN.out.below hz)
  replace HO := hide (HO.out.below hz)
  replace HOT := hide (HOT.out.below hz)
  replace HOD := hide (HOD.out.below hz)
  replace HRu := hide (HRu.out.below hz)
  clear hz
  clear HXK hd0 hd1 ha
  have hd0 : Below x2.heap.size x2 x2.drew := below_drewN (Below.refl _ _) 1
  have HXK : Hid (∀ v, Below x2.heap.size x2 v → v.cell? ⟨w.heap.size, 0, none⟩ = some (.slice A n c)) := hide (fun v hv => (HX.out.kept hv).c0)
  go_wp2
  have hS0 : Hid (x2.drew.cell? ⟨w.heap.size, 0, none⟩ = some (.slice A n c)) := hide (HXK.out _ hd0)
  refine wp_region_U (fun _ v => v.cell? ⟨w.heap.size, 0, none⟩ = some (.slice A n c)) 99 (by kernel_rfl) ?_
  refine wpAnyU_take (i := 0) (oi := { dst := some 62, op := _, type := _, pos := _, after := _, guard := none }) (v := .agg #[.slice A n c]) rfl (by kernel_rfl) (by kernel_rfl) (by kernel_rfl) (by kernel_rfl) (fun _ _ _ h => h) (yields_take rfl (fun w' hw => by have h1 := hw.const; go_simp)) hS0.out ?_
  simp only [Act.put, List.setIfInBounds_toArray, List.set_cons_zero, List.set_cons_succ]
  refine wpAnyU_take (i := 1) (oi := { dst := some 63, op := _, type := _, pos := _, after := _, guard := none }) (v := .slice B m d) rfl (by kernel_rfl) (by kernel_rfl) (by kernel_rfl) (by kernel_rfl) (fun _ _ _ h => h) (yields_take rfl (fun w' hw => by have h1 := hw.const; go_simp)) hS0.out ?_
  simp only [Act.put, List.setIfInBounds_toArray, List.set_cons_zero, List.set_cons_succ]
  refine wpAnyU_take (i := 2) (oi := { dst := some 64, op := _, type := _, pos := _, after := _, guard := none }) (v := .int .i64 (k : Int)) rfl (by kernel_rfl) (by kernel_rfl) (by kernel_rfl) (by kernel_rfl) (fun _ _ _ h => h) (yields_take rfl (fun w' hw => by have h1 := hw.const; go_simp)) hS0.out ?_
  simp only [Act.put, List.setIfInBounds_toArray, List.set_cons_zero, List.set_cons_succ]
  refine wpAnyU_take (i := 3) (oi := { dst := some 65, op := _, type := _, pos := _, after := _, guard := none }) (v := .slice B2 (m - k) (d - k)) rfl (by kernel_rfl) (by kernel_rfl) (by kernel_rfl) (by kernel_rfl) (fun _ _ _ h => h) (yields_take rfl (fun w' hw => by have h1 := hw.const; simp [execOp, Act.eval, HSUF.out, Result.andThen])) hS0.out ?_
  simp only [Act.put, List.setIfInBounds_toArray, List.set_cons_zero, List.set_cons_succ]
  refine wpAnyU_one (i := 4) (by kernel_rfl) rfl ?_
  intro K hK
  go_simp
  refine Calls.mono (uses12_ok A B2 n c (m - k) (d - k) ns (l.drop k) _ (HN.out.below hd0) (by omega) hc (HOD.out.below hd0) (by omega) (by omega) hordd) ?_
  rintro e x3 ⟨gb, he, hb⟩
  (try dsimp only)
  subst he
  have hd1 : Below x2.heap.size x2 x3 := below_nx6 hd0 hb.1
  (try dsimp only)
  have hS1 : Hid (x3.cell? ⟨w.heap.size, 0, none⟩ = some (.slice A n c)) := hide (HXK.out _ hd1)
  refine hK.out _ _ hS1.out (fun _ => ?_)
  clear hK K hS0
  refine wpAnyU_take (i := 5) (oi := { dst := some 61, op := _, type := _, pos := _, after := _, guard := none }) (v := .tuple #[.slice (some ⟨gb, 0, none⟩) n n, .int .i64 0]) rfl (by kernel_rfl) (by kernel_rfl) (by kernel_rfl) (by kernel_rfl) (fun _ _ _ h => h) (yields_take rfl (fun w' hw => by have h1 := hw.const; go_simp)) hS1.out ?_
  simp only [Act.put, List.setIfInBounds_toArray, List.set_cons_zero, List.set_cons_succ]
  refine wpAnyU_take (i := 6) (oi := { dst := some 67, op := _, type := _, pos := _, after := _, guard := none }) (v := .slice (some ⟨gb, 0, none⟩) n n) rfl (by kernel_rfl) (by kernel_rfl) (by kernel_rfl) (by kernel_rfl) (fun _ _ _ h => h) (yields_take rfl (fun w' hw => by have h1 := hw.const; go_simp)) hS1.out ?_
  simp only [Act.put, List.setIfInBounds_toArray, List.set_cons_zero, List.set_cons_succ]
  refine wpAnyU_take (i := 7) (oi := { dst := some 68, op := _, type := _, pos := _, after := _, guard := none }) (v := .int .i64 0) rfl (by kernel_rfl) (by kernel_rfl) (by kernel_rfl) (by kernel_rfl) (fun _ _ _ h => h) (yields_take rfl (fun w' hw => by have h1 := hw.const; go_simp)) hS1.out ?_
  simp only [Act.put, List.setIfInBounds_toArray, List.set_cons_zero, List.set_cons_succ]
  refine wpAnyU_take (i := 8) (oi := { dst := some 12, op := _, type := _, pos := _, after := _, guard := none }) (v := .slice (some ⟨gb, 0, none⟩) n n) rfl (by kernel_rfl) (by kernel_rfl) (by kernel_rfl) (by kernel_rfl) (fun _ _ _ h => h) (yields_take rfl (fun w' hw => by have h1 := hw.const; go_simp)) hS1.out ?_
  simp only [Act.put, List.setIfInBounds_toArray, List.set_cons_zero, List.set_cons_succ]
  refine wpAnyU_take (i := 9) (oi := { dst := some 13, op := _, type := _, pos := _, after := _, guard := none }) (v := .int .i64 0) rfl (by kernel_rfl) (by kernel_rfl) (by kernel_rfl) (by kernel_rfl) (fun _ _ _ h => h) (yields_take rfl (fun w' hw => by have h1 := hw.const; go_simp)) hS1.out ?_
  simp only [Act.put, List.setIfInBounds_toArray, List.set_cons_zero, List.set_cons_succ]
  refine wpAnyU_done (by kernel_rfl) ?_ _
  clear hS1
  have HRb := hide (hb.lies2 (n := n) (by rw [usL_len]; exact HL.out))
  have hz : Below x2.heap.size x2 x3 := hd1
  replace HBN := hide (below_nx6 HBN.out hz)
  replace HX := hide (HX.out.kept hz)
  replace HN := hide (HN.out.below hz)
  replace HO := hide (HO.out.below hz)
  replace HOT := hide (HOT.out.below hz)
  replace HOD := hide (HOD.out.below hz)
  replace HRu := hide (HRu.out.below hz)
  replace HRa := hide (HRa.out.below hz)
  clear hz
  clear HXK hd0 hd1 hb
  have cx := HX.out.c0
  have HCON := hide (next12_ok A B n c m d 0 ns l (-1) _ HN.out (by omega) hc HO.out (by omega) hd hord (by omega) (by omega))
  go_wp2_with fail
  refine Calls.mono HCON.out ?_
  rintro e x4 ⟨gx, rfl, hx⟩
  have HRx := hide (hx.lies2 (n := n) (by rw [nxL_len _ _ (by rw [HL.out]; exact HN1.out.1)]; exact HL.out))
  have hz : Below x3.heap.size x3 x4 := hx.1
  replace HBN := hide (below_nx6 HBN.out hz)
  replace HX := hide (HX.out.kept hz)
  replace HN := hide (HN.out.below hz)
  replace HO := hide (HO.out.below hz)
  replace HOT := hide (HOT.out.below hz)
  replace HOD := hide (HOD.out.below hz)
  replace HRu := hide (HRu.out.below hz)
  replace HRa := hide (HRa.out.below hz)
  replace HRb := hide (HRb.out.below hz)
  clear hz
  clear hx
  clear cx HCON
  have hn1 : 1 ≤ n := HN1.out.1
  have hn32 : n ≤ 32 := HN1.out.2
  have HLF : Hid (lenF ns l ≤ 2814749767106560) := hide (by
    have h2 := lenF_le ns 70368744177664 l (fun o ho => by
      have hoi := HORD.out.2.2.1 o ho
      rw [HL.out] at hoi
      obtain ⟨u, rfl⟩ := Int.eq_ofNat_of_zero_le hoi.1
      obtain ⟨_, _, x, _, hxu, _, _, _, _, _, hxo⟩ := HN.out.at (show u < n by omega)
      rw [Int.toNat_natCast, insN_at hxu, lies_len9 hxo.1]
      exact hxo.2.2.2.2.1)
    rw [HM.out] at h2
    exact Nat.le_trans h2 (Nat.le_trans (Nat.mul_le_mul_right _ hm40) (Nat.le_of_ble_eq_true rfl)))
  have cx := HX.out.c0
  go_wp2
  clear cx
  go_loopw [16, 17] (fun s v wr => ∃ (j T : Nat), j ≤ n ∧ v = .int .i64 j ∧ s = .int .i64 (T : Int) ∧ Hid (T = totN (fun t => usF ns l t) j) ∧ Hid (Below x4.heap.size x4 wr)) (fun _ v _ => n - (intOf v).toNat)
  case atStart => exact ⟨0, 0, Nat.zero_le _, rfl, rfl, hide rfl, hide (Below.refl _ _)⟩
  case round =>
    obtain ⟨j, T, hj, rfl, rfl, HT, HB⟩ := hrel
    by_cases hlt : j < n
    · have j0 : (0 : Int) ≤ (j : Int) := by omega
      have j2 : (j : Int) < (n : Int) := by omega
      obtain ⟨_, _, eu, _, hu⟩ := byte_at (HRu.out.below HB.out) (by omega)
      cases eu
      obtain ⟨_, _, ea, _, ha2⟩ := byte_at (HRa.out.below HB.out) (by omega)
      cases ea
      obtain ⟨_, _, eb, _, hb2⟩ := byte_at (HRb.out.below HB.out) (by omega)
      cases eb
      obtain ⟨_, _, ex, _, hx⟩ := byte_at (HRx.out.below HB.out) (by omega)
      cases ex
      have cu := hu j (by omega)
      have ca := ha2 j (by omega)
      have cb := hb2 j (by omega)
      have cx := hx j (by omega)
      rw [usL_getD (by rw [HL.out]; exact hlt), Nat.zero_add] at cu ca cb
      rw [Nat.zero_add] at cx
      have k1 := usF_cut ns l k j
      have k2 := usF_nx ns l 0 j
      have k3 : totN (fun t => usF ns l t) j + usF ns l j ≤ lenF ns l := by
        have h := totN_mono (fun t => usF ns l t) n (j + 1) (by omega)
        rw [HTOT.out] at h
        exact h
      have k4 := HLF.out
      have k5 := HT.out
      have k6 : j < n - 1 → (nxL ns l 0).getD j 0 = nxF ns l 0 j := fun h => by
        rw [nxL_getD (by rw [HL.out]; exact h), List.drop_zero]
      obtain ⟨U, hU⟩ : ∃ U, U = usF ns l j := ⟨_, rfl⟩
      obtain ⟨P, hP⟩ : ∃ U, U = usF ns (l.take k) j := ⟨_, rfl⟩
      obtain ⟨Q, hQ⟩ : ∃ U, U = usF ns (l.drop k) j := ⟨_, rfl⟩
      obtain ⟨X, hX⟩ : ∃ U, U = (nxL ns l 0).getD j 0 := ⟨_, rfl⟩
      obtain ⟨Y, hY⟩ : ∃ U, U = nxF ns l 0 j := ⟨_, rfl⟩
      have HT2 : Hid (T + U = totN (fun t => usF ns l t) (j + 1)) := hide (by rw [totN, hU, HT.out])
      rw [← hU] at cu k1 k2 k3
      rw [← hP] at ca k1
      rw [← hQ] at cb k1
      rw [← hX] at cx k6
      rw [← hY] at k2 k6
      rw [← k5] at k3
      obtain rfl : U = P + Q := k1
      have e1 : IntKind.i64.wrap ((P : Int) + (Q : Int)) = ((P + Q : Nat) : Int) := by rw [IntKind.wrap_i64]; omega
      have e2 : IntKind.i64.wrap ((T : Int) + ((P + Q : Nat) : Int)) = ((T + (P + Q) : Nat) : Int) := by rw [IntKind.wrap_i64]; omega
      have e3 : (P : Int) + (Q : Int) = ((P + Q : Nat) : Int) := by omega
      have e4 : IntKind.i64.wrap ((P + Q : Nat) : Int) = ((P + Q : Nat) : Int) := by rw [IntKind.wrap_i64]; omega
      clear hu ha2 hb2 hx hU hP hQ hX hY k4 k5
      obtain ⟨U, hU⟩ : ∃ U, U = P + Q := ⟨_, rfl⟩
      rw [← hU] at cu e2 e3 e4 HT2 k2 k3
      clear hU e1
      by_cases hl : j < n - 1
      · obtain rfl : X = Y := k6 hl
        have d0 : decide ((j : Int) < (n : Int) - 1) = true := decide_eq_true (by omega)
        by_cases hU0 : 0 < U
        · have d1 : decide ((0 : Int) < (U : Int)) = true := decide_eq_true (by omega)
          have d3 : decide (0 < U) = true := decide_eq_true hU0
          have d2 : decide ((0 : Int) ≤ X) = true := decide_eq_true (by omega)
          clear k2 k6 hl hU0
          go_wp2
          go_quiet (fail)
          go_wp2
          exact ⟨⟨j + 1, T + U, by omega, by go_num, by go_num, HT2, hide (below_drewN HB.out _)⟩, by simp [intOf] <;> omega⟩
        · have d1 : decide ((0 : Int) < (U : Int)) = false := decide_eq_false (by omega)
          have d3 : decide (0 < U) = false := decide_eq_false hU0
          have d2 : decide ((0 : Int) ≤ X) = false := decide_eq_false (by omega)
          clear k2 k6 hl hU0
          go_wp2
          go_quiet (fail)
          go_wp2
          exact ⟨⟨j + 1, T + U, by omega, by go_num, by go_num, HT2, hide (below_drewN HB.out _)⟩, by simp [intOf] <;> omega⟩
      · have d0 : decide ((j : Int) < (n : Int) - 1) = false := decide_eq_false (by omega)
        clear k2 k6 hl
        go_wp2
        go_quiet (fail)
        go_wp2
        exact ⟨⟨j + 1, T + U, by omega, by go_num, by go_num, HT2, hide (below_drewN HB.out _)⟩, by simp [intOf] <;> omega⟩
    · obtain rfl : j = n := by omega
      have j1 : ¬ (j : Int) < (j : Int) := by omega
      obtain rfl : T = lenF ns l := by rw [HT.out, HTOT.out]
      have HLF0 : Hid (lenF ns l = lenF ns (l.drop 0)) := hide (by rw [List.drop_zero])
      have HLB := hide HLF.out
      obtain ⟨T, hT⟩ : ∃ T, T = lenF ns l := ⟨_, rfl⟩
      rw [← hT] at HLF0 HLB
      rw [← hT]
      clear hT HT
      go_wp2
      go_loopw [16, 18] (fun s v wv => ∃ (i y : Nat), i ≤ m ∧ v = .int .i64 i ∧ s = .int .i64 (y : Int) ∧ Hid (y = lenF ns (l.drop i) ∧ y ≤ 2814749767106560) ∧ Hid (Below wr.heap.size wr wv)) (fun _ v _ => m - (intOf v).toNat)
      case atStart => exact ⟨0, T, Nat.zero_le _, rfl, rfl, hide ⟨HLF0.out, HLB.out⟩, hide (Below.refl _ _)⟩
      case round =>
        obtain ⟨i, y, hi, rfl, rfl, HY, HB2⟩ := hrel
        have hb3 := below_nx6 HB.out HB2.out
        by_cases hlt3 : i < m
        · obtain ⟨bB, oB, eB, _, hx⟩ := byte_at (HO.out.below hb3) (by omega)
          have hc1 := hx i hlt3
          obtain ⟨o, ho⟩ : ∃ o, o = l.getD i 0 := ⟨_, rfl⟩
          rw [← ho] at hc1
          have hoi := HORD.out.2.2.1 o (by rw [ho]; exact getD_mem (by rw [HM.out]; exact hlt3))
          rw [HL.out] at hoi
          obtain ⟨u, rfl⟩ := Int.eq_ofNat_of_zero_le hoi.1
          have hun : u < j := by omega
          have hle : l[i]? = some (u : Int) := by
            have hel : i < l.length := by rw [HM.out]; exact hlt3
            rw [List.getElem?_eq_getElem hel, ho]
            simp [List.getD, hel]
          obtain ⟨bA, oA, x, eA, hxu, h0, h1, h2, h3, h4, hxo⟩ := (HN.out.below hb3).at hun
          have hdr := lenF_drop hle hxu
          rw [lies_len9 hxo.1] at hdr
          have hy := HY.out
          obtain ⟨y2, hy2⟩ : ∃ z, z = lenF ns (l.drop (i + 1)) := ⟨_, rfl⟩
          rw [hdr, ← hy2] at hy
          obtain ⟨hy, hyb⟩ := hy
          subst hy
          have HY2 : Hid (y2 = lenF ns (l.drop (i + 1)) ∧ y2 ≤ 2814749767106560) := hide ⟨hy2, by omega⟩
          have e1 : IntKind.i64.wrap (((x.ni + y2 : Nat) : Int) - (x.ni : Int)) = (y2 : Int) := by rw [IntKind.wrap_i64]; omega
          have g0 : (0 : Int) ≤ (u : Int) := by omega
          have g1 : (u : Int) < (j : Int) := by omega
          have i0 : (0 : Int) ≤ (i : Int) := by omega
          have i1 : (i : Int) < (m : Int) := by omega
          have cg := (HX.out.kept hb3).c0
          subst eA eB
          clear hx ho hoi hxu hxo hle hdr hy2
          go_wp2
          go_quiet (fail)
          go_wp2
          go_roundw
          case rel => exact ⟨i + 1, y2, by omega, by go_num, by go_num, HY2, hide (below_drewN HB2.out _)⟩
          case measure => simp [intOf] <;> omega
        · obtain rfl : i = m := by omega
          obtain rfl : y = 0 := by
            have hy := HY.out.1
            rw [List.drop_of_length_le (by rw [HM.out]; exact Nat.le_refl _)] at hy
            exact hy
          have i1 : ¬ (i : Int) < (i : Int) := by omega
          go_wp2
          go_ret
          exact ⟨rfl, below_nx6 HB0.out (below_nx6 HBN.out hb3)⟩

end

section
open Go.RowKit
set_option linter.unusedVariables false
set_option linter.unusedSimpArgs false
set_option maxRecDepth 100000

theorem infoN10 : (Try.prog.info? 33).map (fun i => (i.zero, i.size, i.bytes)) = some (some (.agg #[.int .u8 0, .slice none 0 0, .slice none 0 0, .int .i64 0, .int .i64 0]), 5, 72) := by kernel_rfl

/-- The chapter's graph, where it lies. -/
def knN (q : Nat) : List Nd := [⟨1, none, 0, 0, some ⟨q + 1, 0, none⟩, 2, 2, 0, 0, [], [2, 3]⟩, ⟨2, none, 0, 0, some ⟨q + 2, 0, none⟩, 2, 2, 0, 0, [], [3, 2]⟩, ⟨7, some ⟨q + 3, 0, none⟩, 2, 2, none, 0, 0, 0, 0, [0, 1], []⟩, ⟨5, some ⟨q + 4, 0, none⟩, 1, 1, none, 0, 0, 0, 0, [2], []⟩]

end

section
open Go.RowKit
set_option linter.unusedVariables false
set_option linter.unusedSimpArgs false
set_option maxRecDepth 100000

/-- What the copy of the nodes and the new one come to, in either order. -/
def WithR (W : World) (x : Nd) (ns : List Nd) (n : Nat) (v1 v2 : Value) (u : World) : Prop :=
  ∃ A1 c1 g, v1 = .slice A1 n c1 ∧ v2 = .slice (some ⟨g, 0, none⟩) 1 1 ∧ u.ownsRow W.heap.size 33 5 (.slice A1 n c1) n (cellsN ns) ∧ (∀ j y, x.five[j]? = some y → u.cell? ((⟨g, 0, none⟩ : Addr).add j) = some y) ∧ Below W.heap.size W u

theorem five_new (w : World) (x : Nd) : ∀ j y, x.five[j]? = some y → (w.alloc (.cells #[.int .u8 x.kd, .slice x.I x.ni x.ci, .slice x.S x.ns x.cs, .int .i64 x.N, .int .i64 x.P] 33)).cell? ((⟨w.heap.size, 0, none⟩ : Addr).add j) = some y := cells_new w x.five 33

theorem five_below {w w' : World} {x : Nd} {g : Nat} (h : ∀ j y, x.five[j]? = some y → w.cell? ((⟨g, 0, none⟩ : Addr).add j) = some y) (hg : g < w.heap.size) (hb : Below w.heap.size w w') : ∀ j y, x.five[j]? = some y → w'.cell? ((⟨g, 0, none⟩ : Addr).add j) = some y := fun j y hj => by
  have := h j y hj
  rw [Addr.add_lit] at this ⊢
  exact (World.cell?_of_block (hb.block g hg)).trans this

theorem own_keep10 {w w' : World} {base size : Nat} {e : TypeId} {v : Value} {n : Nat} {xs : List Value} (h : w.ownsRow base e size v n xs) (hb : Below w.heap.size w w') : w'.ownsRow base e size v n xs :=
  h.kept (row := none) ⟨hb.os, hb.tape, hb.output, hb.size, fun i hi _ => hb.block i hi⟩ (by cases v.ownBlock <;> simp)

theorem below_own10 {W w w' : World} {base size : Nat} {e : TypeId} {v : Value} {n : Nat} {xs : List Value} (hb : Below W.heap.size W w) (ho : w.ownsRow base e size v n xs) (hg : w.grownBy w' v.ownBlock) (hbb : W.heap.size ≤ base) : Below W.heap.size W w' :=
  hb.grown hg hb.size (fun g hgg => Nat.le_trans hbb (ho.lt g hgg).1)

end

section
open Go.RowKit
set_option linter.unusedVariables false
set_option linter.unusedSimpArgs false
set_option maxRecDepth 100000

theorem inIx_lt {ns : List Nd} (h : 0 ≤ inIx ns) : (inIx ns).toNat < ns.length := by
  have := inIx_ge ns
  omega

/-- A graph that may be, with one node more. -/
theorem gph_snoc {ns : List Nd} {x : Nd} (hb : gphB ns = true) : gphB (ns ++ [x]) = (decide (ns.length < 32) && decide (x.kd ≠ 1) && decide (x.kd ≠ 2) && fitN x (gphS ns)) := by
  obtain ⟨he, ss, hs, e⟩ := gphB_parts hb
  obtain ⟨e1, e2, e3, e4⟩ := endsOk_parts he
  have hl := inIx_lt e2
  have hi : inIx (ns ++ [x]) = inIx ns := by rw [inIx_snoc, if_neg (by omega)]
  have hd : (ns ++ [x]).drop ((inIx ns).toNat + 1) = ns.drop ((inIx ns).toNat + 1) ++ [x] := List.drop_append_of_le_length (by omega)
  have h3 := inIx_ge (ns.drop ((inIx ns).toNat + 1))
  have h4 : inIx (ns.drop ((inIx ns).toNat + 1)) = -1 := by omega
  have hla : lastOk (ns ++ [x]) = (!(x.kd == 1) && (x.kd != 2)) := lastOk_at (by simp)
  have hall : allSh (ns ++ [x]) [] = if fitN x ss = true then some (ss ++ [shN x ss]) else none := by
    rw [allSh_append, hs]
    show allSh [x] ss = _
    rw [allSh]
    split <;> rfl
  rw [e]
  cases hq : (decide (ns.length < 32) && decide (x.kd ≠ 1) && decide (x.kd ≠ 2) && fitN x ss) with
  | true =>
    simp only [Bool.and_eq_true, decide_eq_true_eq] at hq
    obtain ⟨⟨⟨q1, q2⟩, q3⟩, q4⟩ := hq
    refine gphB_mk (endsOk_mk (by simp; omega) (by omega) ?_ ?_) (by rw [hall, if_pos q4])
    · rw [hi, hd, inIx_snoc, if_pos h4, if_neg q2]; omega
    · rw [hla]; simp [q2, q3]
  | false =>
    cases hg : gphB (ns ++ [x]) with
    | false => rfl
    | true =>
      exfalso
      obtain ⟨he2, ts, ht, _⟩ := gphB_parts hg
      obtain ⟨d1, d2, d3, d4⟩ := endsOk_parts he2
      rw [hla] at d4
      simp only [Bool.and_eq_true, Bool.not_eq_true', beq_eq_false_iff_ne, bne_iff_ne] at d4
      have hf : fitN x ss = true := by
        rw [hall] at ht
        split at ht
        · assumption
        · cases ht
      have : (decide (ns.length < 32) && decide (x.kd ≠ 1) && decide (x.kd ≠ 2) && fitN x ss) = true := by
        simp only [Bool.and_eq_true, decide_eq_true_eq]
        refine ⟨⟨⟨?_, d4.1⟩, d4.2⟩, hf⟩
        simp at d1
        omega
      rw [this] at hq
      cases hq

theorem gphS_snoc {ns : List Nd} {x : Nd} (hb : gphB ns = true) (h2 : gphB (ns ++ [x]) = true) : gphS (ns ++ [x]) = gphS ns ++ [shN x (gphS ns)] := by
  obtain ⟨_, ss, hs, e⟩ := gphB_parts hb
  obtain ⟨_, ts, ht, e2⟩ := gphB_parts h2
  rw [e, e2]
  rw [allSh_append, hs] at ht
  have ht' : allSh [x] ss = some ts := ht
  rw [allSh] at ht'
  split at ht'
  · injection ht' with h; exact h.symm
  · cases ht'

/-- Nodes that take in one, and change no shape. -/
theorem fit_relu (a : Option Addr) (N : Int) (z : Int) (ss : List (List Int)) : fitN ⟨5, a, 1, 1, none, 0, 0, N, 0, [z], []⟩ ss = (decide (N = 0) && decide (0 ≤ z ∧ z < (ss.length : Int))) := by
  have e : (5 : Int).toNat = 5 := rfl
  by_cases hN : N = 0
  · subst hN
    simp [fitN, alw, rlT, allKn, nodeE, lOk, e]
  · have : ¬ (0 ≤ N ∧ N ≤ 0) := by omega
    simp [fitN, alw, rlT, allKn, nodeE, lOk, e, hN]
    omega

theorem fit_shift (a : Option Addr) (N : Int) (z : Int) (ss : List (List Int)) : fitN ⟨6, a, 1, 1, none, 0, 0, N, 0, [z], []⟩ ss = (decide (0 ≤ N ∧ N ≤ 31) && decide (0 ≤ z ∧ z < (ss.length : Int))) := by
  have e : (6 : Int).toNat = 6 := rfl
  simp [fitN, alw, rlT, allKn, nodeE, lOk, e]

theorem fit_relu2 (a : Option Addr) (z y : Int) (ss : List (List Int)) : fitN ⟨5, a, 2, 2, none, 0, 0, 0, 0, [z, y], []⟩ ss = false := by
  have e : (5 : Int).toNat = 5 := rfl
  simp [fitN, alw, rlT, allKn, nodeE, lOk, e]

theorem sh_relu (a : Option Addr) (N : Int) (k : Nat) (ss : List (List Int)) : shN ⟨5, a, 1, 1, none, 0, 0, N, 0, [(k : Int)], []⟩ ss = ss.getD k [] := by
  show knL ss [(k : Int)] 0 = _
  have e0 : ([(k : Int)].getD 0 0).toNat = k := rfl
  rw [knL, e0, List.getD_eq_getElem?_getD]
  cases ss[k]? <;> rfl

end

end Go.Proofs.Yteagmlaahnpkhaa
