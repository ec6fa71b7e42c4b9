/- GraphsJoined: for every graph, two nodes and direction the walk of its Go text ends in true. -/
import Derived.Test.YtdlhhkegkfhmoaaAlive10M
import Derived.Test.YtdlhhkegkfhmoaaGp4M
namespace Go.Proofs.Ytdlhhkegkfhmoaa
open Go.RowKit
set_option linter.unusedVariables false
set_option linter.unusedSimpArgs false
set_option maxRecDepth 100000

theorem twL_len (s : List Int) (k : Nat) : (twL s k).length = s.length := by rw [twL, List.length_set]

set_option maxHeartbeats 32000000 in
theorem joined10_any (A : Option Addr) (n c : Nat) (ns : List Nd) (x0 y0 z0 : Int) (w : World) (h : NsIn w A n ns) (hc : n ≤ c) (hnil : A = none → c = 0) (hn : n ≤ 70368744177664) (hx0 : 0 ≤ x0 ∧ x0 < 256) (hy0 : 0 ≤ y0 ∧ y0 < 256) (hz0 : 0 ≤ z0 ∧ z0 < 256) :
    Calls Try.prog 6 #[.agg #[.slice A n c], .agg #[.int .u8 x0, .int .u8 y0], .int .u8 z0] w fun e w' => e = .returned (.bool true) ∧ Below w.heap.size w w' := by
  obtain ⟨Wa, hWa⟩ : ∃ W, W = w.alloc (.cells #[.slice A n c] 24) := ⟨_, rfl⟩
  obtain ⟨W0, hW0⟩ : ∃ W0, W0 = Wa.alloc (.cells #[.int .u8 x0, .int .u8 y0] 42) := ⟨_, rfl⟩
  have HB0 : Hid (Below w.heap.size w W0) := hide (by rw [hW0, hWa]; exact below_al6 (below_al6 (Below.refl _ _)))
  have hxa : BoxG Wa w.heap.size (.slice A n c) := by rw [hWa]; exact BoxG.new w _
  have hba : Below Wa.heap.size Wa W0 := by rw [hW0]; exact below_al6 (Below.refl _ _)
  have HX := hide (hxa.kept hba)
  have hwa : W0.heap[Wa.heap.size]? = some (.cells #[.int .u8 x0, .int .u8 y0] 42 (0, 0)) := by rw [hW0]; exact heap_alloc_new Wa _
  rw [show Wa.heap.size = w.heap.size + 1 by rw [hWa]; simp] at hwa
  have HW : Hid (∀ v, Below W0.heap.size W0 v → v.cell? ⟨w.heap.size + 1, 0, none⟩ = some (.int .u8 x0) ∧ v.cell? ⟨w.heap.size + 1, 1, none⟩ = some (.int .u8 y0)) := hide (fun v hv => by
    have h := (hv.block _ (lt_of_heap hwa)).trans hwa
    exact ⟨cell_of_row _ _ 0 _ _ (0, 0) h, cell_of_row _ _ 1 _ _ (0, 0) h⟩)
  have HN := hide (h.below HB0.out)
  have HL : Hid (ns.length = n) := hide h.1
  rw [hWa] at hW0
  have hW0' := hW0.symm
  have HNIL := hide hnil
  clear hW0 hWa h hxa hba hwa hnil
  go_enter Try.func6, Try.ntmps6
  go_wp2_with fail
  refine Calls.mono (alive10_any _) ?_
  rintro e w1 ⟨rfl, hb⟩
  have HBN := hide hb
  clear hb
  have c0 := (HX.out.kept HBN.out).c0
  go_wp2_with fail
  refine Calls.mono (graph_size A n c ns _ (HN.out.below HBN.out) hn) ?_
  rintro e w2 ⟨r, rfl, hr0, hr1, hb⟩
  replace HBN := hide (below_nx6 HBN.out hb)
  clear hb c0
  have c0 := (HX.out.kept HBN.out).c0
  by_cases hbig : 20000 < r
  · go_wp2_with fail
    refine Calls.mono (alive10_any _) ?_
    rintro e w3 ⟨rfl, hb⟩
    replace HBN := hide (below_nx6 HBN.out hb)
    clear hb
    go_wp2
    go_ret
    exact ⟨rfl, below_nx6 HB0.out HBN.out⟩
  clear hr1 hr0
  by_cases h31 : 31 < n
  · have f31 : (31 : Int) < (n : Int) := by omega
    go_wp2_with fail
    refine Calls.mono (alive10_any _) ?_
    rintro e w3 ⟨rfl, hb⟩
    replace HBN := hide (below_nx6 HBN.out hb)
    clear hb
    go_wp2
    go_ret
    exact ⟨rfl, below_nx6 HB0.out HBN.out⟩
  have f31 : ¬ (31 : Int) < (n : Int) := by omega
  have HS1 := hide (gshapes_any A n c ns w2 (HN.out.below HBN.out) (by omega) hc)
  obtain ⟨E, hE⟩ : ∃ z, z = gphE ns := ⟨_, rfl⟩
  rw [← hE] at HS1
  have HE := hide hE
  clear hE
  go_wp2_with fail
  refine Calls.mono HS1.out ?_
  rintro e w3 ⟨R, m, kc, gs, rfl, hG, hgs, hb⟩
  have HSG := hide hG.sg
  have HGS := hide hgs
  have HML : Hid (m = (gphS ns).length) := hide (by rw [← hgs, List.length_map, hG.1])
  replace HBN := hide (below_nx6 HBN.out hb)
  clear hb c0 hG hgs HS1 f31
  by_cases hE0 : ¬ E = 0
  · have e0 : (E == 0) = false := by simpa using hE0
    have e1 : (E != 0) = true := by simpa using hE0
    go_wp2
    go_ret
    exact ⟨rfl, below_nx6 HB0.out HBN.out⟩
  obtain rfl : E = 0 := by omega
  have HGB : Hid (gphB ns = true) := hide (gphE_zero.1 HE.out.symm)
  have HEN := hide (endsOk_parts (gphB_parts HGB.out).1)
  have hn1 : 1 ≤ n := by have h1 := HEN.out.2.1; have h2 := inIx_ge ns; rw [HL.out] at h2; omega
  have hmn : m = n := by rw [HML.out, gphS_len HGB.out, HL.out]
  subst hmn
  have hm31 : m ≤ 31 := by omega
  obtain ⟨X, rfl⟩ := Int.eq_ofNat_of_zero_le hx0.1
  obtain ⟨Y, rfl⟩ := Int.eq_ofNat_of_zero_le hy0.1
  obtain ⟨Z, rfl⟩ := Int.eq_ofNat_of_zero_le hz0.1
  obtain ⟨a, ha⟩ : ∃ z, z = X % m := ⟨_, rfl⟩
  obtain ⟨b, hb⟩ : ∃ z, z = Y % m := ⟨_, rfl⟩
  obtain ⟨k, hk⟩ : ∃ z, z = Z % 4 := ⟨_, rfl⟩
  have r1 : Int.tmod (X : Int) (m : Int) = (a : Int) := by rw [ha]; rfl
  have r2 : Int.tmod (Y : Int) (m : Int) = (b : Int) := by rw [hb]; rfl
  have r3 : Int.tmod (Z : Int) 4 = (k : Int) := by rw [hk]; rfl
  have ham : a < m := by rw [ha]; exact Nat.mod_lt _ (by omega)
  have hbm : b < m := by rw [hb]; exact Nat.mod_lt _ (by omega)
  have hk3 : k ≤ 3 := by omega
  have r4 : ¬ (m : Int) = 0 := by omega
  have r4' : ¬ m = 0 := by omega
  have r5 : IntKind.i64.wrap (a : Int) = (a : Int) := by rw [IntKind.wrap_i64]; omega
  have r6 : IntKind.i64.wrap (b : Int) = (b : Int) := by rw [IntKind.wrap_i64]; omega
  have r7 : IntKind.i64.wrap (k : Int) = (k : Int) := by rw [IntKind.wrap_i64]; omega
  have r8 : IntKind.u8.wrap (k : Int) = (k : Int) := by rw [IntKind.wrap_u8]; omega
  have rx : IntKind.i64.wrap (X : Int) = (X : Int) := by rw [IntKind.wrap_i64]; omega
  have ry : IntKind.i64.wrap (Y : Int) = (Y : Int) := by rw [IntKind.wrap_i64]; omega
  clear ha hb hk hE0
  obtain ⟨q0, q1⟩ := HW.out _ HBN.out
  obtain ⟨bS, oS, ga, rfl, hga, hca, hla, hna, hoa⟩ := HSG.out.at ham
  obtain ⟨_, _, gb, eA, hgb, hcb, hlb, hnb, hob⟩ := HSG.out.at hbm
  cases eA
  have HSA : Hid ((gphS ns).getD a [] = ga.s) := hide (by rw [← HGS.out, List.getD_eq_getElem?_getD, List.getElem?_map, hga]; rfl)
  have HSB : Hid ((gphS ns).getD b [] = gb.s) := hide (by rw [← HGS.out, List.getD_eq_getElem?_getD, List.getElem?_map, hgb]; rfl)
  have HPA : Hid (0 < sizeI ga.s) := hide (gphS_pos ns _ (by rw [← HGS.out]; exact List.mem_map.2 ⟨ga, List.mem_of_getElem? hga, rfl⟩))
  have HLA := hide hla
  have HLB := hide hlb
  have HGL : Hid ((gphS ns).length = m) := hide HML.out.symm
  have HCC : Hid (∀ v, Below w3.heap.size w3 v → v.cell? ⟨w.heap.size, 0, none⟩ = some (.slice A m c) ∧ v.cell? ⟨bS, oS + a, none⟩ = some (.slice ga.A ga.n ga.c) ∧ v.cell? ⟨bS, oS + b, none⟩ = some (.slice gb.A gb.n gb.c)) := hide (fun v hv => ⟨((HX.out.kept HBN.out).kept hv).c0, (hv.cell (World.block_lt_of_cell? w3 _ hca)).trans hca, (hv.cell (World.block_lt_of_cell? w3 _ hcb)).trans hcb⟩)
  have j0 : (0 : Int) ≤ (a : Int) := by omega
  have j1 : (a : Int) < (m : Int) := by omega
  have j2 : (0 : Int) ≤ (b : Int) := by omega
  have j3 : (b : Int) < (m : Int) := by omega
  have hd0 : Below w3.heap.size w3 w3.drew := below_drewN (Below.refl _ _) 1
  clear hga hgb hca hcb hla hlb
  go_wp2
  clear q0 q1
  have hS0 : Hid (w3.drew.cell? ⟨w.heap.size, 0, none⟩ = some (.slice A m c) ∧ w3.drew.cell? ⟨bS, oS + a, none⟩ = some (.slice ga.A ga.n ga.c) ∧ w3.drew.cell? ⟨bS, oS + b, none⟩ = some (.slice gb.A gb.n gb.c)) := hide (HCC.out _ hd0)
  refine wp_region_U (fun _ v => v.cell? ⟨w.heap.size, 0, none⟩ = some (.slice A m c) ∧ v.cell? ⟨bS, oS + a, none⟩ = some (.slice ga.A ga.n ga.c) ∧ v.cell? ⟨bS, oS + b, none⟩ = some (.slice gb.A gb.n gb.c)) 99 (by kernel_rfl) ?_
  refine wpAnyU_take (i := 0) (oi := { dst := some 48, op := _, type := _, pos := _, after := _, guard := none }) (v := .agg #[.slice A m c]) rfl (by kernel_rfl) (by kernel_rfl) (by kernel_rfl) (by kernel_rfl) (fun _ _ _ h => h) (yields_take rfl (fun w' hw => by obtain ⟨h1, h2, h3⟩ := hw.const; go_simp)) hS0.out ?_
  simp only [Act.put, List.setIfInBounds_toArray, List.set_cons_zero, List.set_cons_succ]
  refine wpAnyU_take (i := 1) (oi := { dst := some 49, op := _, type := _, pos := _, after := _, guard := none }) (v := .int .i64 (a : Int)) rfl (by kernel_rfl) (by kernel_rfl) (by kernel_rfl) (by kernel_rfl) (fun _ _ _ h => h) (yields_take rfl (fun w' hw => by obtain ⟨h1, h2, h3⟩ := hw.const; go_simp)) hS0.out ?_
  simp only [Act.put, List.setIfInBounds_toArray, List.set_cons_zero, List.set_cons_succ]
  refine wpAnyU_take (i := 2) (oi := { dst := some 50, op := _, type := _, pos := _, after := _, guard := none }) (v := .int .i64 (b : Int)) rfl (by kernel_rfl) (by kernel_rfl) (by kernel_rfl) (by kernel_rfl) (fun _ _ _ h => h) (yields_take rfl (fun w' hw => by obtain ⟨h1, h2, h3⟩ := hw.const; go_simp)) hS0.out ?_
  simp only [Act.put, List.setIfInBounds_toArray, List.set_cons_zero, List.set_cons_succ]
  refine wpAnyU_take (i := 7) (oi := { dst := some 55, op := _, type := _, pos := _, after := _, guard := none }) (v := .slice (some ⟨bS, oS, none⟩) m kc) rfl (by kernel_rfl) (by kernel_rfl) (by kernel_rfl) (by kernel_rfl) (fun _ _ _ h => h) (yields_take rfl (fun w' hw => by obtain ⟨h1, h2, h3⟩ := hw.const; go_simp)) hS0.out ?_
  simp only [Act.put, List.setIfInBounds_toArray, List.set_cons_zero, List.set_cons_succ]
  refine wpAnyU_take (i := 8) (oi := { dst := some 56, op := _, type := _, pos := _, after := _, guard := none }) (v := .int .i64 (a : Int)) rfl (by kernel_rfl) (by kernel_rfl) (by kernel_rfl) (by kernel_rfl) (fun _ _ _ h => h) (yields_take rfl (fun w' hw => by obtain ⟨h1, h2, h3⟩ := hw.const; go_simp)) hS0.out ?_
  simp only [Act.put, List.setIfInBounds_toArray, List.set_cons_zero, List.set_cons_succ]
  refine wpAnyU_take (i := 9) (oi := { dst := some 57, op := _, type := _, pos := _, after := _, guard := none }) (v := .pointer (some ⟨bS, oS + a, none⟩)) rfl (by kernel_rfl) (by kernel_rfl) (by kernel_rfl) (by kernel_rfl) (fun _ _ _ h => h) (yields_take rfl (fun w' hw => by obtain ⟨h1, h2, h3⟩ := hw.const; go_simp)) hS0.out ?_
  simp only [Act.put, List.setIfInBounds_toArray, List.set_cons_zero, List.set_cons_succ]
  refine wpAnyU_take (i := 10) (oi := { dst := some 58, op := _, type := _, pos := _, after := _, guard := none }) (v := .slice ga.A ga.n ga.c) rfl (by kernel_rfl) (by kernel_rfl) (by kernel_rfl) (by kernel_rfl) (fun _ _ _ h => h) (yields_take rfl (fun w' hw => by obtain ⟨h1, h2, h3⟩ := hw.const; go_simp)) hS0.out ?_
  simp only [Act.put, List.setIfInBounds_toArray, List.set_cons_zero, List.set_cons_succ]
  refine wpAnyU_take (i := 11) (oi := { dst := some 59, op := _, type := _, pos := _, after := _, guard := none }) (v := .slice (some ⟨bS, oS, none⟩) m kc) rfl (by kernel_rfl) (by kernel_rfl) (by kernel_rfl) (by kernel_rfl) (fun _ _ _ h => h) (yields_take rfl (fun w' hw => by obtain ⟨h1, h2, h3⟩ := hw.const; go_simp)) hS0.out ?_
  simp only [Act.put, List.setIfInBounds_toArray, List.set_cons_zero, List.set_cons_succ]
  refine wpAnyU_take (i := 12) (oi := { dst := some 60, op := _, type := _, pos := _, after := _, guard := none }) (v := .int .i64 (b : Int)) rfl (by kernel_rfl) (by kernel_rfl) (by kernel_rfl) (by kernel_rfl) (fun _ _ _ h => h) (yields_take rfl (fun w' hw => by obtain ⟨h1, h2, h3⟩ := hw.const; go_simp)) hS0.out ?_
  simp only [Act.put, List.setIfInBounds_toArray, List.set_cons_zero, List.set_cons_succ]
  refine wpAnyU_take (i := 13) (oi := { dst := some 61, op := _, type := _, pos := _, after := _, guard := none }) (v := .pointer (some ⟨bS, oS + b, none⟩)) rfl (by kernel_rfl) (by kernel_rfl) (by kernel_rfl) (by kernel_rfl) (fun _ _ _ h => h) (yields_take rfl (fun w' hw => by obtain ⟨h1, h2, h3⟩ := hw.const; go_simp)) hS0.out ?_
  simp only [Act.put, List.setIfInBounds_toArray, List.set_cons_zero, List.set_cons_succ]
  refine wpAnyU_take (i := 14) (oi := { dst := some 62, op := _, type := _, pos := _, after := _, guard := none }) (v := .slice gb.A gb.n gb.c) rfl (by kernel_rfl) (by kernel_rfl) (by kernel_rfl) (by kernel_rfl) (fun _ _ _ h => h) (yields_take rfl (fun w' hw => by obtain ⟨h1, h2, h3⟩ := hw.const; go_simp)) hS0.out ?_
  simp only [Act.put, List.setIfInBounds_toArray, List.set_cons_zero, List.set_cons_succ]
  refine wpAnyU_one (i := 3) (by kernel_rfl) rfl ?_
  intro K hK
  go_simp
  have hd1 : Below w3.heap.size w3 (w3.drew.alloc (.cells #[.int .i64 (a : Int), .int .i64 (b : Int)] 3)) := below_al6 hd0
  have HLT := hide (lit_lies w3.drew .i64 [(a : Int), (b : Int)] 3)
  have hS1 : Hid ((w3.drew.alloc (.cells #[.int .i64 (a : Int), .int .i64 (b : Int)] 3)).cell? ⟨w.heap.size, 0, none⟩ = some (.slice A m c) ∧ (w3.drew.alloc (.cells #[.int .i64 (a : Int), .int .i64 (b : Int)] 3)).cell? ⟨bS, oS + a, none⟩ = some (.slice ga.A ga.n ga.c) ∧ (w3.drew.alloc (.cells #[.int .i64 (a : Int), .int .i64 (b : Int)] 3)).cell? ⟨bS, oS + b, none⟩ = some (.slice gb.A gb.n gb.c)) := hide (HCC.out _ hd1)
  refine hK.out _ _ hS1.out (fun _ => ?_)
  clear hK K hS0
  refine wpAnyU_take (i := 4) (oi := { dst := some 52, op := _, type := _, pos := _, after := _, guard := none }) (v := .agg #[.int .u8 3, .slice (some ⟨w3.drew.heap.size, 0, none⟩) 2 2, .slice none 0 0, .int .i64 0, .int .i64 0]) rfl (by kernel_rfl) (by kernel_rfl) (by kernel_rfl) (by kernel_rfl) (fun _ _ _ h => h) (yields_take rfl (fun w' hw => by obtain ⟨h1, h2, h3⟩ := hw.const; go_simp)) hS1.out ?_
  simp only [Act.put, List.setIfInBounds_toArray, List.set_cons_zero, List.set_cons_succ]
  have HWC := hide (with_any A m c ns ⟨3, some ⟨w3.drew.heap.size, 0, none⟩, 2, 2, none, 0, 0, 0, 0, [(a : Int), (b : Int)], []⟩ _ (HN.out.below (below_nx6 HBN.out hd1)) HNIL.out ⟨HLT.out, Lies.nothing, Nat.le_refl _, Nat.le_refl _, by dsimp only; omega, by dsimp only; omega, by dsimp only; omega, by dsimp only; omega, by dsimp only; omega⟩ (by omega))
  unfold Nd.v at HWC
  refine wpAnyU_one (i := 5) (by kernel_rfl) rfl ?_
  intro K hK
  go_simp
  refine Calls.mono (HWC.out) ?_
  rintro e w4 ⟨AW, cW, rfl, hnw, hcw, hnl, hb⟩
  (try dsimp only)
  have hd2 : Below w3.heap.size w3 w4 := below_nx6 hd1 hb
  have HCK := hide (gcheck_any AW (m + 1) cW _ w4 hnw (by omega) hcw)
  rw [gph_snoc HGB.out, fit_add _ a b _ (by rw [HGL.out]; exact ham) (by rw [HGL.out]; exact hbm), HSA.out, HSB.out, HL.out, decide_eq_true (show m < 32 by omega), decide_eq_true (show (3 : Int) ≠ 1 by omega), decide_eq_true (show (3 : Int) ≠ 2 by omega)] at HCK
  simp only [Bool.true_and] at HCK
  clear hb hnw hcw hnl HWC
  (try dsimp only)
  have hS2 : Hid (w4.cell? ⟨w.heap.size, 0, none⟩ = some (.slice A m c) ∧ w4.cell? ⟨bS, oS + a, none⟩ = some (.slice ga.A ga.n ga.c) ∧ w4.cell? ⟨bS, oS + b, none⟩ = some (.slice gb.A gb.n gb.c)) := hide (HCC.out _ hd2)
  refine hK.out _ _ hS2.out (fun _ => ?_)
  clear hK K hS1
  obtain ⟨D, hD⟩ : ∃ z, z = decide (ga.s = gb.s) := ⟨_, rfl⟩
  rw [← hD] at HCK
  have HD := hide hD
  clear hD
  refine wpAnyU_one (i := 6) (by kernel_rfl) rfl ?_
  intro K hK
  go_simp
  refine Calls.mono (HCK.out) ?_
  rintro e w5 ⟨rfl, hb⟩
  (try dsimp only)
  have hd3 : Below w3.heap.size w3 w5 := below_nx6 hd2 hb
  clear hb HCK
  (try dsimp only)
  have hS3 : Hid (w5.cell? ⟨w.heap.size, 0, none⟩ = some (.slice A m c) ∧ w5.cell? ⟨bS, oS + a, none⟩ = some (.slice ga.A ga.n ga.c) ∧ w5.cell? ⟨bS, oS + b, none⟩ = some (.slice gb.A gb.n gb.c)) := hide (HCC.out _ hd3)
  refine hK.out _ _ hS3.out (fun _ => ?_)
  clear hK K hS2
  refine wpAnyU_one (i := 15) (by kernel_rfl) rfl ?_
  intro K hK
  go_simp
  refine Calls.mono (sameI_any ga.A gb.A ga.n ga.c gb.n gb.c ga.s gb.s _ (HLA.out.below hd3) (HLB.out.below hd3) (by omega)) ?_
  rintro e w6 ⟨he, hb⟩
  (try dsimp only)
  rw [← HD.out] at he
  subst he
  have hd4 : Below w3.heap.size w3 w6 := below_nx6 hd3 hb
  clear hb
  (try dsimp only)
  have hS4 : Hid (w6.cell? ⟨w.heap.size, 0, none⟩ = some (.slice A m c) ∧ w6.cell? ⟨bS, oS + a, none⟩ = some (.slice ga.A ga.n ga.c) ∧ w6.cell? ⟨bS, oS + b, none⟩ = some (.slice gb.A gb.n gb.c)) := hide (HCC.out _ hd4)
  refine hK.out _ _ hS4.out (fun _ => ?_)
  clear hK K hS3
  refine wpAnyU_take (i := 16) (oi := { dst := some 64, op := _, type := _, pos := _, after := _, guard := none }) (v := .bool false) rfl (by kernel_rfl) (by kernel_rfl) (by kernel_rfl) (by kernel_rfl) (fun _ _ _ h => h) (yields_take rfl (fun w' hw => by obtain ⟨h1, h2, h3⟩ := hw.const; go_simp)) hS4.out ?_
  simp only [Act.put, List.setIfInBounds_toArray, List.set_cons_zero, List.set_cons_succ]
  refine wpAnyU_done (by kernel_rfl) ?_ _
  clear hS4
  replace HBN := hide (below_nx6 HBN.out hd4)
  obtain ⟨c0, c2, c3⟩ := HCC.out _ hd4
  have HD4 := hide hd4
  have HGA : Hid (ga.s.length = ga.n) := hide (lies_len9 HLA.out)
  have hga1 : 1 ≤ ga.n := by have h := (sizeI_pos HPA.out).1; rw [HGA.out] at h; exact h
  clear hd4 hd3 hd2 hd1 hd0 c2 c3 HD HLT
  have hlt : Below w6.heap.size w6 (w6.alloc (.cells #[.int .i64 (a : Int), .int .i64 (a : Int)] 3)) := below_al6 (Below.refl _ _)
  have HLT := hide hlt
  have HWC := hide (with_any A m c ns ⟨12, some ⟨w6.heap.size, 0, none⟩, 2, 2, none, 0, 0, (k : Int), 0, [(a : Int), (a : Int)], []⟩ _ (HN.out.below (below_nx6 HBN.out hlt)) HNIL.out ⟨lit_lies w6 .i64 [(a : Int), (a : Int)] 3, Lies.nothing, Nat.le_refl _, Nat.le_refl _, by dsimp only; omega, by dsimp only; omega, by dsimp only; omega, by dsimp only; omega, by dsimp only; omega⟩ (by omega))
  unfold Nd.v at HWC
  clear hlt
  go_wp2_with fail
  refine Calls.mono HWC.out ?_
  rintro e w7 ⟨AJ, cJ, rfl, hnw, hcw, hnl, hb⟩
  have hz : Below w6.heap.size w6 w7 := below_nx6 HLT.out hb
  replace HBN := hide (below_nx6 HBN.out hz)
  have HD7 := hide (below_nx6 HD4.out hz)
  have HFJ : Hid (gphB (ns ++ [⟨12, some ⟨w6.heap.size, 0, none⟩, 2, 2, none, 0, 0, (k : Int), 0, [(a : Int), (a : Int)], []⟩]) = (decide (k < ga.n) && decide (0 < sizeI (twL ga.s k)))) := hide (by
    rw [gph_snoc HGB.out, fit_join _ a k _ (by rw [HGL.out]; exact ham) hk3, HSA.out, HL.out, HGA.out, decide_eq_true (show m < 32 by omega), decide_eq_true (show (12 : Int) ≠ 1 by omega), decide_eq_true (show (12 : Int) ≠ 2 by omega)]
    simp only [Bool.true_and])
  have HS2 := hide (gshapes_any AJ (m + 1) cJ _ w7 hnw (by omega) hcw)
  obtain ⟨E2, hE2⟩ : ∃ z, z = gphE (ns ++ [⟨12, some ⟨w6.heap.size, 0, none⟩, 2, 2, none, 0, 0, (k : Int), 0, [(a : Int), (a : Int)], []⟩]) := ⟨_, rfl⟩
  rw [← hE2] at HS2
  have HE2 := hide hE2
  clear hE2 hz hb hnw hcw hnl HLT HWC
  go_wp2_with fail
  refine Calls.mono HS2.out ?_
  rintro e w8 ⟨R2, m2, kc2, gs2, rfl, hG2, hgs2, hb⟩
  have HSG2 := hide hG2.sg
  have HGS2 := hide hgs2
  have HM2 : Hid (m2 = (gphS (ns ++ [⟨12, some ⟨w6.heap.size, 0, none⟩, 2, 2, none, 0, 0, (k : Int), 0, [(a : Int), (a : Int)], []⟩])).length) := hide (by rw [← hgs2, List.length_map, hG2.1])
  have hd8 : Below w3.heap.size w3 w8 := below_nx6 HD7.out hb
  replace HBN := hide (below_nx6 HBN.out hb)
  obtain ⟨c0', c2, c3⟩ := HCC.out _ hd8
  have HD8 := hide hd8
  clear hd8 hb hG2 hgs2 HS2 HD7 HD4 c0 c0' c3
  by_cases hkl : ga.n ≤ k
  · have q1 : (ga.n : Int) ≤ (k : Int) := by omega
    have hE1 : E2 = 1 := by rw [HE2.out, gphE, HFJ.out, decide_eq_false (by omega)]; rfl
    subst hE1
    go_wp2
    go_ret
    exact ⟨rfl, below_nx6 HB0.out HBN.out⟩
  have q1 : ¬ (ga.n : Int) ≤ (k : Int) := by omega
  obtain ⟨i0, hi, hz0, hz1, hz2⟩ := info_parts Try.infoI
  have HI := hide hi
  have HZ0 := hide hz0
  have HZ1 := hide hz1
  have HZ2 := hide hz2
  have HNA : Hid (ga.A = none → ga.c = 0) := hide (fun h => by obtain ⟨_, _, e, _⟩ := byte_at HLA.out (by omega); rw [h] at e; cases e)
  have HLA8 := hide (HLA.out.below HD8.out)
  clear hi hz0 hz1 hz2
  go_wp2_with (at_builtin; with_reducible refine wpList_append_nil rfl (.const (.slice none 0 0)) (.tmp 91) 33 rfl 3 i0 (.int .i64 0) 8 Try.underlying33 HI.out HZ0.out HZ1.out HZ2.out rfl rfl ga.A ga.n ga.c .i64 ga.s rfl HLA8.out HNA.out (by omega) (by unfold maxLen; omega) ?_)
  intro AT cT w9 hoT hbT
  obtain ⟨gT, rfl⟩ : ∃ g, AT = some ⟨g, 0, none⟩ := by
    rcases hoT.2 with ⟨_, h0⟩ | ⟨g, cap, cur, e0, _⟩
    · omega
    · injection e0 with e0; exact ⟨g, e0⟩
  have hkn : k < ga.n := by omega
  obtain ⟨y0, y1⟩ := own_cells9 hoT hkn
  have j4 : (0 : Int) ≤ (k : Int) := by omega
  have j5 : (k : Int) < (ga.n : Int) := by omega
  obtain ⟨d, hd⟩ : ∃ z, z = ga.s.getD k 0 := ⟨_, rfl⟩
  rw [← hd] at y0
  have hdb : 1 ≤ d ∧ d ≤ 64 := by rw [hd]; have h := (size_dims HPA.out).at (k := k) (by rw [HGA.out]; exact hkn); omega
  obtain ⟨dd, hdd⟩ : ∃ z, z = 2 * d := ⟨_, rfl⟩
  have m9 : IntKind.i64.wrap (2 * d) = dd := by rw [IntKind.wrap_i64]; omega
  have HTW : Hid ((w9.setCell ⟨gT, k, none⟩ (.int .i64 dd)).ownsRow w8.heap.size 3 1 (.slice (some ⟨gT, 0, none⟩) ga.n cT) ga.n ((twL ga.s k).map (Value.int .i64))) := hide (by
    have h := own_set9 (v := .int .i64 dd) hoT hkn
    rw [twL, List.map_set, ← hd, ← hdd]
    exact h)
  have HLT := hide (lies_of_own HTW.out)
  have hB9 : Below w8.heap.size w8 (w9.setCell ⟨gT, k, none⟩ (.int .i64 dd)) := hbT.setCell (by have := own_ge9 hoT; dsimp only; omega) _
  have HB9' := hide hB9
  have HTL : Hid ((twL ga.s k).length = ga.n) := hide (by rw [twL_len, HGA.out])
  clear hoT hbT hB9 hd hdd HI HZ0 HZ1 HZ2
  have HCKT := hide (check_any (some ⟨gT, 0, none⟩) ga.n cT (twL ga.s k) _ HLT.out (by omega))
  by_cases hsz : 0 < sizeI (twL ga.s k)
  · have hFB : gphB (ns ++ [⟨12, some ⟨w6.heap.size, 0, none⟩, 2, 2, none, 0, 0, (k : Int), 0, [(a : Int), (a : Int)], []⟩]) = true := by rw [HFJ.out, decide_eq_true hkn, decide_eq_true hsz]; rfl
    have hE0 : E2 = 0 := by rw [HE2.out]; exact gphE_zero.2 hFB
    subst hE0
    rw [decide_eq_true hsz] at HCKT
    have HFB := hide hFB
    have hm2 : m2 = m + 1 := by rw [HM2.out, gphS_len hFB, List.length_append, HL.out]; rfl
    subst hm2
    clear hFB hsz
    go_wp2_with fail
    refine Calls.mono HCKT.out ?_
    rintro e w10 ⟨rfl, hb⟩
    have HD10 := hide (below_nx6 HB9'.out hb)
    have HLT10 := hide (HLT.out.below hb)
    clear hb HCKT c2 y0 y1
    obtain ⟨bT, oT, g2, rfl, hg2, hcg2, hlg2, hgn2, hgo2⟩ := (HSG2.out.below HD10.out).at (show m < m + 1 by omega)
    have HEQ : Hid (g2.s = twL ga.s k) := hide (by
      have h1 : (gs2.map Sg.s)[m]? = some g2.s := by rw [List.getElem?_map, hg2]; rfl
      have hft := (may_fit HFB.out (k := m) (by rw [List.getElem?_append_right (by rw [HL.out]; exact Nat.le_refl _), HL.out, Nat.sub_self]; rfl)).1
      rw [gphS_snoc HGB.out HFB.out, List.take_left' HGL.out] at hft
      rw [HGS2.out, gphS_snoc HGB.out HFB.out, List.getElem?_append_right (by rw [HGL.out]; exact Nat.le_refl _), HGL.out, Nat.sub_self, sh_join _ a k _ hft, HSA.out] at h1
      injection h1 with h1
      exact h1.symm)
    have j6 : (0 : Int) ≤ (m : Int) := by omega
    have j7 : (m : Int) < ((m + 1 : Nat) : Int) := by omega
    have HSI := hide (sameI_any g2.A (some ⟨gT, 0, none⟩) g2.n g2.c ga.n cT g2.s (twL ga.s k) w10 hlg2 HLT10.out (by omega))
    rw [decide_eq_true HEQ.out] at HSI
    clear hg2 hlg2
    go_wp2_with fail
    refine Calls.mono HSI.out ?_
    rintro e w11 ⟨rfl, hb⟩
    have HD11 := hide (below_nx6 HD10.out hb)
    clear hb HSI hcg2
    go_wp2
    go_ret
    exact ⟨rfl, below_nx6 HB0.out (below_nx6 HBN.out HD11.out)⟩
  · have hFB : gphB (ns ++ [⟨12, some ⟨w6.heap.size, 0, none⟩, 2, 2, none, 0, 0, (k : Int), 0, [(a : Int), (a : Int)], []⟩]) = false := by rw [HFJ.out, decide_eq_false hsz, Bool.and_false]
    have hE1 : E2 = 1 := by rw [HE2.out, gphE, hFB]; rfl
    subst hE1
    rw [decide_eq_false hsz] at HCKT
    clear hFB hsz
    go_wp2_with fail
    refine Calls.mono HCKT.out ?_
    rintro e w10 ⟨rfl, hb⟩
    have HD10 := hide (below_nx6 HB9'.out hb)
    clear hb HCKT c2 y0 y1
    go_wp2
    go_ret
    exact ⟨rfl, below_nx6 HB0.out (below_nx6 HBN.out HD10.out)⟩

end Go.Proofs.Ytdlhhkegkfhmoaa
